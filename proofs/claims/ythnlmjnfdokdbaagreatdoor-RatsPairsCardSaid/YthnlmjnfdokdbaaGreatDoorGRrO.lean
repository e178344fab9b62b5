/- The document's answer for fractions: what is done with one and with two. -/
import Derived.Test.YthnlmjnfdokdbaaGreatDoorGRrF
import Derived.Test.YthnlmjnfdokdbaaGreatDoorGMathG
set_option linter.unusedSimpArgs false
set_option linter.unusedVariables false
set_option maxRecDepth 100000
set_option maxHeartbeats 8000000
namespace Go.Proofs.YthnlmjnfdokdbaaGreatDoor
open Go Go.Proofs Go.RowKit Go.Shelf Nu

attribute [local go_sem] Oper.semAt_some

theorem rr_times {w : World} {p1 p2 : Option Addr} {q1 q2 B : Nat} {s1 s3 : Bool} {L1 L2 L3 : List Nat} {N P : Int} (cN : Can s1 L1 N) (hB : L2 = digs B) (cP : Can s3 L3 P) (e : P = N * ((B : Nat) : Int)) (l1 : L1.length ≤ 50000) (l2 : L2.length ≤ 50000) (h1 : Reads w (.slice p1 L1.length q1) L1) (h2 : Reads w (.slice p2 L2.length q2) L2) :
  Calls Tryz.prog 57 #[.agg #[.bool s1, .slice p1 L1.length q1], .slice p2 L2.length q2] w fun e w' => ∃ a c, e = .returned (.agg #[.bool s3, .slice a L3.length c]) ∧ Reads w' (.slice a L3.length c) L3 ∧ Below w.heap.size w w' := by
 have cB : Can false L2 ((B : Nat) : Int) := ⟨by simp, by rw [hB]; simp⟩
 have K := Lib.hid (fun (W : World) (y1 : Reads W (.slice p1 L1.length q1) L1) (y2 : Reads W (.slice p2 L2.length q2) L2) => p_mul cN.is cB.is cP e l1 l2 y1 y2)
 have M : Mem w [(w.heap.size + 1, 25, [.bool false, .slice none 0 0]), (w.heap.size, 25, [.bool s1, .slice p1 L1.length q1])] [(.slice p2 L2.length q2, L2), (.slice p1 L1.length q1, L1)] ((w.alloc (.cells #[.bool s1, .slice p1 L1.length q1] 25)).alloc (.cells #[.bool false, .slice none 0 0] 25)) := by
  have M := (((((Mem.start w).add h1).add h2).new 25 [.bool s1, .slice p1 L1.length q1]).new 25 [.bool false, .slice none 0 0])
  simpa only [World.size_alloc] using M
 clear cN hB cP e l1 l2 cB h1 h2
 go_enter Tryz.func57, Tryz.ntmps57
 have z0 := M.cell 1 rfl 0 rfl; have z1 := M.cell 1 rfl 1 rfl
 go_wp2_with fail
 clear z0 z1
 refine (K.out _ (M.get 1 rfl) (M.get 0 rfl)).mono ?_
 rintro e w1 ⟨a, c, rfl, y, rr⟩
 have M' := (M.up rr).add y; clear M rr y; have M := M'; clear M'
 have z0 := M.cell 0 rfl 0 rfl; have z1 := M.cell 0 rfl 1 rfl; have f0 := M.fr 0 rfl 0; have f1 := M.fr 0 rfl 1
 go_wp2_with fail
 have M' := (M.put 0 rfl rfl 0 (.bool s3)).put 0 rfl rfl 1 (.slice a L3.length c)
 refine ret_boxN rfl rfl (M'.box 0 rfl) Tryz.underlying25 size_int rfl ?_
 exact ⟨a, c, rfl, M'.get 0 rfl, M'.below⟩
theorem rr_sum_eq (X Y : Rat) : X + Y = ((X.num * ((Y.den : Nat) : Int) + Y.num * ((X.den : Nat) : Int) : Int) : Rat) / (((X.den * Y.den : Nat) : Int) : Rat) := by
 have h1 := rat_den X
 have h2 := rat_den Y
 have n1 := rnz X.den_nz
 have n2 := rnz Y.den_nz
 rw [Rat.intCast_natCast, Rat.natCast_mul, Rat.intCast_add, Rat.intCast_mul, Rat.intCast_mul, Rat.intCast_natCast, Rat.intCast_natCast]
 generalize ((X.num : Int) : Rat) = a at *
 generalize ((X.den : Nat) : Rat) = b at *
 generalize ((Y.num : Int) : Rat) = c at *
 generalize ((Y.den : Nat) : Rat) = d at *
 have h3 : X = a / b := by grind
 have h4 : Y = c / d := by grind
 rw [h3, h4]
 grind
theorem rr_mul_eq (X Y : Rat) : X * Y = ((X.num * Y.num : Int) : Rat) / (((X.den * Y.den : Nat) : Int) : Rat) := by
 have h1 := rat_den X
 have h2 := rat_den Y
 have n1 := rnz X.den_nz
 have n2 := rnz Y.den_nz
 rw [Rat.intCast_natCast, Rat.natCast_mul, Rat.intCast_mul]
 generalize ((X.num : Int) : Rat) = a at *
 generalize ((X.den : Nat) : Rat) = b at *
 generalize ((Y.num : Int) : Rat) = c at *
 generalize ((Y.den : Nat) : Rat) = d at *
 have h3 : X = a / b := by grind
 have h4 : Y = c / d := by grind
 rw [h3, h4]
 grind
theorem rr_mul {w : World} {p1 o1 p2 o2 : Option Addr} {q1 r1 q2 r2 : Nat} {n1 n2 : Bool} {l1 d1 l2 d2 : List Nat} {X Y : Rat} {sZ : Bool} {LZ DZ : List Nat} {Z : Rat} (kZ : RCan sZ LZ DZ Z) (eZ : Z = X * Y) (hX : RIs n1 l1 d1 X) (hY : RIs n2 l2 d2 Y) (b1 : l1.length ≤ 9999) (b2 : d1.length ≤ 9999) (b3 : l2.length ≤ 9999) (b4 : d2.length ≤ 9999) (g1 : Reads w (.slice p1 l1.length q1) l1) (g2 : Reads w (.slice o1 d1.length r1) d1) (g3 : Reads w (.slice p2 l2.length q2) l2) (g4 : Reads w (.slice o2 d2.length r2) d2) :
  Calls Tryz.prog 22 #[.agg #[.bool n1, .slice p1 l1.length q1, .slice o1 d1.length r1], .agg #[.bool n2, .slice p2 l2.length q2, .slice o2 d2.length r2]] w fun e w' => ∃ a c a' c', e = .returned (.agg #[.bool sZ, .slice a LZ.length c, .slice a' DZ.length c']) ∧ Reads w' (.slice a LZ.length c) LZ ∧ Reads w' (.slice a' DZ.length c') DZ ∧ Below w.heap.size w w' := by
 obtain ⟨sX, LX, DX, kX⟩ := RCan.ex X
 have lX := hX.lens kX
 obtain ⟨sY, LY, DY, kY⟩ := RCan.ex Y
 have lY := hY.lens kY
 have KFX := Lib.hid (fun (W : World) (y1 : Reads W (.slice p1 l1.length q1) l1) (y2 : Reads W (.slice o1 d1.length r1) d1) => rr_fit hX kX (by omega) (by omega) y1 y2)
 have KFY := Lib.hid (fun (W : World) (y1 : Reads W (.slice p2 l2.length q2) l2) (y2 : Reads W (.slice o2 d2.length r2) d2) => rr_fit hY kY (by omega) (by omega) y1 y2)
 obtain ⟨B, hB⟩ : ∃ B, B = X.den * Y.den := ⟨_, rfl⟩
 obtain ⟨LB, hLB⟩ : ∃ L, L = digs B := ⟨_, rfl⟩
 have hB0 : B ≠ 0 := by rw [hB]; exact Nat.mul_ne_zero X.den_nz Y.den_nz
 have lB : LB.length ≤ 20000 := by
  have h6 := digs_mul_le X.den Y.den
  rw [← kX.2, ← kY.2] at h6
  rw [hLB, hB]
  omega
 have KB := Lib.hid (fun (W : World) {a b : Option Addr} {c d : Nat} (y1 : Reads W (.slice a DX.length c) DX) (y2 : Reads W (.slice b DY.length d) DY) => p_nmul (P := LB) kX.2 kY.2 (by rw [hLB, hB]) (by omega) (by omega) y1 y2)
 obtain ⟨sP, LP, cP⟩ := Can.ex (X.num * Y.num)
 have lP : LP.length ≤ 20000 := by
  have h6 := digs_mul_le X.num.natAbs Y.num.natAbs
  rw [← kX.1.2, ← kY.1.2] at h6
  rw [cP.2, Int.natAbs_mul]
  omega
 have KP := Lib.hid (fun (W : World) {a b : Option Addr} {c d : Nat} (y1 : Reads W (.slice a LX.length c) LX) (y2 : Reads W (.slice b LY.length d) LY) => p_mul kX.1.is kY.1.is cP rfl (by omega) (by omega) y1 y2)
 have KL := Lib.hid (fun (W : World) {a b : Option Addr} {c d : Nat} (y1 : Reads W (.slice a LP.length c) LP) (y2 : Reads W (.slice b LB.length d) LB) => rr_lowest cP hLB hB0 kZ (by rw [eZ, hB]; exact rr_mul_eq X Y) (by omega) (by omega) y1 y2)
 have M : Mem w [(w.heap.size + 1 + 1, 27, [.bool false, .slice none 0 0, .slice none 0 0]), (w.heap.size + 1, 27, [.bool n2, .slice p2 l2.length q2, .slice o2 d2.length r2]), (w.heap.size, 27, [.bool n1, .slice p1 l1.length q1, .slice o1 d1.length r1])] [(.slice o2 d2.length r2, d2), (.slice p2 l2.length q2, l2), (.slice o1 d1.length r1, d1), (.slice p1 l1.length q1, l1)] (((w.alloc (.cells #[.bool n1, .slice p1 l1.length q1, .slice o1 d1.length r1] 27)).alloc (.cells #[.bool n2, .slice p2 l2.length q2, .slice o2 d2.length r2] 27)).alloc (.cells #[.bool false, .slice none 0 0, .slice none 0 0] 27)) := by
  have M := ((((((((Mem.start w).add g1).add g2).add g3).add g4).new 27 [.bool n1, .slice p1 l1.length q1, .slice o1 d1.length r1]).new 27 [.bool n2, .slice p2 l2.length q2, .slice o2 d2.length r2]).new 27 [.bool false, .slice none 0 0, .slice none 0 0])
  simpa only [World.size_alloc] using M
 clear g1 g2 g3 g4 b1 b2 b3 b4 hX hY kX kY lX lY hB hLB hB0 lB cP lP kZ eZ
 go_enter Tryz.func22, Tryz.ntmps22
 have z0_0 := M.cell 0 rfl 0 rfl; have z0_1 := M.cell 0 rfl 1 rfl; have z0_2 := M.cell 0 rfl 2 rfl; have z1_0 := M.cell 1 rfl 0 rfl; have z1_1 := M.cell 1 rfl 1 rfl; have z1_2 := M.cell 1 rfl 2 rfl; have z2_0 := M.cell 2 rfl 0 rfl; have z2_1 := M.cell 2 rfl 1 rfl; have z2_2 := M.cell 2 rfl 2 rfl
 go_wp2_with fail
 clear z0_0 z0_1 z0_2 z1_0 z1_1 z1_2 z2_0 z2_1 z2_2
 refine (KFX.out _ (M.get 3 rfl) (M.get 2 rfl)).mono ?_
 rintro e w1 ⟨aX, cX, oX, rX, rfl, g, g', rr⟩
 have M' := ((M.up rr).add g).add g'; clear M rr g g'; have M := M'; clear M'
 have z0_0 := M.cell 0 rfl 0 rfl; have z0_1 := M.cell 0 rfl 1 rfl; have z0_2 := M.cell 0 rfl 2 rfl; have z1_0 := M.cell 1 rfl 0 rfl; have z1_1 := M.cell 1 rfl 1 rfl; have z1_2 := M.cell 1 rfl 2 rfl; have z2_0 := M.cell 2 rfl 0 rfl; have z2_1 := M.cell 2 rfl 1 rfl; have z2_2 := M.cell 2 rfl 2 rfl
 have f2_0 := M.fr 2 rfl 0; have f2_1 := M.fr 2 rfl 1; have f2_2 := M.fr 2 rfl 2
 go_wp2_with fail
 clear z0_0 z0_1 z0_2 z1_0 z1_1 z1_2 z2_0 z2_1 z2_2 f2_0 f2_1 f2_2
 have M' := (((M.put 2 rfl rfl 0 (.bool sX)).put 2 rfl rfl 1 (.slice aX LX.length cX)).put 2 rfl rfl 2 (.slice oX DX.length rX))
 clear M
 have M : Mem w [(w.heap.size + 1 + 1, 27, [.bool false, .slice none 0 0, .slice none 0 0]), (w.heap.size + 1, 27, [.bool n2, .slice p2 l2.length q2, .slice o2 d2.length r2]), (w.heap.size, 27, [.bool sX, .slice aX LX.length cX, .slice oX DX.length rX])] [(.slice oX DX.length rX, DX), (.slice aX LX.length cX, LX), (.slice o2 d2.length r2, d2), (.slice p2 l2.length q2, l2), (.slice o1 d1.length r1, d1), (.slice p1 l1.length q1, l1)] _ := M'
 clear M'
 refine (KFY.out _ (M.get 3 rfl) (M.get 2 rfl)).mono ?_
 rintro e w2 ⟨aY, cY, oY, rY, rfl, g, g', rr⟩
 have M' := ((M.up rr).add g).add g'; clear M rr g g'; have M := M'; clear M'
 have z0_0 := M.cell 0 rfl 0 rfl; have z0_1 := M.cell 0 rfl 1 rfl; have z0_2 := M.cell 0 rfl 2 rfl; have z1_0 := M.cell 1 rfl 0 rfl; have z1_1 := M.cell 1 rfl 1 rfl; have z1_2 := M.cell 1 rfl 2 rfl; have z2_0 := M.cell 2 rfl 0 rfl; have z2_1 := M.cell 2 rfl 1 rfl; have z2_2 := M.cell 2 rfl 2 rfl
 have f1_0 := M.fr 1 rfl 0; have f1_1 := M.fr 1 rfl 1; have f1_2 := M.fr 1 rfl 2
 go_wp2_with fail
 clear z0_0 z0_1 z0_2 z1_0 z1_1 z1_2 z2_0 z2_1 z2_2 f1_0 f1_1 f1_2
 have M' := (((M.put 1 rfl rfl 0 (.bool sY)).put 1 rfl rfl 1 (.slice aY LY.length cY)).put 1 rfl rfl 2 (.slice oY DY.length rY))
 clear M
 have M : Mem w [(w.heap.size + 1 + 1, 27, [.bool false, .slice none 0 0, .slice none 0 0]), (w.heap.size + 1, 27, [.bool sY, .slice aY LY.length cY, .slice oY DY.length rY]), (w.heap.size, 27, [.bool sX, .slice aX LX.length cX, .slice oX DX.length rX])] [(.slice oY DY.length rY, DY), (.slice aY LY.length cY, LY), (.slice oX DX.length rX, DX), (.slice aX LX.length cX, LX), (.slice o2 d2.length r2, d2), (.slice p2 l2.length q2, l2), (.slice o1 d1.length r1, d1), (.slice p1 l1.length q1, l1)] _ := M'
 clear M'
 refine region_mem (S := (fun W => BoxN W (w.heap.size) 27 #[.bool sX, .slice aX LX.length cX, .slice oX DX.length rX] ∧ BoxN W (w.heap.size + 1) 27 #[.bool sY, .slice aY LY.length cY, .slice oY DY.length rY])) M (by kernel_rfl) ?_
 intro V0 M
 have hS0 : (fun W => BoxN W (w.heap.size) 27 #[.bool sX, .slice aX LX.length cX, .slice oX DX.length rX] ∧ BoxN W (w.heap.size + 1) 27 #[.bool sY, .slice aY LY.length cY, .slice oY DY.length rY]) V0 := ⟨M.box 2 rfl, M.box 1 rfl⟩
 refine wpAnyH_take (i := 0) (oi := ⟨_, _, _, _, _, _⟩) (v := (.pointer (some ⟨w.heap.size, 0, none⟩))) rfl (by kernel_rfl) (by kernel_rfl) (by kernel_rfl) (fun _ _ _ h => h) (Or.inl ⟨by rfl, fun W3 hS => by go_simp⟩) hS0 ?_
 try simp only [Act.put, List.setIfInBounds_toArray, List.set_cons_zero, List.set_cons_succ]
 refine wpAnyH_take (i := 1) (oi := ⟨_, _, _, _, _, _⟩) (v := (.agg #[.bool sX, .slice aX LX.length cX])) rfl (by kernel_rfl) (by kernel_rfl) (by kernel_rfl) (fun _ _ _ h => h) (Or.inl ⟨by rfl, fun W3 hS => by obtain ⟨hS1, hS2⟩ := hS; have c1_0 := hS1.cell 0 _ rfl; have c1_1 := hS1.cell 1 _ rfl; have c1_2 := hS1.cell 2 _ rfl; go_simp⟩) hS0 ?_
 try simp only [Act.put, List.setIfInBounds_toArray, List.set_cons_zero, List.set_cons_succ]
 refine wpAnyH_take (i := 2) (oi := ⟨_, _, _, _, _, _⟩) (v := (.pointer (some ⟨w.heap.size + 1, 0, none⟩))) rfl (by kernel_rfl) (by kernel_rfl) (by kernel_rfl) (fun _ _ _ h => h) (Or.inl ⟨by rfl, fun W3 hS => by go_simp⟩) hS0 ?_
 try simp only [Act.put, List.setIfInBounds_toArray, List.set_cons_zero, List.set_cons_succ]
 refine wpAnyH_take (i := 3) (oi := ⟨_, _, _, _, _, _⟩) (v := (.agg #[.bool sY, .slice aY LY.length cY])) rfl (by kernel_rfl) (by kernel_rfl) (by kernel_rfl) (fun _ _ _ h => h) (Or.inl ⟨by rfl, fun W3 hS => by obtain ⟨hS1, hS2⟩ := hS; have c2_0 := hS2.cell 0 _ rfl; have c2_1 := hS2.cell 1 _ rfl; have c2_2 := hS2.cell 2 _ rfl; go_simp⟩) hS0 ?_
 try simp only [Act.put, List.setIfInBounds_toArray, List.set_cons_zero, List.set_cons_succ]
 refine wpAnyH_take (i := 5) (oi := ⟨_, _, _, _, _, _⟩) (v := (.pointer (some ⟨w.heap.size, 2, none⟩))) rfl (by kernel_rfl) (by kernel_rfl) (by kernel_rfl) (fun _ _ _ h => h) (Or.inl ⟨by rfl, fun W3 hS => by go_simp⟩) hS0 ?_
 try simp only [Act.put, List.setIfInBounds_toArray, List.set_cons_zero, List.set_cons_succ]
 refine wpAnyH_take (i := 6) (oi := ⟨_, _, _, _, _, _⟩) (v := (.slice oX DX.length rX)) rfl (by kernel_rfl) (by kernel_rfl) (by kernel_rfl) (fun _ _ _ h => h) (Or.inl ⟨by rfl, fun W3 hS => by obtain ⟨hS1, hS2⟩ := hS; have c1_0 := hS1.cell 0 _ rfl; have c1_1 := hS1.cell 1 _ rfl; have c1_2 := hS1.cell 2 _ rfl; go_simp⟩) hS0 ?_
 try simp only [Act.put, List.setIfInBounds_toArray, List.set_cons_zero, List.set_cons_succ]
 refine wpAnyH_take (i := 7) (oi := ⟨_, _, _, _, _, _⟩) (v := (.pointer (some ⟨w.heap.size + 1, 2, none⟩))) rfl (by kernel_rfl) (by kernel_rfl) (by kernel_rfl) (fun _ _ _ h => h) (Or.inl ⟨by rfl, fun W3 hS => by go_simp⟩) hS0 ?_
 try simp only [Act.put, List.setIfInBounds_toArray, List.set_cons_zero, List.set_cons_succ]
 refine wpAnyH_take (i := 8) (oi := ⟨_, _, _, _, _, _⟩) (v := (.slice oY DY.length rY)) rfl (by kernel_rfl) (by kernel_rfl) (by kernel_rfl) (fun _ _ _ h => h) (Or.inl ⟨by rfl, fun W3 hS => by obtain ⟨hS1, hS2⟩ := hS; have c2_0 := hS2.cell 0 _ rfl; have c2_1 := hS2.cell 1 _ rfl; have c2_2 := hS2.cell 2 _ rfl; go_simp⟩) hS0 ?_
 try simp only [Act.put, List.setIfInBounds_toArray, List.set_cons_zero, List.set_cons_succ]
 clear hS0
 refine wpAnyH_all (rs := [4]) (by kernel_rfl) (by simp) ?_
 intro i hi
 obtain rfl : i = 4 := by simpa using hi
 refine wpOp_intro rfl (fun K1 hK => ?_)
 clear hi
 go_simp
 refine (KP.out _ (M.get 3 rfl) (M.get 1 rfl)).mono ?_
 rintro e V1_4 ⟨a1, c1, rfl, g, rr⟩
 have M' := (M.up rr).add g
 clear M rr g
 have M := M'; clear M'
 refine hK _ _ ⟨⟨M.box 2 rfl, M.box 1 rfl⟩, ?_⟩
 clear hK K1
 refine wpAnyH_all (rs := [9]) (by kernel_rfl) (by simp) ?_
 intro i hi
 obtain rfl : i = 9 := by simpa using hi
 refine wpOp_intro rfl (fun K2 hK => ?_)
 clear hi
 go_simp
 refine (KB.out _ (M.get 3 rfl) (M.get 1 rfl)).mono ?_
 rintro e V2_9 ⟨a2, c2, rfl, g, rr⟩
 have M' := (M.up rr).add g
 clear M rr g
 have M := M'; clear M'
 refine hK _ _ ⟨⟨M.box 2 rfl, M.box 1 rfl⟩, ?_⟩
 clear hK K2
 refine wpAnyH_all (rs := [10]) (by kernel_rfl) (by simp) ?_
 intro i hi
 obtain rfl : i = 10 := by simpa using hi
 refine wpOp_intro rfl (fun K3 hK => ?_)
 clear hi
 go_simp
 refine (KL.out _ (M.get 1 rfl) (M.get 0 rfl)).mono ?_
 rintro e V3_10 ⟨a, c, a', c', rfl, g, g', rr⟩
 have M' := ((M.up rr).add g).add g'
 clear M rr g g'
 have M := M'; clear M'
 refine hK _ _ ⟨⟨M.box 2 rfl, M.box 1 rfl⟩, ?_⟩
 clear hK K3
 have f0_0 := M.fr 0 rfl 0; have f0_1 := M.fr 0 rfl 1; have f0_2 := M.fr 0 rfl 2
 have z0_0 := M.cell 0 rfl 0 rfl; have z0_1 := M.cell 0 rfl 1 rfl; have z0_2 := M.cell 0 rfl 2 rfl
 refine wpAnyH_all (rs := [11]) (by kernel_rfl) (by simp) ?_
 intro i hi
 obtain rfl : i = 11 := by simpa using hi
 refine wpOp_intro rfl (fun Ks4 hK => ?_)
 clear hi
 go_simp
 have M' := (((M.put 0 rfl rfl 0 (.bool sZ)).put 0 rfl rfl 1 (.slice a LZ.length c)).put 0 rfl rfl 2 (.slice a' DZ.length c'))
 clear M f0_0 z0_0 f0_1 z0_1 f0_2 z0_2
 have M : Mem w [(w.heap.size + 1 + 1, 27, [.bool sZ, .slice a LZ.length c, .slice a' DZ.length c']), (w.heap.size + 1, 27, [.bool sY, .slice aY LY.length cY, .slice oY DY.length rY]), (w.heap.size, 27, [.bool sX, .slice aX LX.length cX, .slice oX DX.length rX])] [(.slice a' DZ.length c', DZ), (.slice a LZ.length c, LZ), (.slice a2 LB.length c2, LB), (.slice a1 LP.length c1, LP), (.slice oY DY.length rY, DY), (.slice aY LY.length cY, LY), (.slice oX DX.length rX, DX), (.slice aX LX.length cX, LX), (.slice o2 d2.length r2, d2), (.slice p2 l2.length q2, l2), (.slice o1 d1.length r1, d1), (.slice p1 l1.length q1, l1)] _ := M'
 clear M'
 refine hK _ _ ⟨⟨M.box 2 rfl, M.box 1 rfl⟩, ?_⟩
 clear hK Ks4
 refine wpAnyH_done (by kernel_rfl) ?_ _
 go_wp2
 refine ret_boxN rfl rfl (M.box 0 rfl) Tryz.underlying27 size_rat rfl ?_
 exact ⟨a, c, a', c', rfl, M.get 1 rfl, M.get 0 rfl, M.below⟩
theorem rr_add {w : World} {p1 o1 p2 o2 : Option Addr} {q1 r1 q2 r2 : Nat} {n1 n2 : Bool} {l1 d1 l2 d2 : List Nat} {X Y : Rat} {sZ : Bool} {LZ DZ : List Nat} {Z : Rat} (kZ : RCan sZ LZ DZ Z) (eZ : Z = X + Y) (hX : RIs n1 l1 d1 X) (hY : RIs n2 l2 d2 Y) (b1 : l1.length ≤ 9999) (b2 : d1.length ≤ 9999) (b3 : l2.length ≤ 9999) (b4 : d2.length ≤ 9999) (g1 : Reads w (.slice p1 l1.length q1) l1) (g2 : Reads w (.slice o1 d1.length r1) d1) (g3 : Reads w (.slice p2 l2.length q2) l2) (g4 : Reads w (.slice o2 d2.length r2) d2) :
  Calls Tryz.prog 20 #[.agg #[.bool n1, .slice p1 l1.length q1, .slice o1 d1.length r1], .agg #[.bool n2, .slice p2 l2.length q2, .slice o2 d2.length r2]] w fun e w' => ∃ a c a' c', e = .returned (.agg #[.bool sZ, .slice a LZ.length c, .slice a' DZ.length c']) ∧ Reads w' (.slice a LZ.length c) LZ ∧ Reads w' (.slice a' DZ.length c') DZ ∧ Below w.heap.size w w' := by
 obtain ⟨sX, LX, DX, kX⟩ := RCan.ex X
 have lX := hX.lens kX
 obtain ⟨sY, LY, DY, kY⟩ := RCan.ex Y
 have lY := hY.lens kY
 have KFX := Lib.hid (fun (W : World) (y1 : Reads W (.slice p1 l1.length q1) l1) (y2 : Reads W (.slice o1 d1.length r1) d1) => rr_fit hX kX (by omega) (by omega) y1 y2)
 have KFY := Lib.hid (fun (W : World) (y1 : Reads W (.slice p2 l2.length q2) l2) (y2 : Reads W (.slice o2 d2.length r2) d2) => rr_fit hY kY (by omega) (by omega) y1 y2)
 obtain ⟨B, hB⟩ : ∃ B, B = X.den * Y.den := ⟨_, rfl⟩
 obtain ⟨LB, hLB⟩ : ∃ L, L = digs B := ⟨_, rfl⟩
 have hB0 : B ≠ 0 := by rw [hB]; exact Nat.mul_ne_zero X.den_nz Y.den_nz
 have lB : LB.length ≤ 20000 := by
  have h6 := digs_mul_le X.den Y.den
  rw [← kX.2, ← kY.2] at h6
  rw [hLB, hB]
  omega
 have KB := Lib.hid (fun (W : World) {a b : Option Addr} {c d : Nat} (y1 : Reads W (.slice a DX.length c) DX) (y2 : Reads W (.slice b DY.length d) DY) => p_nmul (P := LB) kX.2 kY.2 (by rw [hLB, hB]) (by omega) (by omega) y1 y2)
 obtain ⟨sP, LP, cP⟩ := Can.ex (X.num * ((Y.den : Nat) : Int))
 obtain ⟨sQ, LQ, cQ⟩ := Can.ex (Y.num * ((X.den : Nat) : Int))
 obtain ⟨sS, LS, cS⟩ := Can.ex (X.num * ((Y.den : Nat) : Int) + Y.num * ((X.den : Nat) : Int))
 have lP : LP.length ≤ 19999 := by
  have h6 := digs_mul_le X.num.natAbs Y.den
  rw [← kX.1.2, ← kY.2] at h6
  rw [cP.2, Int.natAbs_mul, Int.natAbs_natCast]
  omega
 have lQ : LQ.length ≤ 19999 := by
  have h6 := digs_mul_le Y.num.natAbs X.den
  rw [← kY.1.2, ← kX.2] at h6
  rw [cQ.2, Int.natAbs_mul, Int.natAbs_natCast]
  omega
 have lS : LS.length ≤ 40000 := by
  have h6 := digs_mono (Int.natAbs_add_le (X.num * ((Y.den : Nat) : Int)) (Y.num * ((X.den : Nat) : Int)))
  have h7 := digs_add_le (X.num * ((Y.den : Nat) : Int)).natAbs (Y.num * ((X.den : Nat) : Int)).natAbs
  rw [← cP.2, ← cQ.2] at h7
  rw [cS.2]
  omega
 have KP := Lib.hid (fun (W : World) {a b : Option Addr} {c d : Nat} (y1 : Reads W (.slice a LX.length c) LX) (y2 : Reads W (.slice b DY.length d) DY) => rr_times kX.1 kY.2 cP rfl (by omega) (by omega) y1 y2)
 have KQ := Lib.hid (fun (W : World) {a b : Option Addr} {c d : Nat} (y1 : Reads W (.slice a LY.length c) LY) (y2 : Reads W (.slice b DX.length d) DX) => rr_times kY.1 kX.2 cQ rfl (by omega) (by omega) y1 y2)
 have KS := Lib.hid (fun (W : World) {a b : Option Addr} {c d : Nat} (y1 : Reads W (.slice a LP.length c) LP) (y2 : Reads W (.slice b LQ.length d) LQ) => p_add cP.is cQ.is cS rfl (by omega) (by omega) y1 y2)
 have KL := Lib.hid (fun (W : World) {a b : Option Addr} {c d : Nat} (y1 : Reads W (.slice a LS.length c) LS) (y2 : Reads W (.slice b LB.length d) LB) => rr_lowest cS hLB hB0 kZ (by rw [eZ, hB]; exact rr_sum_eq X Y) (by omega) (by omega) y1 y2)
 have M : Mem w [(w.heap.size + 1 + 1, 27, [.bool false, .slice none 0 0, .slice none 0 0]), (w.heap.size + 1, 27, [.bool n2, .slice p2 l2.length q2, .slice o2 d2.length r2]), (w.heap.size, 27, [.bool n1, .slice p1 l1.length q1, .slice o1 d1.length r1])] [(.slice o2 d2.length r2, d2), (.slice p2 l2.length q2, l2), (.slice o1 d1.length r1, d1), (.slice p1 l1.length q1, l1)] (((w.alloc (.cells #[.bool n1, .slice p1 l1.length q1, .slice o1 d1.length r1] 27)).alloc (.cells #[.bool n2, .slice p2 l2.length q2, .slice o2 d2.length r2] 27)).alloc (.cells #[.bool false, .slice none 0 0, .slice none 0 0] 27)) := by
  have M := ((((((((Mem.start w).add g1).add g2).add g3).add g4).new 27 [.bool n1, .slice p1 l1.length q1, .slice o1 d1.length r1]).new 27 [.bool n2, .slice p2 l2.length q2, .slice o2 d2.length r2]).new 27 [.bool false, .slice none 0 0, .slice none 0 0])
  simpa only [World.size_alloc] using M
 clear g1 g2 g3 g4 b1 b2 b3 b4 hX hY kX kY lX lY hB hLB hB0 lB cP lP cQ lQ cS lS kZ eZ
 go_enter Tryz.func20, Tryz.ntmps20
 have z0_0 := M.cell 0 rfl 0 rfl; have z0_1 := M.cell 0 rfl 1 rfl; have z0_2 := M.cell 0 rfl 2 rfl; have z1_0 := M.cell 1 rfl 0 rfl; have z1_1 := M.cell 1 rfl 1 rfl; have z1_2 := M.cell 1 rfl 2 rfl; have z2_0 := M.cell 2 rfl 0 rfl; have z2_1 := M.cell 2 rfl 1 rfl; have z2_2 := M.cell 2 rfl 2 rfl
 go_wp2_with fail
 clear z0_0 z0_1 z0_2 z1_0 z1_1 z1_2 z2_0 z2_1 z2_2
 refine (KFX.out _ (M.get 3 rfl) (M.get 2 rfl)).mono ?_
 rintro e w1 ⟨aX, cX, oX, rX, rfl, g, g', rr⟩
 have M' := ((M.up rr).add g).add g'; clear M rr g g'; have M := M'; clear M'
 have z0_0 := M.cell 0 rfl 0 rfl; have z0_1 := M.cell 0 rfl 1 rfl; have z0_2 := M.cell 0 rfl 2 rfl; have z1_0 := M.cell 1 rfl 0 rfl; have z1_1 := M.cell 1 rfl 1 rfl; have z1_2 := M.cell 1 rfl 2 rfl; have z2_0 := M.cell 2 rfl 0 rfl; have z2_1 := M.cell 2 rfl 1 rfl; have z2_2 := M.cell 2 rfl 2 rfl
 have f2_0 := M.fr 2 rfl 0; have f2_1 := M.fr 2 rfl 1; have f2_2 := M.fr 2 rfl 2
 go_wp2_with fail
 clear z0_0 z0_1 z0_2 z1_0 z1_1 z1_2 z2_0 z2_1 z2_2 f2_0 f2_1 f2_2
 have M' := (((M.put 2 rfl rfl 0 (.bool sX)).put 2 rfl rfl 1 (.slice aX LX.length cX)).put 2 rfl rfl 2 (.slice oX DX.length rX))
 clear M
 have M : Mem w [(w.heap.size + 1 + 1, 27, [.bool false, .slice none 0 0, .slice none 0 0]), (w.heap.size + 1, 27, [.bool n2, .slice p2 l2.length q2, .slice o2 d2.length r2]), (w.heap.size, 27, [.bool sX, .slice aX LX.length cX, .slice oX DX.length rX])] [(.slice oX DX.length rX, DX), (.slice aX LX.length cX, LX), (.slice o2 d2.length r2, d2), (.slice p2 l2.length q2, l2), (.slice o1 d1.length r1, d1), (.slice p1 l1.length q1, l1)] _ := M'
 clear M'
 refine (KFY.out _ (M.get 3 rfl) (M.get 2 rfl)).mono ?_
 rintro e w2 ⟨aY, cY, oY, rY, rfl, g, g', rr⟩
 have M' := ((M.up rr).add g).add g'; clear M rr g g'; have M := M'; clear M'
 have z0_0 := M.cell 0 rfl 0 rfl; have z0_1 := M.cell 0 rfl 1 rfl; have z0_2 := M.cell 0 rfl 2 rfl; have z1_0 := M.cell 1 rfl 0 rfl; have z1_1 := M.cell 1 rfl 1 rfl; have z1_2 := M.cell 1 rfl 2 rfl; have z2_0 := M.cell 2 rfl 0 rfl; have z2_1 := M.cell 2 rfl 1 rfl; have z2_2 := M.cell 2 rfl 2 rfl
 have f1_0 := M.fr 1 rfl 0; have f1_1 := M.fr 1 rfl 1; have f1_2 := M.fr 1 rfl 2
 go_wp2_with fail
 clear z0_0 z0_1 z0_2 z1_0 z1_1 z1_2 z2_0 z2_1 z2_2 f1_0 f1_1 f1_2
 have M' := (((M.put 1 rfl rfl 0 (.bool sY)).put 1 rfl rfl 1 (.slice aY LY.length cY)).put 1 rfl rfl 2 (.slice oY DY.length rY))
 clear M
 have M : Mem w [(w.heap.size + 1 + 1, 27, [.bool false, .slice none 0 0, .slice none 0 0]), (w.heap.size + 1, 27, [.bool sY, .slice aY LY.length cY, .slice oY DY.length rY]), (w.heap.size, 27, [.bool sX, .slice aX LX.length cX, .slice oX DX.length rX])] [(.slice oY DY.length rY, DY), (.slice aY LY.length cY, LY), (.slice oX DX.length rX, DX), (.slice aX LX.length cX, LX), (.slice o2 d2.length r2, d2), (.slice p2 l2.length q2, l2), (.slice o1 d1.length r1, d1), (.slice p1 l1.length q1, l1)] _ := M'
 clear M'
 refine region_mem (S := (fun W => BoxN W (w.heap.size) 27 #[.bool sX, .slice aX LX.length cX, .slice oX DX.length rX] ∧ BoxN W (w.heap.size + 1) 27 #[.bool sY, .slice aY LY.length cY, .slice oY DY.length rY])) M (by kernel_rfl) ?_
 intro V0 M
 have hS0 : (fun W => BoxN W (w.heap.size) 27 #[.bool sX, .slice aX LX.length cX, .slice oX DX.length rX] ∧ BoxN W (w.heap.size + 1) 27 #[.bool sY, .slice aY LY.length cY, .slice oY DY.length rY]) V0 := ⟨M.box 2 rfl, M.box 1 rfl⟩
 refine wpAnyH_take (i := 0) (oi := ⟨_, _, _, _, _, _⟩) (v := (.pointer (some ⟨w.heap.size, 0, none⟩))) rfl (by kernel_rfl) (by kernel_rfl) (by kernel_rfl) (fun _ _ _ h => h) (Or.inl ⟨by rfl, fun W3 hS => by go_simp⟩) hS0 ?_
 try simp only [Act.put, List.setIfInBounds_toArray, List.set_cons_zero, List.set_cons_succ]
 refine wpAnyH_take (i := 1) (oi := ⟨_, _, _, _, _, _⟩) (v := (.agg #[.bool sX, .slice aX LX.length cX])) rfl (by kernel_rfl) (by kernel_rfl) (by kernel_rfl) (fun _ _ _ h => h) (Or.inl ⟨by rfl, fun W3 hS => by obtain ⟨hS1, hS2⟩ := hS; have c1_0 := hS1.cell 0 _ rfl; have c1_1 := hS1.cell 1 _ rfl; have c1_2 := hS1.cell 2 _ rfl; go_simp⟩) hS0 ?_
 try simp only [Act.put, List.setIfInBounds_toArray, List.set_cons_zero, List.set_cons_succ]
 refine wpAnyH_take (i := 2) (oi := ⟨_, _, _, _, _, _⟩) (v := (.pointer (some ⟨w.heap.size + 1, 2, none⟩))) rfl (by kernel_rfl) (by kernel_rfl) (by kernel_rfl) (fun _ _ _ h => h) (Or.inl ⟨by rfl, fun W3 hS => by go_simp⟩) hS0 ?_
 try simp only [Act.put, List.setIfInBounds_toArray, List.set_cons_zero, List.set_cons_succ]
 refine wpAnyH_take (i := 3) (oi := ⟨_, _, _, _, _, _⟩) (v := (.slice oY DY.length rY)) rfl (by kernel_rfl) (by kernel_rfl) (by kernel_rfl) (fun _ _ _ h => h) (Or.inl ⟨by rfl, fun W3 hS => by obtain ⟨hS1, hS2⟩ := hS; have c2_0 := hS2.cell 0 _ rfl; have c2_1 := hS2.cell 1 _ rfl; have c2_2 := hS2.cell 2 _ rfl; go_simp⟩) hS0 ?_
 try simp only [Act.put, List.setIfInBounds_toArray, List.set_cons_zero, List.set_cons_succ]
 refine wpAnyH_take (i := 5) (oi := ⟨_, _, _, _, _, _⟩) (v := (.pointer (some ⟨w.heap.size + 1, 0, none⟩))) rfl (by kernel_rfl) (by kernel_rfl) (by kernel_rfl) (fun _ _ _ h => h) (Or.inl ⟨by rfl, fun W3 hS => by go_simp⟩) hS0 ?_
 try simp only [Act.put, List.setIfInBounds_toArray, List.set_cons_zero, List.set_cons_succ]
 refine wpAnyH_take (i := 6) (oi := ⟨_, _, _, _, _, _⟩) (v := (.agg #[.bool sY, .slice aY LY.length cY])) rfl (by kernel_rfl) (by kernel_rfl) (by kernel_rfl) (fun _ _ _ h => h) (Or.inl ⟨by rfl, fun W3 hS => by obtain ⟨hS1, hS2⟩ := hS; have c2_0 := hS2.cell 0 _ rfl; have c2_1 := hS2.cell 1 _ rfl; have c2_2 := hS2.cell 2 _ rfl; go_simp⟩) hS0 ?_
 try simp only [Act.put, List.setIfInBounds_toArray, List.set_cons_zero, List.set_cons_succ]
 refine wpAnyH_take (i := 7) (oi := ⟨_, _, _, _, _, _⟩) (v := (.pointer (some ⟨w.heap.size, 2, none⟩))) rfl (by kernel_rfl) (by kernel_rfl) (by kernel_rfl) (fun _ _ _ h => h) (Or.inl ⟨by rfl, fun W3 hS => by go_simp⟩) hS0 ?_
 try simp only [Act.put, List.setIfInBounds_toArray, List.set_cons_zero, List.set_cons_succ]
 refine wpAnyH_take (i := 8) (oi := ⟨_, _, _, _, _, _⟩) (v := (.slice oX DX.length rX)) rfl (by kernel_rfl) (by kernel_rfl) (by kernel_rfl) (fun _ _ _ h => h) (Or.inl ⟨by rfl, fun W3 hS => by obtain ⟨hS1, hS2⟩ := hS; have c1_0 := hS1.cell 0 _ rfl; have c1_1 := hS1.cell 1 _ rfl; have c1_2 := hS1.cell 2 _ rfl; go_simp⟩) hS0 ?_
 try simp only [Act.put, List.setIfInBounds_toArray, List.set_cons_zero, List.set_cons_succ]
 refine wpAnyH_take (i := 11) (oi := ⟨_, _, _, _, _, _⟩) (v := (.pointer (some ⟨w.heap.size, 2, none⟩))) rfl (by kernel_rfl) (by kernel_rfl) (by kernel_rfl) (fun _ _ _ h => h) (Or.inl ⟨by rfl, fun W3 hS => by go_simp⟩) hS0 ?_
 try simp only [Act.put, List.setIfInBounds_toArray, List.set_cons_zero, List.set_cons_succ]
 refine wpAnyH_take (i := 12) (oi := ⟨_, _, _, _, _, _⟩) (v := (.slice oX DX.length rX)) rfl (by kernel_rfl) (by kernel_rfl) (by kernel_rfl) (fun _ _ _ h => h) (Or.inl ⟨by rfl, fun W3 hS => by obtain ⟨hS1, hS2⟩ := hS; have c1_0 := hS1.cell 0 _ rfl; have c1_1 := hS1.cell 1 _ rfl; have c1_2 := hS1.cell 2 _ rfl; go_simp⟩) hS0 ?_
 try simp only [Act.put, List.setIfInBounds_toArray, List.set_cons_zero, List.set_cons_succ]
 refine wpAnyH_take (i := 13) (oi := ⟨_, _, _, _, _, _⟩) (v := (.pointer (some ⟨w.heap.size + 1, 2, none⟩))) rfl (by kernel_rfl) (by kernel_rfl) (by kernel_rfl) (fun _ _ _ h => h) (Or.inl ⟨by rfl, fun W3 hS => by go_simp⟩) hS0 ?_
 try simp only [Act.put, List.setIfInBounds_toArray, List.set_cons_zero, List.set_cons_succ]
 refine wpAnyH_take (i := 14) (oi := ⟨_, _, _, _, _, _⟩) (v := (.slice oY DY.length rY)) rfl (by kernel_rfl) (by kernel_rfl) (by kernel_rfl) (fun _ _ _ h => h) (Or.inl ⟨by rfl, fun W3 hS => by obtain ⟨hS1, hS2⟩ := hS; have c2_0 := hS2.cell 0 _ rfl; have c2_1 := hS2.cell 1 _ rfl; have c2_2 := hS2.cell 2 _ rfl; go_simp⟩) hS0 ?_
 try simp only [Act.put, List.setIfInBounds_toArray, List.set_cons_zero, List.set_cons_succ]
 clear hS0
 refine wpAnyH_all (rs := [4]) (by kernel_rfl) (by simp) ?_
 intro i hi
 obtain rfl : i = 4 := by simpa using hi
 refine wpOp_intro rfl (fun K1 hK => ?_)
 clear hi
 go_simp
 refine (KP.out _ (M.get 3 rfl) (M.get 0 rfl)).mono ?_
 rintro e V1_4 ⟨a1, c1, rfl, g, rr⟩
 have M' := (M.up rr).add g
 clear M rr g
 have M := M'; clear M'
 refine hK _ _ ⟨⟨M.box 2 rfl, M.box 1 rfl⟩, ?_⟩
 clear hK K1
 refine wpAnyH_all (rs := [9]) (by kernel_rfl) (by simp) ?_
 intro i hi
 obtain rfl : i = 9 := by simpa using hi
 refine wpOp_intro rfl (fun K2 hK => ?_)
 clear hi
 go_simp
 refine (KQ.out _ (M.get 2 rfl) (M.get 3 rfl)).mono ?_
 rintro e V2_9 ⟨a2, c2, rfl, g, rr⟩
 have M' := (M.up rr).add g
 clear M rr g
 have M := M'; clear M'
 refine hK _ _ ⟨⟨M.box 2 rfl, M.box 1 rfl⟩, ?_⟩
 clear hK K2
 refine wpAnyH_all (rs := [10]) (by kernel_rfl) (by simp) ?_
 intro i hi
 obtain rfl : i = 10 := by simpa using hi
 refine wpOp_intro rfl (fun K3 hK => ?_)
 clear hi
 go_simp
 refine (KS.out _ (M.get 1 rfl) (M.get 0 rfl)).mono ?_
 rintro e V3_10 ⟨a3, c3, rfl, g, rr⟩
 have M' := (M.up rr).add g
 clear M rr g
 have M := M'; clear M'
 refine hK _ _ ⟨⟨M.box 2 rfl, M.box 1 rfl⟩, ?_⟩
 clear hK K3
 refine wpAnyH_all (rs := [15]) (by kernel_rfl) (by simp) ?_
 intro i hi
 obtain rfl : i = 15 := by simpa using hi
 refine wpOp_intro rfl (fun K4 hK => ?_)
 clear hi
 go_simp
 refine (KB.out _ (M.get 5 rfl) (M.get 3 rfl)).mono ?_
 rintro e V4_15 ⟨a4, c4, rfl, g, rr⟩
 have M' := (M.up rr).add g
 clear M rr g
 have M := M'; clear M'
 refine hK _ _ ⟨⟨M.box 2 rfl, M.box 1 rfl⟩, ?_⟩
 clear hK K4
 refine wpAnyH_all (rs := [16]) (by kernel_rfl) (by simp) ?_
 intro i hi
 obtain rfl : i = 16 := by simpa using hi
 refine wpOp_intro rfl (fun K5 hK => ?_)
 clear hi
 go_simp
 refine (KL.out _ (M.get 1 rfl) (M.get 0 rfl)).mono ?_
 rintro e V5_16 ⟨a, c, a', c', rfl, g, g', rr⟩
 have M' := ((M.up rr).add g).add g'
 clear M rr g g'
 have M := M'; clear M'
 refine hK _ _ ⟨⟨M.box 2 rfl, M.box 1 rfl⟩, ?_⟩
 clear hK K5
 have f0_0 := M.fr 0 rfl 0; have f0_1 := M.fr 0 rfl 1; have f0_2 := M.fr 0 rfl 2
 have z0_0 := M.cell 0 rfl 0 rfl; have z0_1 := M.cell 0 rfl 1 rfl; have z0_2 := M.cell 0 rfl 2 rfl
 refine wpAnyH_all (rs := [17]) (by kernel_rfl) (by simp) ?_
 intro i hi
 obtain rfl : i = 17 := by simpa using hi
 refine wpOp_intro rfl (fun Ks6 hK => ?_)
 clear hi
 go_simp
 have M' := (((M.put 0 rfl rfl 0 (.bool sZ)).put 0 rfl rfl 1 (.slice a LZ.length c)).put 0 rfl rfl 2 (.slice a' DZ.length c'))
 clear M f0_0 z0_0 f0_1 z0_1 f0_2 z0_2
 have M : Mem w [(w.heap.size + 1 + 1, 27, [.bool sZ, .slice a LZ.length c, .slice a' DZ.length c']), (w.heap.size + 1, 27, [.bool sY, .slice aY LY.length cY, .slice oY DY.length rY]), (w.heap.size, 27, [.bool sX, .slice aX LX.length cX, .slice oX DX.length rX])] [(.slice a' DZ.length c', DZ), (.slice a LZ.length c, LZ), (.slice a4 LB.length c4, LB), (.slice a3 LS.length c3, LS), (.slice a2 LQ.length c2, LQ), (.slice a1 LP.length c1, LP), (.slice oY DY.length rY, DY), (.slice aY LY.length cY, LY), (.slice oX DX.length rX, DX), (.slice aX LX.length cX, LX), (.slice o2 d2.length r2, d2), (.slice p2 l2.length q2, l2), (.slice o1 d1.length r1, d1), (.slice p1 l1.length q1, l1)] _ := M'
 clear M'
 refine hK _ _ ⟨⟨M.box 2 rfl, M.box 1 rfl⟩, ?_⟩
 clear hK Ks6
 refine wpAnyH_done (by kernel_rfl) ?_ _
 go_wp2
 refine ret_boxN rfl rfl (M.box 0 rfl) Tryz.underlying27 size_rat rfl ?_
 exact ⟨a, c, a', c', rfl, M.get 1 rfl, M.get 0 rfl, M.below⟩
theorem rr_cmp {w : World} {p1 o1 p2 o2 : Option Addr} {q1 r1 q2 r2 : Nat} {n1 n2 : Bool} {l1 d1 l2 d2 : List Nat} {X Y : Rat} (z : Int) (ez : rsg X Y = z) (hX : RIs n1 l1 d1 X) (hY : RIs n2 l2 d2 Y) (b1 : l1.length ≤ 9999) (b2 : d1.length ≤ 9999) (b3 : l2.length ≤ 9999) (b4 : d2.length ≤ 9999) (g1 : Reads w (.slice p1 l1.length q1) l1) (g2 : Reads w (.slice o1 d1.length r1) d1) (g3 : Reads w (.slice p2 l2.length q2) l2) (g4 : Reads w (.slice o2 d2.length r2) d2) :
  Calls Tryz.prog 16 #[.agg #[.bool n1, .slice p1 l1.length q1, .slice o1 d1.length r1], .agg #[.bool n2, .slice p2 l2.length q2, .slice o2 d2.length r2]] w fun e w' => e = .returned (.int .i64 z) ∧ Below w.heap.size w w' := by
 obtain ⟨sX, LX, DX, kX⟩ := RCan.ex X
 have lX := hX.lens kX
 obtain ⟨sY, LY, DY, kY⟩ := RCan.ex Y
 have lY := hY.lens kY
 have KFX := Lib.hid (fun (W : World) (y1 : Reads W (.slice p1 l1.length q1) l1) (y2 : Reads W (.slice o1 d1.length r1) d1) => rr_fit hX kX (by omega) (by omega) y1 y2)
 have KFY := Lib.hid (fun (W : World) (y1 : Reads W (.slice p2 l2.length q2) l2) (y2 : Reads W (.slice o2 d2.length r2) d2) => rr_fit hY kY (by omega) (by omega) y1 y2)
 obtain ⟨sP, LP, cP⟩ := Can.ex (X.num * ((Y.den : Nat) : Int))
 obtain ⟨sQ, LQ, cQ⟩ := Can.ex (Y.num * ((X.den : Nat) : Int))
 have lP : LP.length ≤ 20000 := by
  have h6 := digs_mul_le X.num.natAbs Y.den
  rw [← kX.1.2, ← kY.2] at h6
  rw [cP.2, Int.natAbs_mul, Int.natAbs_natCast]
  omega
 have lQ : LQ.length ≤ 20000 := by
  have h6 := digs_mul_le Y.num.natAbs X.den
  rw [← kY.1.2, ← kX.2] at h6
  rw [cQ.2, Int.natAbs_mul, Int.natAbs_natCast]
  omega
 have KP := Lib.hid (fun (W : World) {a b : Option Addr} {c d : Nat} (y1 : Reads W (.slice a LX.length c) LX) (y2 : Reads W (.slice b DY.length d) DY) => rr_times kX.1 kY.2 cP rfl (by omega) (by omega) y1 y2)
 have KQ := Lib.hid (fun (W : World) {a b : Option Addr} {c d : Nat} (y1 : Reads W (.slice a LY.length c) LY) (y2 : Reads W (.slice b DX.length d) DX) => rr_times kY.1 kX.2 cQ rfl (by omega) (by omega) y1 y2)
 have KC := Lib.hid (fun (W : World) {a b : Option Addr} {c d : Nat} (y1 : Reads W (.slice a LP.length c) LP) (y2 : Reads W (.slice b LQ.length d) LQ) => p_cmp z cP.is cQ.is (by rw [rsg_eq]; exact ez) (by omega) (by omega) y1 y2)
 have M : Mem w [(w.heap.size + 1, 27, [.bool n2, .slice p2 l2.length q2, .slice o2 d2.length r2]), (w.heap.size, 27, [.bool n1, .slice p1 l1.length q1, .slice o1 d1.length r1])] [(.slice o2 d2.length r2, d2), (.slice p2 l2.length q2, l2), (.slice o1 d1.length r1, d1), (.slice p1 l1.length q1, l1)] ((w.alloc (.cells #[.bool n1, .slice p1 l1.length q1, .slice o1 d1.length r1] 27)).alloc (.cells #[.bool n2, .slice p2 l2.length q2, .slice o2 d2.length r2] 27)) := by
  have M := (((((((Mem.start w).add g1).add g2).add g3).add g4).new 27 [.bool n1, .slice p1 l1.length q1, .slice o1 d1.length r1]).new 27 [.bool n2, .slice p2 l2.length q2, .slice o2 d2.length r2])
  simpa only [World.size_alloc] using M
 clear g1 g2 g3 g4 b1 b2 b3 b4 hX hY kX kY lX lY cP lP cQ lQ ez
 go_enter Tryz.func16, Tryz.ntmps16
 have z0_0 := M.cell 0 rfl 0 rfl; have z0_1 := M.cell 0 rfl 1 rfl; have z0_2 := M.cell 0 rfl 2 rfl; have z1_0 := M.cell 1 rfl 0 rfl; have z1_1 := M.cell 1 rfl 1 rfl; have z1_2 := M.cell 1 rfl 2 rfl
 go_wp2_with fail
 clear z0_0 z0_1 z0_2 z1_0 z1_1 z1_2
 refine (KFX.out _ (M.get 3 rfl) (M.get 2 rfl)).mono ?_
 rintro e w1 ⟨aX, cX, oX, rX, rfl, g, g', rr⟩
 have M' := ((M.up rr).add g).add g'; clear M rr g g'; have M := M'; clear M'
 have z0_0 := M.cell 0 rfl 0 rfl; have z0_1 := M.cell 0 rfl 1 rfl; have z0_2 := M.cell 0 rfl 2 rfl; have z1_0 := M.cell 1 rfl 0 rfl; have z1_1 := M.cell 1 rfl 1 rfl; have z1_2 := M.cell 1 rfl 2 rfl
 have f1_0 := M.fr 1 rfl 0; have f1_1 := M.fr 1 rfl 1; have f1_2 := M.fr 1 rfl 2
 go_wp2_with fail
 clear z0_0 z0_1 z0_2 z1_0 z1_1 z1_2 f1_0 f1_1 f1_2
 have M' := (((M.put 1 rfl rfl 0 (.bool sX)).put 1 rfl rfl 1 (.slice aX LX.length cX)).put 1 rfl rfl 2 (.slice oX DX.length rX))
 clear M
 have M : Mem w [(w.heap.size + 1, 27, [.bool n2, .slice p2 l2.length q2, .slice o2 d2.length r2]), (w.heap.size, 27, [.bool sX, .slice aX LX.length cX, .slice oX DX.length rX])] [(.slice oX DX.length rX, DX), (.slice aX LX.length cX, LX), (.slice o2 d2.length r2, d2), (.slice p2 l2.length q2, l2), (.slice o1 d1.length r1, d1), (.slice p1 l1.length q1, l1)] _ := M'
 clear M'
 refine (KFY.out _ (M.get 3 rfl) (M.get 2 rfl)).mono ?_
 rintro e w2 ⟨aY, cY, oY, rY, rfl, g, g', rr⟩
 have M' := ((M.up rr).add g).add g'; clear M rr g g'; have M := M'; clear M'
 have z0_0 := M.cell 0 rfl 0 rfl; have z0_1 := M.cell 0 rfl 1 rfl; have z0_2 := M.cell 0 rfl 2 rfl; have z1_0 := M.cell 1 rfl 0 rfl; have z1_1 := M.cell 1 rfl 1 rfl; have z1_2 := M.cell 1 rfl 2 rfl
 have f0_0 := M.fr 0 rfl 0; have f0_1 := M.fr 0 rfl 1; have f0_2 := M.fr 0 rfl 2
 go_wp2_with fail
 clear z0_0 z0_1 z0_2 z1_0 z1_1 z1_2 f0_0 f0_1 f0_2
 have M' := (((M.put 0 rfl rfl 0 (.bool sY)).put 0 rfl rfl 1 (.slice aY LY.length cY)).put 0 rfl rfl 2 (.slice oY DY.length rY))
 clear M
 have M : Mem w [(w.heap.size + 1, 27, [.bool sY, .slice aY LY.length cY, .slice oY DY.length rY]), (w.heap.size, 27, [.bool sX, .slice aX LX.length cX, .slice oX DX.length rX])] [(.slice oY DY.length rY, DY), (.slice aY LY.length cY, LY), (.slice oX DX.length rX, DX), (.slice aX LX.length cX, LX), (.slice o2 d2.length r2, d2), (.slice p2 l2.length q2, l2), (.slice o1 d1.length r1, d1), (.slice p1 l1.length q1, l1)] _ := M'
 clear M'
 refine region_mem (S := (fun W => BoxN W (w.heap.size) 27 #[.bool sX, .slice aX LX.length cX, .slice oX DX.length rX] ∧ BoxN W (w.heap.size + 1) 27 #[.bool sY, .slice aY LY.length cY, .slice oY DY.length rY])) M (by kernel_rfl) ?_
 intro V0 M
 have hS0 : (fun W => BoxN W (w.heap.size) 27 #[.bool sX, .slice aX LX.length cX, .slice oX DX.length rX] ∧ BoxN W (w.heap.size + 1) 27 #[.bool sY, .slice aY LY.length cY, .slice oY DY.length rY]) V0 := ⟨M.box 1 rfl, M.box 0 rfl⟩
 refine wpAnyH_take (i := 0) (oi := ⟨_, _, _, _, _, _⟩) (v := (.pointer (some ⟨w.heap.size, 0, none⟩))) rfl (by kernel_rfl) (by kernel_rfl) (by kernel_rfl) (fun _ _ _ h => h) (Or.inl ⟨by rfl, fun W3 hS => by go_simp⟩) hS0 ?_
 try simp only [Act.put, List.setIfInBounds_toArray, List.set_cons_zero, List.set_cons_succ]
 refine wpAnyH_take (i := 1) (oi := ⟨_, _, _, _, _, _⟩) (v := (.agg #[.bool sX, .slice aX LX.length cX])) rfl (by kernel_rfl) (by kernel_rfl) (by kernel_rfl) (fun _ _ _ h => h) (Or.inl ⟨by rfl, fun W3 hS => by obtain ⟨hS1, hS2⟩ := hS; have c1_0 := hS1.cell 0 _ rfl; have c1_1 := hS1.cell 1 _ rfl; have c1_2 := hS1.cell 2 _ rfl; go_simp⟩) hS0 ?_
 try simp only [Act.put, List.setIfInBounds_toArray, List.set_cons_zero, List.set_cons_succ]
 refine wpAnyH_take (i := 2) (oi := ⟨_, _, _, _, _, _⟩) (v := (.pointer (some ⟨w.heap.size + 1, 2, none⟩))) rfl (by kernel_rfl) (by kernel_rfl) (by kernel_rfl) (fun _ _ _ h => h) (Or.inl ⟨by rfl, fun W3 hS => by go_simp⟩) hS0 ?_
 try simp only [Act.put, List.setIfInBounds_toArray, List.set_cons_zero, List.set_cons_succ]
 refine wpAnyH_take (i := 3) (oi := ⟨_, _, _, _, _, _⟩) (v := (.slice oY DY.length rY)) rfl (by kernel_rfl) (by kernel_rfl) (by kernel_rfl) (fun _ _ _ h => h) (Or.inl ⟨by rfl, fun W3 hS => by obtain ⟨hS1, hS2⟩ := hS; have c2_0 := hS2.cell 0 _ rfl; have c2_1 := hS2.cell 1 _ rfl; have c2_2 := hS2.cell 2 _ rfl; go_simp⟩) hS0 ?_
 try simp only [Act.put, List.setIfInBounds_toArray, List.set_cons_zero, List.set_cons_succ]
 refine wpAnyH_take (i := 5) (oi := ⟨_, _, _, _, _, _⟩) (v := (.pointer (some ⟨w.heap.size + 1, 0, none⟩))) rfl (by kernel_rfl) (by kernel_rfl) (by kernel_rfl) (fun _ _ _ h => h) (Or.inl ⟨by rfl, fun W3 hS => by go_simp⟩) hS0 ?_
 try simp only [Act.put, List.setIfInBounds_toArray, List.set_cons_zero, List.set_cons_succ]
 refine wpAnyH_take (i := 6) (oi := ⟨_, _, _, _, _, _⟩) (v := (.agg #[.bool sY, .slice aY LY.length cY])) rfl (by kernel_rfl) (by kernel_rfl) (by kernel_rfl) (fun _ _ _ h => h) (Or.inl ⟨by rfl, fun W3 hS => by obtain ⟨hS1, hS2⟩ := hS; have c2_0 := hS2.cell 0 _ rfl; have c2_1 := hS2.cell 1 _ rfl; have c2_2 := hS2.cell 2 _ rfl; go_simp⟩) hS0 ?_
 try simp only [Act.put, List.setIfInBounds_toArray, List.set_cons_zero, List.set_cons_succ]
 refine wpAnyH_take (i := 7) (oi := ⟨_, _, _, _, _, _⟩) (v := (.pointer (some ⟨w.heap.size, 2, none⟩))) rfl (by kernel_rfl) (by kernel_rfl) (by kernel_rfl) (fun _ _ _ h => h) (Or.inl ⟨by rfl, fun W3 hS => by go_simp⟩) hS0 ?_
 try simp only [Act.put, List.setIfInBounds_toArray, List.set_cons_zero, List.set_cons_succ]
 refine wpAnyH_take (i := 8) (oi := ⟨_, _, _, _, _, _⟩) (v := (.slice oX DX.length rX)) rfl (by kernel_rfl) (by kernel_rfl) (by kernel_rfl) (fun _ _ _ h => h) (Or.inl ⟨by rfl, fun W3 hS => by obtain ⟨hS1, hS2⟩ := hS; have c1_0 := hS1.cell 0 _ rfl; have c1_1 := hS1.cell 1 _ rfl; have c1_2 := hS1.cell 2 _ rfl; go_simp⟩) hS0 ?_
 try simp only [Act.put, List.setIfInBounds_toArray, List.set_cons_zero, List.set_cons_succ]
 clear hS0
 refine wpAnyH_all (rs := [4]) (by kernel_rfl) (by simp) ?_
 intro i hi
 obtain rfl : i = 4 := by simpa using hi
 refine wpOp_intro rfl (fun K1 hK => ?_)
 clear hi
 go_simp
 refine (KP.out _ (M.get 3 rfl) (M.get 0 rfl)).mono ?_
 rintro e V1_4 ⟨a1, c1, rfl, g, rr⟩
 have M' := (M.up rr).add g
 clear M rr g
 have M := M'; clear M'
 refine hK _ _ ⟨⟨M.box 1 rfl, M.box 0 rfl⟩, ?_⟩
 clear hK K1
 refine wpAnyH_all (rs := [9]) (by kernel_rfl) (by simp) ?_
 intro i hi
 obtain rfl : i = 9 := by simpa using hi
 refine wpOp_intro rfl (fun K2 hK => ?_)
 clear hi
 go_simp
 refine (KQ.out _ (M.get 2 rfl) (M.get 3 rfl)).mono ?_
 rintro e V2_9 ⟨a2, c2, rfl, g, rr⟩
 have M' := (M.up rr).add g
 clear M rr g
 have M := M'; clear M'
 refine hK _ _ ⟨⟨M.box 1 rfl, M.box 0 rfl⟩, ?_⟩
 clear hK K2
 refine wpAnyH_all (rs := [10]) (by kernel_rfl) (by simp) ?_
 intro i hi
 obtain rfl : i = 10 := by simpa using hi
 refine wpOp_intro rfl (fun K3 hK => ?_)
 clear hi
 go_simp
 refine (KC.out _ (M.get 1 rfl) (M.get 0 rfl)).mono ?_
 rintro e V3_10 ⟨rfl, rr⟩
 have M' := M.up rr
 clear M rr 
 have M := M'; clear M'
 refine hK _ _ ⟨⟨M.box 1 rfl, M.box 0 rfl⟩, ?_⟩
 clear hK K3
 have hS0 : (fun W => BoxN W (w.heap.size) 27 #[.bool sX, .slice aX LX.length cX, .slice oX DX.length rX] ∧ BoxN W (w.heap.size + 1) 27 #[.bool sY, .slice aY LY.length cY, .slice oY DY.length rY]) _ := ⟨M.box 1 rfl, M.box 0 rfl⟩
 refine wpAnyH_take (i := 11) (oi := ⟨_, _, _, _, _, _⟩) (v := (.int .i64 z)) rfl (by kernel_rfl) (by kernel_rfl) (by kernel_rfl) (fun _ _ _ h => h) (Or.inl ⟨by rfl, fun W3 hS => by go_simp⟩) hS0 ?_
 try simp only [Act.put, List.setIfInBounds_toArray, List.set_cons_zero, List.set_cons_succ]
 clear hS0
 refine wpAnyH_done (by kernel_rfl) ?_ _
 go_wp2
 go_ret
 exact ⟨rfl, M.below⟩

end Go.Proofs.YthnlmjnfdokdbaaGreatDoor
