/- The document's answer for fractions: the other way about, less, its sign, by another one. -/
import Derived.Test.YthnlmjnfdokdbaaGreatDoorGRrO
set_option linter.unusedSimpArgs false
set_option linter.unusedVariables false
set_option maxRecDepth 100000
set_option maxHeartbeats 8000000
namespace Go.Proofs.YthnlmjnfdokdbaaGreatDoor
open Go Go.Proofs Go.RowKit Go.Shelf Nu

attribute [local go_sem] Oper.semAt_some

theorem rtwin_form {W : World} {a : Option Addr} {c : Nat} {l : List Nat} (h : Reads W (.slice a l.length c) l) (hl : l.length ≤ 100000) :
  Calls Tryz.prog 152 #[.slice a l.length c] W fun e w' => ∃ a c, e = .returned (.slice a l.length c) ∧ Reads w' (.slice a l.length c) l ∧ Below W.heap.size W w' := by
 refine (rtwin_any h hl).mono ?_
 rintro e w' ⟨v, rfl, f, hb⟩
 obtain ⟨a2, c2, rfl⟩ := f.reads.form
 exact ⟨a2, c2, rfl, f.reads, hb⟩
theorem rr_neg {w : World} {p1 o1 : Option Addr} {q1 r1 : Nat} {n1 : Bool} {l1 d1 : List Nat} {X : Rat} {sZ : Bool} {LZ DZ : List Nat} {Z : Rat} (hX : RIs n1 l1 d1 X) (kZ : RCan sZ LZ DZ Z) (eZ : Z = -X) (b1 : l1.length ≤ 9999) (b2 : d1.length ≤ 9999) (g1 : Reads w (.slice p1 l1.length q1) l1) (g2 : Reads w (.slice o1 d1.length r1) d1) :
  Calls Tryz.prog 71 #[.agg #[.bool n1, .slice p1 l1.length q1, .slice o1 d1.length r1]] w fun e w' => ∃ a c a' c', e = .returned (.agg #[.bool sZ, .slice a LZ.length c, .slice a' DZ.length c']) ∧ Reads w' (.slice a LZ.length c) LZ ∧ Reads w' (.slice a' DZ.length c') DZ ∧ Below w.heap.size w w' := by
 obtain ⟨sX, LX, DX, kX⟩ := RCan.ex X
 have lX := hX.lens kX
 have KFX := Lib.hid (fun (W : World) (y1 : Reads W (.slice p1 l1.length q1) l1) (y2 : Reads W (.slice o1 d1.length r1) d1) => rr_fit hX kX (by omega) (by omega) y1 y2)
 have hD : DZ = DX := by rw [kZ.2, kX.2, eZ, Rat.neg_den]
 have cN : Can sZ LZ (-X.num) := by have := kZ.1; rwa [eZ, Rat.neg_num] at this
 have KN := Lib.hid (fun (W : World) {a : Option Addr} {c : Nat} (y1 : Reads W (.slice a LX.length c) LX) => p_neg kX.1.is cN rfl (by omega) y1)
 have KT := Lib.hid (fun (W : World) {a : Option Addr} {c : Nat} (y1 : Reads W (.slice a DX.length c) DX) => rtwin_form y1 (by omega))
 have M : Mem w [(w.heap.size + 1, 27, [.bool false, .slice none 0 0, .slice none 0 0]), (w.heap.size, 27, [.bool n1, .slice p1 l1.length q1, .slice o1 d1.length r1])] [(.slice o1 d1.length r1, d1), (.slice p1 l1.length q1, l1)] ((w.alloc (.cells #[.bool n1, .slice p1 l1.length q1, .slice o1 d1.length r1] 27)).alloc (.cells #[.bool false, .slice none 0 0, .slice none 0 0] 27)) := by
  have M := (((((Mem.start w).add g1).add g2).new 27 [.bool n1, .slice p1 l1.length q1, .slice o1 d1.length r1]).new 27 [.bool false, .slice none 0 0, .slice none 0 0])
  simpa only [World.size_alloc] using M
 clear g1 g2 b1 b2 hX kX lX kZ eZ cN
 subst hD
 go_enter Tryz.func71, Tryz.ntmps71
 have z0_0 := M.cell 0 rfl 0 rfl; have z0_1 := M.cell 0 rfl 1 rfl; have z0_2 := M.cell 0 rfl 2 rfl; have z1_0 := M.cell 1 rfl 0 rfl; have z1_1 := M.cell 1 rfl 1 rfl; have z1_2 := M.cell 1 rfl 2 rfl
 go_wp2_with fail
 clear z0_0 z0_1 z0_2 z1_0 z1_1 z1_2
 refine (KFX.out _ (M.get 1 rfl) (M.get 0 rfl)).mono ?_
 rintro e w1 ⟨aX, cX, oX, rX, rfl, g, g', rr⟩
 have M' := ((M.up rr).add g).add g'; clear M rr g g'; have M := M'; clear M'
 have z0_0 := M.cell 0 rfl 0 rfl; have z0_1 := M.cell 0 rfl 1 rfl; have z0_2 := M.cell 0 rfl 2 rfl; have z1_0 := M.cell 1 rfl 0 rfl; have z1_1 := M.cell 1 rfl 1 rfl; have z1_2 := M.cell 1 rfl 2 rfl
 have f1_0 := M.fr 1 rfl 0; have f1_1 := M.fr 1 rfl 1; have f1_2 := M.fr 1 rfl 2
 go_wp2_with fail
 clear z0_0 z0_1 z0_2 z1_0 z1_1 z1_2 f1_0 f1_1 f1_2
 have M' := (((M.put 1 rfl rfl 0 (.bool sX)).put 1 rfl rfl 1 (.slice aX LX.length cX)).put 1 rfl rfl 2 (.slice oX DZ.length rX))
 clear M
 have M : Mem w [(w.heap.size + 1, 27, [.bool false, .slice none 0 0, .slice none 0 0]), (w.heap.size, 27, [.bool sX, .slice aX LX.length cX, .slice oX DZ.length rX])] [(.slice oX DZ.length rX, DZ), (.slice aX LX.length cX, LX), (.slice o1 d1.length r1, d1), (.slice p1 l1.length q1, l1)] _ := M'
 clear M'
 refine region_mem (S := (fun W => BoxN W (w.heap.size) 27 #[.bool sX, .slice aX LX.length cX, .slice oX DZ.length rX])) M (by kernel_rfl) ?_
 intro V0 M
 have hS0 : (fun W => BoxN W (w.heap.size) 27 #[.bool sX, .slice aX LX.length cX, .slice oX DZ.length rX]) V0 := M.box 1 rfl
 refine wpAnyH_take (i := 0) (oi := ⟨_, _, _, _, _, _⟩) (v := (.pointer (some ⟨w.heap.size, 0, none⟩))) rfl (by kernel_rfl) (by kernel_rfl) (by kernel_rfl) (fun _ _ _ h => h) (Or.inl ⟨by rfl, fun W3 hS => by go_simp⟩) hS0 ?_
 try simp only [Act.put, List.setIfInBounds_toArray, List.set_cons_zero, List.set_cons_succ]
 refine wpAnyH_take (i := 1) (oi := ⟨_, _, _, _, _, _⟩) (v := (.agg #[.bool sX, .slice aX LX.length cX])) rfl (by kernel_rfl) (by kernel_rfl) (by kernel_rfl) (fun _ _ _ h => h) (Or.inl ⟨by rfl, fun W3 hS => by have hS1 := hS; have c1_0 := hS1.cell 0 _ rfl; have c1_1 := hS1.cell 1 _ rfl; have c1_2 := hS1.cell 2 _ rfl; go_simp⟩) hS0 ?_
 try simp only [Act.put, List.setIfInBounds_toArray, List.set_cons_zero, List.set_cons_succ]
 refine wpAnyH_take (i := 3) (oi := ⟨_, _, _, _, _, _⟩) (v := (.pointer (some ⟨w.heap.size, 2, none⟩))) rfl (by kernel_rfl) (by kernel_rfl) (by kernel_rfl) (fun _ _ _ h => h) (Or.inl ⟨by rfl, fun W3 hS => by go_simp⟩) hS0 ?_
 try simp only [Act.put, List.setIfInBounds_toArray, List.set_cons_zero, List.set_cons_succ]
 refine wpAnyH_take (i := 4) (oi := ⟨_, _, _, _, _, _⟩) (v := (.slice oX DZ.length rX)) rfl (by kernel_rfl) (by kernel_rfl) (by kernel_rfl) (fun _ _ _ h => h) (Or.inl ⟨by rfl, fun W3 hS => by have hS1 := hS; have c1_0 := hS1.cell 0 _ rfl; have c1_1 := hS1.cell 1 _ rfl; have c1_2 := hS1.cell 2 _ rfl; go_simp⟩) hS0 ?_
 try simp only [Act.put, List.setIfInBounds_toArray, List.set_cons_zero, List.set_cons_succ]
 clear hS0
 refine wpAnyH_all (rs := [2]) (by kernel_rfl) (by simp) ?_
 intro i hi
 obtain rfl : i = 2 := by simpa using hi
 refine wpOp_intro rfl (fun K1 hK => ?_)
 clear hi
 go_simp
 refine (KN.out _ (M.get 1 rfl)).mono ?_
 rintro e V1_2 ⟨a1, c1, rfl, g, rr⟩
 have M' := (M.up rr).add g
 clear M rr g
 have M := M'; clear M'
 refine hK _ _ ⟨M.box 1 rfl, ?_⟩
 clear hK K1
 refine wpAnyH_all (rs := [5]) (by kernel_rfl) (by simp) ?_
 intro i hi
 obtain rfl : i = 5 := by simpa using hi
 refine wpOp_intro rfl (fun K2 hK => ?_)
 clear hi
 go_simp
 refine (KT.out _ (M.get 1 rfl)).mono ?_
 rintro e V2_5 ⟨a2, c2, rfl, g, rr⟩
 have M' := (M.up rr).add g
 clear M rr g
 have M := M'; clear M'
 refine hK _ _ ⟨M.box 1 rfl, ?_⟩
 clear hK K2
 have hS0 : (fun W => BoxN W (w.heap.size) 27 #[.bool sX, .slice aX LX.length cX, .slice oX DZ.length rX]) _ := M.box 1 rfl
 refine wpAnyH_take (i := 6) (oi := ⟨_, _, _, _, _, _⟩) (v := (.agg #[.bool sZ, .slice a1 LZ.length c1, .slice a2 DZ.length c2])) rfl (by kernel_rfl) (by kernel_rfl) (by kernel_rfl) (fun _ _ _ h => h) (Or.inl ⟨by rfl, fun W3 hS => by go_simp⟩) hS0 ?_
 try simp only [Act.put, List.setIfInBounds_toArray, List.set_cons_zero, List.set_cons_succ]
 clear hS0
 have f0_0 := M.fr 0 rfl 0; have f0_1 := M.fr 0 rfl 1; have f0_2 := M.fr 0 rfl 2
 have z0_0 := M.cell 0 rfl 0 rfl; have z0_1 := M.cell 0 rfl 1 rfl; have z0_2 := M.cell 0 rfl 2 rfl
 refine wpAnyH_all (rs := [7]) (by kernel_rfl) (by simp) ?_
 intro i hi
 obtain rfl : i = 7 := by simpa using hi
 refine wpOp_intro rfl (fun Ks3 hK => ?_)
 clear hi
 go_simp
 have M' := (((M.put 0 rfl rfl 0 (.bool sZ)).put 0 rfl rfl 1 (.slice a1 LZ.length c1)).put 0 rfl rfl 2 (.slice a2 DZ.length c2))
 clear M f0_0 z0_0 f0_1 z0_1 f0_2 z0_2
 have M : Mem w [(w.heap.size + 1, 27, [.bool sZ, .slice a1 LZ.length c1, .slice a2 DZ.length c2]), (w.heap.size, 27, [.bool sX, .slice aX LX.length cX, .slice oX DZ.length rX])] [(.slice a2 DZ.length c2, DZ), (.slice a1 LZ.length c1, LZ), (.slice oX DZ.length rX, DZ), (.slice aX LX.length cX, LX), (.slice o1 d1.length r1, d1), (.slice p1 l1.length q1, l1)] _ := M'
 clear M'
 refine hK _ _ ⟨M.box 1 rfl, ?_⟩
 clear hK Ks3
 refine wpAnyH_done (by kernel_rfl) ?_ _
 go_wp2
 refine ret_boxN rfl rfl (M.box 0 rfl) Tryz.underlying27 size_rat rfl ?_
 exact ⟨a1, c1, a2, c2, rfl, M.get 1 rfl, M.get 0 rfl, M.below⟩
theorem rr_sub {w : World} {p1 o1 p2 o2 : Option Addr} {q1 r1 q2 r2 : Nat} {n1 n2 : Bool} {l1 d1 l2 d2 : List Nat} {X Y : Rat} {sZ : Bool} {LZ DZ : List Nat} {Z : Rat} (hX : RIs n1 l1 d1 X) (hY : RIs n2 l2 d2 Y) (kZ : RCan sZ LZ DZ Z) (eZ : Z = X - Y) (b1 : l1.length ≤ 9990) (b2 : d1.length ≤ 9990) (b3 : l2.length ≤ 9990) (b4 : d2.length ≤ 9990) (g1 : Reads w (.slice p1 l1.length q1) l1) (g2 : Reads w (.slice o1 d1.length r1) d1) (g3 : Reads w (.slice p2 l2.length q2) l2) (g4 : Reads w (.slice o2 d2.length r2) d2) :
  Calls Tryz.prog 21 #[.agg #[.bool n1, .slice p1 l1.length q1, .slice o1 d1.length r1], .agg #[.bool n2, .slice p2 l2.length q2, .slice o2 d2.length r2]] w fun e w' => ∃ a c a' c', e = .returned (.agg #[.bool sZ, .slice a LZ.length c, .slice a' DZ.length c']) ∧ Reads w' (.slice a LZ.length c) LZ ∧ Reads w' (.slice a' DZ.length c') DZ ∧ Below w.heap.size w w' := by
 obtain ⟨sV, LV, DV, kV⟩ := RCan.ex (-Y)
 obtain ⟨sY, LY, DY, kY⟩ := RCan.ex Y
 have lY := hY.lens kY
 have lV : LV.length ≤ 9990 ∧ DV.length ≤ 9991 := by
  have e1 : LV = LY := by rw [kV.1.2, kY.1.2, Rat.neg_num, Int.natAbs_neg]
  have e2 : DV = DY := by rw [kV.2, kY.2, Rat.neg_den]
  rw [e1, e2]; omega
 have KN := Lib.hid (fun (W : World) (y1 : Reads W (.slice p2 l2.length q2) l2) (y2 : Reads W (.slice o2 d2.length r2) d2) => rr_neg hY kV rfl (by omega) (by omega) y1 y2)
 have KA := Lib.hid (fun (W : World) {a b : Option Addr} {c d : Nat} (y1 : Reads W (.slice p1 l1.length q1) l1) (y2 : Reads W (.slice o1 d1.length r1) d1) (y3 : Reads W (.slice a LV.length c) LV) (y4 : Reads W (.slice b DV.length d) DV) => rr_add kZ (by rw [eZ, Rat.sub_eq_add_neg]) hX kV.is (by omega) (by omega) (by omega) (by omega) y1 y2 y3 y4)
 have M : Mem w [(w.heap.size + 1 + 1, 27, [.bool false, .slice none 0 0, .slice none 0 0]), (w.heap.size + 1, 27, [.bool n2, .slice p2 l2.length q2, .slice o2 d2.length r2]), (w.heap.size, 27, [.bool n1, .slice p1 l1.length q1, .slice o1 d1.length r1])] [(.slice o2 d2.length r2, d2), (.slice p2 l2.length q2, l2), (.slice o1 d1.length r1, d1), (.slice p1 l1.length q1, l1)] (((w.alloc (.cells #[.bool n1, .slice p1 l1.length q1, .slice o1 d1.length r1] 27)).alloc (.cells #[.bool n2, .slice p2 l2.length q2, .slice o2 d2.length r2] 27)).alloc (.cells #[.bool false, .slice none 0 0, .slice none 0 0] 27)) := by
  have M := ((((((((Mem.start w).add g1).add g2).add g3).add g4).new 27 [.bool n1, .slice p1 l1.length q1, .slice o1 d1.length r1]).new 27 [.bool n2, .slice p2 l2.length q2, .slice o2 d2.length r2]).new 27 [.bool false, .slice none 0 0, .slice none 0 0])
  simpa only [World.size_alloc] using M
 clear g1 g2 g3 g4 b1 b2 b3 b4 hX hY kZ eZ kV kY lY lV
 go_enter Tryz.func21, Tryz.ntmps21
 go_wp2
 refine region_mem (S := (fun W => BoxN W (w.heap.size) 27 #[.bool n1, .slice p1 l1.length q1, .slice o1 d1.length r1] ∧ BoxN W (w.heap.size + 1) 27 #[.bool n2, .slice p2 l2.length q2, .slice o2 d2.length r2])) M (by kernel_rfl) ?_
 intro V0 M
 have hS0 : (fun W => BoxN W (w.heap.size) 27 #[.bool n1, .slice p1 l1.length q1, .slice o1 d1.length r1] ∧ BoxN W (w.heap.size + 1) 27 #[.bool n2, .slice p2 l2.length q2, .slice o2 d2.length r2]) V0 := ⟨M.box 2 rfl, M.box 1 rfl⟩
 refine wpAnyH_take (i := 0) (oi := ⟨_, _, _, _, _, _⟩) (v := (.agg #[.bool n1, .slice p1 l1.length q1, .slice o1 d1.length r1])) rfl (by kernel_rfl) (by kernel_rfl) (by kernel_rfl) (fun _ _ _ h => h) (Or.inl ⟨by rfl, fun W3 hS => by obtain ⟨hS1, hS2⟩ := hS; have c1_0 := hS1.cell 0 _ rfl; have c1_1 := hS1.cell 1 _ rfl; have c1_2 := hS1.cell 2 _ rfl; go_simp⟩) hS0 ?_
 try simp only [Act.put, List.setIfInBounds_toArray, List.set_cons_zero, List.set_cons_succ]
 refine wpAnyH_take (i := 1) (oi := ⟨_, _, _, _, _, _⟩) (v := (.agg #[.bool n2, .slice p2 l2.length q2, .slice o2 d2.length r2])) rfl (by kernel_rfl) (by kernel_rfl) (by kernel_rfl) (fun _ _ _ h => h) (Or.inl ⟨by rfl, fun W3 hS => by obtain ⟨hS1, hS2⟩ := hS; have c2_0 := hS2.cell 0 _ rfl; have c2_1 := hS2.cell 1 _ rfl; have c2_2 := hS2.cell 2 _ rfl; go_simp⟩) hS0 ?_
 try simp only [Act.put, List.setIfInBounds_toArray, List.set_cons_zero, List.set_cons_succ]
 clear hS0
 refine wpAnyH_all (rs := [2]) (by kernel_rfl) (by simp) ?_
 intro i hi
 obtain rfl : i = 2 := by simpa using hi
 refine wpOp_intro rfl (fun K1 hK => ?_)
 clear hi
 go_simp
 refine (KN.out _ (M.get 1 rfl) (M.get 0 rfl)).mono ?_
 rintro e V1_2 ⟨aV, cV, oV, rV, rfl, g, g', rr⟩
 have M' := ((M.up rr).add g).add g'
 clear M rr g g'
 have M := M'; clear M'
 refine hK _ _ ⟨⟨M.box 2 rfl, M.box 1 rfl⟩, ?_⟩
 clear hK K1
 refine wpAnyH_all (rs := [3]) (by kernel_rfl) (by simp) ?_
 intro i hi
 obtain rfl : i = 3 := by simpa using hi
 refine wpOp_intro rfl (fun K2 hK => ?_)
 clear hi
 go_simp
 refine (KA.out _ (M.get 5 rfl) (M.get 4 rfl) (M.get 1 rfl) (M.get 0 rfl)).mono ?_
 rintro e V2_3 ⟨a, c, a', c', rfl, g, g', rr⟩
 have M' := ((M.up rr).add g).add g'
 clear M rr g g'
 have M := M'; clear M'
 refine hK _ _ ⟨⟨M.box 2 rfl, M.box 1 rfl⟩, ?_⟩
 clear hK K2
 have f0_0 := M.fr 0 rfl 0; have f0_1 := M.fr 0 rfl 1; have f0_2 := M.fr 0 rfl 2
 have z0_0 := M.cell 0 rfl 0 rfl; have z0_1 := M.cell 0 rfl 1 rfl; have z0_2 := M.cell 0 rfl 2 rfl
 refine wpAnyH_all (rs := [4]) (by kernel_rfl) (by simp) ?_
 intro i hi
 obtain rfl : i = 4 := by simpa using hi
 refine wpOp_intro rfl (fun Ks3 hK => ?_)
 clear hi
 go_simp
 have M' := (((M.put 0 rfl rfl 0 (.bool sZ)).put 0 rfl rfl 1 (.slice a LZ.length c)).put 0 rfl rfl 2 (.slice a' DZ.length c'))
 clear M f0_0 z0_0 f0_1 z0_1 f0_2 z0_2
 have M : Mem w [(w.heap.size + 1 + 1, 27, [.bool sZ, .slice a LZ.length c, .slice a' DZ.length c']), (w.heap.size + 1, 27, [.bool n2, .slice p2 l2.length q2, .slice o2 d2.length r2]), (w.heap.size, 27, [.bool n1, .slice p1 l1.length q1, .slice o1 d1.length r1])] [(.slice a' DZ.length c', DZ), (.slice a LZ.length c, LZ), (.slice oV DV.length rV, DV), (.slice aV LV.length cV, LV), (.slice o2 d2.length r2, d2), (.slice p2 l2.length q2, l2), (.slice o1 d1.length r1, d1), (.slice p1 l1.length q1, l1)] _ := M'
 clear M'
 refine hK _ _ ⟨⟨M.box 2 rfl, M.box 1 rfl⟩, ?_⟩
 clear hK Ks3
 refine wpAnyH_done (by kernel_rfl) ?_ _
 go_wp2
 refine ret_boxN rfl rfl (M.box 0 rfl) Tryz.underlying27 size_rat rfl ?_
 exact ⟨a, c, a', c', rfl, M.get 1 rfl, M.get 0 rfl, M.below⟩
theorem field_num (b v u : Value) (w : World) : (Instr.field 27 (.agg #[b, v, u]) 0).run Tryz.prog w = .ok (.agg #[b, v]) w := by kernel_rfl
theorem rr_sign {w : World} {p1 o1 : Option Addr} {q1 r1 : Nat} {n1 : Bool} {l1 d1 : List Nat} {X : Rat} (z : Int) (ez : rsg X 0 = z) (hX : RIs n1 l1 d1 X) (b1 : l1.length ≤ 9999) (b2 : d1.length ≤ 9999) (g1 : Reads w (.slice p1 l1.length q1) l1) (g2 : Reads w (.slice o1 d1.length r1) d1) :
  Calls Tryz.prog 18 #[.agg #[.bool n1, .slice p1 l1.length q1, .slice o1 d1.length r1]] w fun e w' => e = .returned (.int .i64 z) ∧ Below w.heap.size w w' := by
 obtain ⟨sX, LX, DX, kX⟩ := RCan.ex X
 have lX := hX.lens kX
 have KFX := Lib.hid (fun (W : World) (y1 : Reads W (.slice p1 l1.length q1) l1) (y2 : Reads W (.slice o1 d1.length r1) d1) => rr_fit hX kX (by omega) (by omega) y1 y2)
 have KS := Lib.hid (fun (W : World) {a : Option Addr} {c : Nat} (y1 : Reads W (.slice a LX.length c) LX) => p_sign z kX.1.is (by rw [rsg_num]; exact ez) (by omega) y1)
 have M : Mem w [(w.heap.size, 27, [.bool n1, .slice p1 l1.length q1, .slice o1 d1.length r1])] [(.slice o1 d1.length r1, d1), (.slice p1 l1.length q1, l1)] (w.alloc (.cells #[.bool n1, .slice p1 l1.length q1, .slice o1 d1.length r1] 27)) := by
  have M := ((((Mem.start w).add g1).add g2).new 27 [.bool n1, .slice p1 l1.length q1, .slice o1 d1.length r1])
  simpa only [World.size_alloc] using M
 clear g1 g2 b1 b2 hX kX lX ez
 go_enter Tryz.func18, Tryz.ntmps18
 have z0_0 := M.cell 0 rfl 0 rfl; have z0_1 := M.cell 0 rfl 1 rfl; have z0_2 := M.cell 0 rfl 2 rfl
 go_wp2_with fail
 clear z0_0 z0_1 z0_2
 refine (KFX.out _ (M.get 1 rfl) (M.get 0 rfl)).mono ?_
 rintro e w1 ⟨aX, cX, oX, rX, rfl, g, g', rr⟩
 have M' := ((M.up rr).add g).add g'; clear M rr g g'; have M := M'; clear M'
 have fi := field_num (.bool sX) (.slice aX LX.length cX) (.slice oX DX.length rX)
 go_wp2_with fail
 refine (KS.out _ (M.get 1 rfl)).mono ?_
 rintro e w2 ⟨rfl, rr⟩
 have M' := M.up rr; clear M rr
 go_wp2_with fail
 go_ret
 exact ⟨rfl, M'.below⟩

end Go.Proofs.YthnlmjnfdokdbaaGreatDoor
