/- Fractions: products, of any two. Fractions: sums and differences, of any two. Fractions: their order. -/
import Derived.Test.YtgmbaamfobhceaaGreatGRatMul
import Derived.Test.YtgmbaamfobhceaaGreatGRatSum
set_option linter.unusedSimpArgs false
set_option linter.unusedVariables false
set_option maxRecDepth 100000
set_option maxHeartbeats 8000000
namespace Go.Proofs.YtgmbaamfobhceaaGreat
open Go Go.Proofs Go.RowKit Go.Shelf Nu
attribute [local go_sem] Oper.semAt_some
theorem ofTwo_mul {w : World} {p1 o1 p2 o2 : Option Addr} {q1 r1 q2 r2 : Nat} {n1 n2 sZ : Bool} {l1 d1 l2 d2 LZ DZ : List Nat} {X Y Z : Rat} (eZ : Z = X * Y) (hX : RIs n1 l1 d1 X) (hY : RIs n2 l2 d2 Y) (kZ : RCan sZ LZ DZ Z) (b1 : l1.length ≤ 9999) (b2 : d1.length ≤ 9999) (b3 : l2.length ≤ 9999) (b4 : d2.length ≤ 9999) (g1 : Reads w (.slice p1 l1.length q1) l1) (g2 : Reads w (.slice o1 d1.length r1) d1) (g3 : Reads w (.slice p2 l2.length q2) l2) (g4 : Reads w (.slice o2 d2.length r2) d2) :
  Calls Tryz.prog 102 #[.agg #[.bool n1, .slice p1 l1.length q1, .slice o1 d1.length r1], .agg #[.bool n2, .slice p2 l2.length q2, .slice o2 d2.length r2], .func (.func 105) #[] #[]] w fun e w' => ∃ a c a' c', e = .returned (.agg #[.bool sZ, .slice a LZ.length c, .slice a' DZ.length c']) ∧ Reads w' (.slice a LZ.length c) LZ ∧ Reads w' (.slice a' DZ.length c') DZ ∧ Below w.heap.size w w' := by
 obtain ⟨sX, LX, DX, kX⟩ := RCan.ex X
 obtain ⟨sY, LY, DY, kY⟩ := RCan.ex Y
 have lX := hX.lens kX
 have lY := hY.lens kY
 have kp1 := fun (W : World) (h1 : Reads W (.slice p1 l1.length q1) l1) (h2 : Reads W (.slice o1 d1.length r1) d1) => partsOf_any hX kX (by omega) (by omega) h1 h2
 have kp2 := fun (W : World) (h1 : Reads W (.slice p2 l2.length q2) l2) (h2 : Reads W (.slice o2 d2.length r2) d2) => partsOf_any hY kY (by omega) (by omega) h1 h2
 have kf := fun (W : World) {aX oX aY oY : Option Addr} {cX rX cY rY : Nat} (g1 : Reads W (.slice aX LX.length cX) LX) (g2 : Reads W (.slice oX DX.length rX) DX) (g3 : Reads W (.slice aY LY.length cY) LY) (g4 : Reads W (.slice oY DY.length rY) DY) => mulFn_any kX kY kZ eZ (by omega) (by omega) (by omega) (by omega) g1 g2 g3 g4
 have M : Mem w [(w.heap.size + 1 + 1, 44, [.bool false, .slice none 0 0, .slice none 0 0]), (w.heap.size + 1, 44, [.bool n2, .slice p2 l2.length q2, .slice o2 d2.length r2]), (w.heap.size, 44, [.bool n1, .slice p1 l1.length q1, .slice o1 d1.length r1])] [(.slice o2 d2.length r2, d2), (.slice p2 l2.length q2, l2), (.slice o1 d1.length r1, d1), (.slice p1 l1.length q1, l1)] (((w.alloc (.cells #[.bool n1, .slice p1 l1.length q1, .slice o1 d1.length r1] 44)).alloc (.cells #[.bool n2, .slice p2 l2.length q2, .slice o2 d2.length r2] 44)).alloc (.cells #[.bool false, .slice none 0 0, .slice none 0 0] 44)) := by
  have M := ((((((((Mem.start w).add g1).add g2).add g3).add g4).new 44 [.bool n1, .slice p1 l1.length q1, .slice o1 d1.length r1]).new 44 [.bool n2, .slice p2 l2.length q2, .slice o2 d2.length r2]).new 44 [.bool false, .slice none 0 0, .slice none 0 0])
  simpa only [World.size_alloc] using M
 clear g1 g2 g3 g4 b1 b2 b3 b4 kX kY lX lY hX hY kZ eZ
 go_enter Tryz.func102, Tryz.ntmps102
 go_wp2
 refine region_mem (S := (fun W => BoxN W (w.heap.size) 44 #[.bool n1, .slice p1 l1.length q1, .slice o1 d1.length r1] ∧ BoxN W (w.heap.size + 1) 44 #[.bool n2, .slice p2 l2.length q2, .slice o2 d2.length r2])) M (by kernel_rfl) ?_
 intro V0 M
 have hS0 : (fun W => BoxN W (w.heap.size) 44 #[.bool n1, .slice p1 l1.length q1, .slice o1 d1.length r1] ∧ BoxN W (w.heap.size + 1) 44 #[.bool n2, .slice p2 l2.length q2, .slice o2 d2.length r2]) V0 := ⟨M.box 2 rfl, M.box 1 rfl⟩
 refine wtk 0 (.func (.func 105) #[] #[]) rfl (fun _ _ _ h => h) (Or.inl ⟨by rfl, fun W3 hS => by obtain ⟨hS1, hS2⟩ := hS; go_simp⟩) hS0 ?_
 refine wtk 1 (.agg #[.bool n1, .slice p1 l1.length q1, .slice o1 d1.length r1]) rfl (fun _ _ _ h => h) (Or.inl ⟨by rfl, fun W3 hS => by obtain ⟨hS1, hS2⟩ := hS; have c1_0 := hS1.cell 0 _ rfl; have c1_1 := hS1.cell 1 _ rfl; have c1_2 := hS1.cell 2 _ rfl; go_simp⟩) hS0 ?_
 refine wtk 3 (.agg #[.bool n2, .slice p2 l2.length q2, .slice o2 d2.length r2]) rfl (fun _ _ _ h => h) (Or.inl ⟨by rfl, fun W3 hS => by obtain ⟨hS1, hS2⟩ := hS; have c2_0 := hS2.cell 0 _ rfl; have c2_1 := hS2.cell 1 _ rfl; have c2_2 := hS2.cell 2 _ rfl; go_simp⟩) hS0 ?_
 clear hS0
 try simp only [Act.put, List.setIfInBounds_toArray, List.set_cons_zero, List.set_cons_succ]
 refine one_op 2 rfl (fun K1 hK => ?_)
 go_simp
 refine (kp1 _ (M.get 3 rfl) (M.get 2 rfl)).mono ?_
 rintro e V1_2 ⟨aX, cX, oX, rX, rfl, g, g', rr⟩
 have M' := ((M.up rr).add g).add g'
 clear M rr g g'
 have M := M'; clear M'
 refine hK _ _ ⟨⟨M.box 2 rfl, M.box 1 rfl⟩, ?_⟩
 clear hK K1
 refine one_op 4 rfl (fun K2 hK => ?_)
 go_simp
 refine (kp2 _ (M.get 3 rfl) (M.get 2 rfl)).mono ?_
 rintro e V2_4 ⟨aY, cY, oY, rY, rfl, g, g', rr⟩
 have M' := ((M.up rr).add g).add g'
 clear M rr g g'
 have M := M'; clear M'
 refine hK _ _ ⟨⟨M.box 2 rfl, M.box 1 rfl⟩, ?_⟩
 clear hK K2
 refine one_op 5 rfl (fun K3 hK => ?_)
 go_simp
 refine (kf _ (M.get 3 rfl) (M.get 2 rfl) (M.get 1 rfl) (M.get 0 rfl)).mono ?_
 rintro e V3_5 ⟨a, c, a', c', rfl, g, g', rr⟩
 have M' := ((M.up rr).add g).add g'
 clear M rr g g'
 have M := M'; clear M'
 refine hK _ _ ⟨⟨M.box 2 rfl, M.box 1 rfl⟩, ?_⟩
 clear hK K3
 have f0_0 := M.fr 0 rfl 0; have f0_1 := M.fr 0 rfl 1; have f0_2 := M.fr 0 rfl 2
 have z0_0 := M.cell 0 rfl 0 rfl; have z0_1 := M.cell 0 rfl 1 rfl; have z0_2 := M.cell 0 rfl 2 rfl
 refine one_op 6 rfl (fun Ks4 hK => ?_)
 go_simp
 have M' := (((M.put 0 rfl rfl 0 (.bool sZ)).put 0 rfl rfl 1 (.slice a LZ.length c)).put 0 rfl rfl 2 (.slice a' DZ.length c'))
 clear M f0_0 z0_0 f0_1 z0_1 f0_2 z0_2
 simp only [List.set_cons_zero, List.set_cons_succ] at M'
 have M := M'
 clear M'
 refine hK _ _ ⟨⟨M.box 2 rfl, M.box 1 rfl⟩, ?_⟩
 clear hK Ks4
 refine wdn ?_
 go_wp2
 refine ret_boxN rfl rfl (M.box 0 rfl) Tryz.underlying44 size_rat rfl ?_
 exact ⟨a, c, a', c', rfl, M.get 1 rfl, M.get 0 rfl, M.below⟩
theorem r_mul {w : World} {p1 o1 p2 o2 : Option Addr} {q1 r1 q2 r2 : Nat} {n1 n2 sZ : Bool} {l1 d1 l2 d2 LZ DZ : List Nat} {X Y Z : Rat} (hX : RIs n1 l1 d1 X) (hY : RIs n2 l2 d2 Y) (kZ : RCan sZ LZ DZ Z) (eZ : Z = X * Y) (b1 : l1.length ≤ 9999) (b2 : d1.length ≤ 9999) (b3 : l2.length ≤ 9999) (b4 : d2.length ≤ 9999) (g1 : Reads w (.slice p1 l1.length q1) l1) (g2 : Reads w (.slice o1 d1.length r1) d1) (g3 : Reads w (.slice p2 l2.length q2) l2) (g4 : Reads w (.slice o2 d2.length r2) d2) :
  Calls Tryz.prog 59 #[.agg #[.bool n1, .slice p1 l1.length q1, .slice o1 d1.length r1], .agg #[.bool n2, .slice p2 l2.length q2, .slice o2 d2.length r2]] w fun e w' => ∃ a c a' c', e = .returned (.agg #[.bool sZ, .slice a LZ.length c, .slice a' DZ.length c']) ∧ Reads w' (.slice a LZ.length c) LZ ∧ Reads w' (.slice a' DZ.length c') DZ ∧ Below w.heap.size w w' := by
 have ko := fun (W : World) (g1 : Reads W (.slice p1 l1.length q1) l1) (g2 : Reads W (.slice o1 d1.length r1) d1) (g3 : Reads W (.slice p2 l2.length q2) l2) (g4 : Reads W (.slice o2 d2.length r2) d2) => ofTwo_mul (w := W) eZ hX hY kZ b1 b2 b3 b4 g1 g2 g3 g4
 have M : Mem w [(w.heap.size + 1 + 1, 44, [.bool false, .slice none 0 0, .slice none 0 0]), (w.heap.size + 1, 44, [.bool n2, .slice p2 l2.length q2, .slice o2 d2.length r2]), (w.heap.size, 44, [.bool n1, .slice p1 l1.length q1, .slice o1 d1.length r1])] [(.slice o2 d2.length r2, d2), (.slice p2 l2.length q2, l2), (.slice o1 d1.length r1, d1), (.slice p1 l1.length q1, l1)] (((w.alloc (.cells #[.bool n1, .slice p1 l1.length q1, .slice o1 d1.length r1] 44)).alloc (.cells #[.bool n2, .slice p2 l2.length q2, .slice o2 d2.length r2] 44)).alloc (.cells #[.bool false, .slice none 0 0, .slice none 0 0] 44)) := by
  have M := ((((((((Mem.start w).add g1).add g2).add g3).add g4).new 44 [.bool n1, .slice p1 l1.length q1, .slice o1 d1.length r1]).new 44 [.bool n2, .slice p2 l2.length q2, .slice o2 d2.length r2]).new 44 [.bool false, .slice none 0 0, .slice none 0 0])
  simpa only [World.size_alloc] using M
 clear g1 g2 g3 g4 b1 b2 b3 b4 hX hY kZ eZ
 go_enter Tryz.func59, Tryz.ntmps59
 go_wp2_with (go_at_call 102; refine (ko _ (M.get 3 rfl) (M.get 2 rfl) (M.get 1 rfl) (M.get 0 rfl)).mono ?_; clear ko; rintro e w1 ⟨a, c, a', c', rfl, g, g', rr⟩; have M' := ((M.up rr).add g).add g'; clear M g g' rr; have M := M'; clear M'; have z0_0 := M.cell 0 rfl 0 rfl; have z0_1 := M.cell 0 rfl 1 rfl; have z0_2 := M.cell 0 rfl 2 rfl; have f0_0 := M.fr 0 rfl 0; have f0_1 := M.fr 0 rfl 1; have f0_2 := M.fr 0 rfl 2)
 have M' := ((M.put 0 rfl rfl 0 (.bool sZ)).put 0 rfl rfl 1 (.slice a LZ.length c)).put 0 rfl rfl 2 (.slice a' DZ.length c')
 refine ret_boxN rfl rfl (M'.box 0 rfl) Tryz.underlying44 size_rat rfl ?_
 exact ⟨a, c, a', c', rfl, M'.get 1 rfl, M'.get 0 rfl, M'.below⟩
theorem joined_any (J : Nat) (w : World) : Calls Tryz.prog 103 #[.func (.func J) #[] #[]] w fun e w' => ∃ cb, e = .returned (.func (.func 140) #[] #[.pointer (some ⟨cb, 0, none⟩)]) ∧ BoxN w' cb 114 #[.func (.func J) #[] #[]] ∧ Below w.heap.size w w' := by
 have hmf : ∀ (fn : Fn) (first cap : Array Value) (w : World), (Instr.makeFunc fn first cap).run Tryz.prog w = .ok (.func fn first cap) w := fun _ _ _ _ => rfl
 go_enter Tryz.func103, Tryz.ntmps103
 go_wp2
 go_ret
 exact ⟨_, rfl, BoxN.new w _ _, (Below.refl _ _).alloc (Nat.le_refl _) _⟩
theorem ofTwo_join {w : World} {p1 o1 p2 o2 : Option Addr} {q1 r1 q2 r2 : Nat} {n1 n2 sZ : Bool} {l1 d1 l2 d2 LZ DZ : List Nat} {X Y Z : Rat} {J cb : Nat} (join : Int → Int → Int) (hj : (join = (fun a b => a + b) ∧ Z = X + Y) ∨ (join = (fun a b => a - b) ∧ Z = X - Y))
  (kj : ∀ (W : World) {s1 s2 s3 : Bool} {L1 L2 L3 : List Nat} {p1 p2 : Option Addr} {q1 q2 : Nat} {A B C : Int} (hA : Is s1 L1 A) (hB : Is s2 L2 B) (hC : Can s3 L3 C) (e : C = join A B) (l1 : L1.length ≤ 50000) (l2 : L2.length ≤ 50000) (h1 : Reads W (.slice p1 L1.length q1) L1) (h2 : Reads W (.slice p2 L2.length q2) L2),
   Calls Tryz.prog J #[.agg #[.bool s1, .slice p1 L1.length q1], .agg #[.bool s2, .slice p2 L2.length q2]] W fun e w' => ∃ a c, e = .returned (.agg #[.bool s3, .slice a L3.length c]) ∧ Reads w' (.slice a L3.length c) L3 ∧ Below W.heap.size W w')
  (hE : ∀ (args : Array Value) (w : World), (callFunc J args).run Tryz.prog w = .ok (.enter J args) w)
  (hcb : BoxN w cb 114 #[.func (.func J) #[] #[]]) (hX : RIs n1 l1 d1 X) (hY : RIs n2 l2 d2 Y) (kZ : RCan sZ LZ DZ Z) (b1 : l1.length ≤ 9999) (b2 : d1.length ≤ 9999) (b3 : l2.length ≤ 9999) (b4 : d2.length ≤ 9999) (g1 : Reads w (.slice p1 l1.length q1) l1) (g2 : Reads w (.slice o1 d1.length r1) d1) (g3 : Reads w (.slice p2 l2.length q2) l2) (g4 : Reads w (.slice o2 d2.length r2) d2) :
  Calls Tryz.prog 102 #[.agg #[.bool n1, .slice p1 l1.length q1, .slice o1 d1.length r1], .agg #[.bool n2, .slice p2 l2.length q2, .slice o2 d2.length r2], .func (.func 140) #[] #[.pointer (some ⟨cb, 0, none⟩)]] w fun e w' => ∃ a c a' c', e = .returned (.agg #[.bool sZ, .slice a LZ.length c, .slice a' DZ.length c']) ∧ Reads w' (.slice a LZ.length c) LZ ∧ Reads w' (.slice a' DZ.length c') DZ ∧ Below w.heap.size w w' := by
 obtain ⟨sX, LX, DX, kX⟩ := RCan.ex X
 obtain ⟨sY, LY, DY, kY⟩ := RCan.ex Y
 have lX := hX.lens kX
 have lY := hY.lens kY
 have kp1 := fun (W : World) (h1 : Reads W (.slice p1 l1.length q1) l1) (h2 : Reads W (.slice o1 d1.length r1) d1) => partsOf_any hX kX (by omega) (by omega) h1 h2
 have kp2 := fun (W : World) (h1 : Reads W (.slice p2 l2.length q2) l2) (h2 : Reads W (.slice o2 d2.length r2) d2) => partsOf_any hY kY (by omega) (by omega) h1 h2
 have kf := fun (W : World) {aX oX aY oY : Option Addr} {cX rX cY rY : Nat} (hB : BoxN W cb 114 #[.func (.func J) #[] #[]]) (g1 : Reads W (.slice aX LX.length cX) LX) (g2 : Reads W (.slice oX DX.length rX) DX) (g3 : Reads W (.slice aY LY.length cY) LY) (g4 : Reads W (.slice oY DY.length rY) DY) => joinFn_any join hj kj hE hB kX kY kZ (by omega) (by omega) (by omega) (by omega) g1 g2 g3 g4
 have M : Mem w [(w.heap.size + 1 + 1, 44, [.bool false, .slice none 0 0, .slice none 0 0]), (w.heap.size + 1, 44, [.bool n2, .slice p2 l2.length q2, .slice o2 d2.length r2]), (w.heap.size, 44, [.bool n1, .slice p1 l1.length q1, .slice o1 d1.length r1])] [(.slice o2 d2.length r2, d2), (.slice p2 l2.length q2, l2), (.slice o1 d1.length r1, d1), (.slice p1 l1.length q1, l1)] (((w.alloc (.cells #[.bool n1, .slice p1 l1.length q1, .slice o1 d1.length r1] 44)).alloc (.cells #[.bool n2, .slice p2 l2.length q2, .slice o2 d2.length r2] 44)).alloc (.cells #[.bool false, .slice none 0 0, .slice none 0 0] 44)) := by
  have M := ((((((((Mem.start w).add g1).add g2).add g3).add g4).new 44 [.bool n1, .slice p1 l1.length q1, .slice o1 d1.length r1]).new 44 [.bool n2, .slice p2 l2.length q2, .slice o2 d2.length r2]).new 44 [.bool false, .slice none 0 0, .slice none 0 0])
  simpa only [World.size_alloc] using M
 clear g1 g2 g3 g4 b1 b2 b3 b4 kX kY lX lY hX hY kZ hj kj
 go_enter Tryz.func102, Tryz.ntmps102
 go_wp2
 refine region_mem (S := (fun W => BoxN W (w.heap.size) 44 #[.bool n1, .slice p1 l1.length q1, .slice o1 d1.length r1] ∧ BoxN W (w.heap.size + 1) 44 #[.bool n2, .slice p2 l2.length q2, .slice o2 d2.length r2] ∧ BoxN W (cb) 114 #[.func (.func J) #[] #[]])) M (by kernel_rfl) ?_
 intro V0 M
 have hS0 : (fun W => BoxN W (w.heap.size) 44 #[.bool n1, .slice p1 l1.length q1, .slice o1 d1.length r1] ∧ BoxN W (w.heap.size + 1) 44 #[.bool n2, .slice p2 l2.length q2, .slice o2 d2.length r2] ∧ BoxN W (cb) 114 #[.func (.func J) #[] #[]]) V0 := ⟨M.box 2 rfl, M.box 1 rfl, M.old hcb⟩
 refine wtk 0 (.func (.func 140) #[] #[.pointer (some ⟨cb, 0, none⟩)]) rfl (fun _ _ _ h => h) (Or.inl ⟨by rfl, fun W3 hS => by obtain ⟨hS1, hS2, hS3⟩ := hS; go_simp⟩) hS0 ?_
 refine wtk 1 (.agg #[.bool n1, .slice p1 l1.length q1, .slice o1 d1.length r1]) rfl (fun _ _ _ h => h) (Or.inl ⟨by rfl, fun W3 hS => by obtain ⟨hS1, hS2, hS3⟩ := hS; have c1_0 := hS1.cell 0 _ rfl; have c1_1 := hS1.cell 1 _ rfl; have c1_2 := hS1.cell 2 _ rfl; go_simp⟩) hS0 ?_
 refine wtk 3 (.agg #[.bool n2, .slice p2 l2.length q2, .slice o2 d2.length r2]) rfl (fun _ _ _ h => h) (Or.inl ⟨by rfl, fun W3 hS => by obtain ⟨hS1, hS2, hS3⟩ := hS; have c2_0 := hS2.cell 0 _ rfl; have c2_1 := hS2.cell 1 _ rfl; have c2_2 := hS2.cell 2 _ rfl; go_simp⟩) hS0 ?_
 clear hS0
 try simp only [Act.put, List.setIfInBounds_toArray, List.set_cons_zero, List.set_cons_succ]
 refine one_op 2 rfl (fun K1 hK => ?_)
 go_simp
 refine (kp1 _ (M.get 3 rfl) (M.get 2 rfl)).mono ?_
 rintro e V1_2 ⟨aX, cX, oX, rX, rfl, g, g', rr⟩
 have M' := ((M.up rr).add g).add g'
 clear M rr g g'
 have M := M'; clear M'
 refine hK _ _ ⟨⟨M.box 2 rfl, M.box 1 rfl, M.old hcb⟩, ?_⟩
 clear hK K1
 refine one_op 4 rfl (fun K2 hK => ?_)
 go_simp
 refine (kp2 _ (M.get 3 rfl) (M.get 2 rfl)).mono ?_
 rintro e V2_4 ⟨aY, cY, oY, rY, rfl, g, g', rr⟩
 have M' := ((M.up rr).add g).add g'
 clear M rr g g'
 have M := M'; clear M'
 refine hK _ _ ⟨⟨M.box 2 rfl, M.box 1 rfl, M.old hcb⟩, ?_⟩
 clear hK K2
 refine one_op 5 rfl (fun K3 hK => ?_)
 go_simp
 refine (kf _ (M.old hcb) (M.get 3 rfl) (M.get 2 rfl) (M.get 1 rfl) (M.get 0 rfl)).mono ?_
 rintro e V3_5 ⟨a, c, a', c', rfl, g, g', rr⟩
 have M' := ((M.up rr).add g).add g'
 clear M rr g g'
 have M := M'; clear M'
 refine hK _ _ ⟨⟨M.box 2 rfl, M.box 1 rfl, M.old hcb⟩, ?_⟩
 clear hK K3
 have f0_0 := M.fr 0 rfl 0; have f0_1 := M.fr 0 rfl 1; have f0_2 := M.fr 0 rfl 2
 have z0_0 := M.cell 0 rfl 0 rfl; have z0_1 := M.cell 0 rfl 1 rfl; have z0_2 := M.cell 0 rfl 2 rfl
 refine one_op 6 rfl (fun Ks4 hK => ?_)
 go_simp
 have M' := (((M.put 0 rfl rfl 0 (.bool sZ)).put 0 rfl rfl 1 (.slice a LZ.length c)).put 0 rfl rfl 2 (.slice a' DZ.length c'))
 clear M f0_0 z0_0 f0_1 z0_1 f0_2 z0_2
 simp only [List.set_cons_zero, List.set_cons_succ] at M'
 have M := M'
 clear M'
 refine hK _ _ ⟨⟨M.box 2 rfl, M.box 1 rfl, M.old hcb⟩, ?_⟩
 clear hK Ks4
 refine wdn ?_
 go_wp2
 refine ret_boxN rfl rfl (M.box 0 rfl) Tryz.underlying44 size_rat rfl ?_
 exact ⟨a, c, a', c', rfl, M.get 1 rfl, M.get 0 rfl, M.below⟩
theorem r_add {w : World} {p1 o1 p2 o2 : Option Addr} {q1 r1 q2 r2 : Nat} {n1 n2 sZ : Bool} {l1 d1 l2 d2 LZ DZ : List Nat} {X Y Z : Rat} (hX : RIs n1 l1 d1 X) (hY : RIs n2 l2 d2 Y) (kZ : RCan sZ LZ DZ Z) (eZ : Z = X + Y) (b1 : l1.length ≤ 9999) (b2 : d1.length ≤ 9999) (b3 : l2.length ≤ 9999) (b4 : d2.length ≤ 9999) (g1 : Reads w (.slice p1 l1.length q1) l1) (g2 : Reads w (.slice o1 d1.length r1) d1) (g3 : Reads w (.slice p2 l2.length q2) l2) (g4 : Reads w (.slice o2 d2.length r2) d2) :
  Calls Tryz.prog 58 #[.agg #[.bool n1, .slice p1 l1.length q1, .slice o1 d1.length r1], .agg #[.bool n2, .slice p2 l2.length q2, .slice o2 d2.length r2]] w fun e w' => ∃ a c a' c', e = .returned (.agg #[.bool sZ, .slice a LZ.length c, .slice a' DZ.length c']) ∧ Reads w' (.slice a LZ.length c) LZ ∧ Reads w' (.slice a' DZ.length c') DZ ∧ Below w.heap.size w w' := by
 have kj := fun W => joined_any 104 W
 have ko := fun (W : World) {cb : Nat} (hB : BoxN W cb 114 #[.func (.func 104) #[] #[]]) (g1 : Reads W (.slice p1 l1.length q1) l1) (g2 : Reads W (.slice o1 d1.length r1) d1) (g3 : Reads W (.slice p2 l2.length q2) l2) (g4 : Reads W (.slice o2 d2.length r2) d2) => ofTwo_join (w := W) (fun a b => a + b) (.inl ⟨rfl, eZ⟩) (fun W _ _ _ _ _ _ _ _ _ _ _ _ _ hA hB hC e l1 l2 h1 h2 => q_add hA hB hC e l1 l2 h1 h2) (enters_of Tryz.func104 (by kernel_rfl) rfl) hB hX hY kZ b1 b2 b3 b4 g1 g2 g3 g4
 have M : Mem w [(w.heap.size + 1 + 1, 44, [.bool false, .slice none 0 0, .slice none 0 0]), (w.heap.size + 1, 44, [.bool n2, .slice p2 l2.length q2, .slice o2 d2.length r2]), (w.heap.size, 44, [.bool n1, .slice p1 l1.length q1, .slice o1 d1.length r1])] [(.slice o2 d2.length r2, d2), (.slice p2 l2.length q2, l2), (.slice o1 d1.length r1, d1), (.slice p1 l1.length q1, l1)] (((w.alloc (.cells #[.bool n1, .slice p1 l1.length q1, .slice o1 d1.length r1] 44)).alloc (.cells #[.bool n2, .slice p2 l2.length q2, .slice o2 d2.length r2] 44)).alloc (.cells #[.bool false, .slice none 0 0, .slice none 0 0] 44)) := by
  have M := ((((((((Mem.start w).add g1).add g2).add g3).add g4).new 44 [.bool n1, .slice p1 l1.length q1, .slice o1 d1.length r1]).new 44 [.bool n2, .slice p2 l2.length q2, .slice o2 d2.length r2]).new 44 [.bool false, .slice none 0 0, .slice none 0 0])
  simpa only [World.size_alloc] using M
 clear g1 g2 g3 g4 b1 b2 b3 b4 hX hY kZ eZ
 go_enter Tryz.func58, Tryz.ntmps58
 go_wp2
 refine region_mem (S := (fun W => BoxN W (w.heap.size) 44 #[.bool n1, .slice p1 l1.length q1, .slice o1 d1.length r1] ∧ BoxN W (w.heap.size + 1) 44 #[.bool n2, .slice p2 l2.length q2, .slice o2 d2.length r2])) M (by kernel_rfl) ?_
 intro V0 M
 have hS0 : (fun W => BoxN W (w.heap.size) 44 #[.bool n1, .slice p1 l1.length q1, .slice o1 d1.length r1] ∧ BoxN W (w.heap.size + 1) 44 #[.bool n2, .slice p2 l2.length q2, .slice o2 d2.length r2]) V0 := ⟨M.box 2 rfl, M.box 1 rfl⟩
 refine wtk 0 (.agg #[.bool n1, .slice p1 l1.length q1, .slice o1 d1.length r1]) rfl (fun _ _ _ h => h) (Or.inl ⟨by rfl, fun W3 hS => by obtain ⟨hS1, hS2⟩ := hS; have c1_0 := hS1.cell 0 _ rfl; have c1_1 := hS1.cell 1 _ rfl; have c1_2 := hS1.cell 2 _ rfl; go_simp⟩) hS0 ?_
 refine wtk 1 (.agg #[.bool n2, .slice p2 l2.length q2, .slice o2 d2.length r2]) rfl (fun _ _ _ h => h) (Or.inl ⟨by rfl, fun W3 hS => by obtain ⟨hS1, hS2⟩ := hS; have c2_0 := hS2.cell 0 _ rfl; have c2_1 := hS2.cell 1 _ rfl; have c2_2 := hS2.cell 2 _ rfl; go_simp⟩) hS0 ?_
 clear hS0
 try simp only [Act.put, List.setIfInBounds_toArray, List.set_cons_zero, List.set_cons_succ]
 refine one_op 2 rfl (fun K1 hK => ?_)
 go_simp
 refine (kj _).mono ?_
 rintro e V1_2 ⟨cb, rfl, hcb, rr⟩
 have M' := M.up rr
 clear M rr 
 have M := M'; clear M'
 refine hK _ _ ⟨⟨M.box 2 rfl, M.box 1 rfl⟩, ?_⟩
 clear hK K1
 refine one_op 3 rfl (fun K2 hK => ?_)
 go_simp
 refine (ko _ hcb (M.get 3 rfl) (M.get 2 rfl) (M.get 1 rfl) (M.get 0 rfl)).mono ?_
 rintro e V2_3 ⟨a, c, a', c', rfl, g, g', rr⟩
 have M' := ((M.up rr).add g).add g'
 clear M rr g g'
 have M := M'; clear M'
 refine hK _ _ ⟨⟨M.box 2 rfl, M.box 1 rfl⟩, ?_⟩
 clear hK K2
 have f0_0 := M.fr 0 rfl 0; have f0_1 := M.fr 0 rfl 1; have f0_2 := M.fr 0 rfl 2
 have z0_0 := M.cell 0 rfl 0 rfl; have z0_1 := M.cell 0 rfl 1 rfl; have z0_2 := M.cell 0 rfl 2 rfl
 refine one_op 4 rfl (fun Ks3 hK => ?_)
 go_simp
 have M' := (((M.put 0 rfl rfl 0 (.bool sZ)).put 0 rfl rfl 1 (.slice a LZ.length c)).put 0 rfl rfl 2 (.slice a' DZ.length c'))
 clear M f0_0 z0_0 f0_1 z0_1 f0_2 z0_2
 simp only [List.set_cons_zero, List.set_cons_succ] at M'
 have M := M'
 clear M'
 refine hK _ _ ⟨⟨M.box 2 rfl, M.box 1 rfl⟩, ?_⟩
 clear hK Ks3
 refine wdn ?_
 go_wp2
 refine ret_boxN rfl rfl (M.box 0 rfl) Tryz.underlying44 size_rat rfl ?_
 exact ⟨a, c, a', c', rfl, M.get 1 rfl, M.get 0 rfl, M.below⟩
theorem r_sub {w : World} {p1 o1 p2 o2 : Option Addr} {q1 r1 q2 r2 : Nat} {n1 n2 sZ : Bool} {l1 d1 l2 d2 LZ DZ : List Nat} {X Y Z : Rat} (hX : RIs n1 l1 d1 X) (hY : RIs n2 l2 d2 Y) (kZ : RCan sZ LZ DZ Z) (eZ : Z = X - Y) (b1 : l1.length ≤ 9999) (b2 : d1.length ≤ 9999) (b3 : l2.length ≤ 9999) (b4 : d2.length ≤ 9999) (g1 : Reads w (.slice p1 l1.length q1) l1) (g2 : Reads w (.slice o1 d1.length r1) d1) (g3 : Reads w (.slice p2 l2.length q2) l2) (g4 : Reads w (.slice o2 d2.length r2) d2) :
  Calls Tryz.prog 100 #[.agg #[.bool n1, .slice p1 l1.length q1, .slice o1 d1.length r1], .agg #[.bool n2, .slice p2 l2.length q2, .slice o2 d2.length r2]] w fun e w' => ∃ a c a' c', e = .returned (.agg #[.bool sZ, .slice a LZ.length c, .slice a' DZ.length c']) ∧ Reads w' (.slice a LZ.length c) LZ ∧ Reads w' (.slice a' DZ.length c') DZ ∧ Below w.heap.size w w' := by
 have kj := fun W => joined_any 139 W
 have ko := fun (W : World) {cb : Nat} (hB : BoxN W cb 114 #[.func (.func 139) #[] #[]]) (g1 : Reads W (.slice p1 l1.length q1) l1) (g2 : Reads W (.slice o1 d1.length r1) d1) (g3 : Reads W (.slice p2 l2.length q2) l2) (g4 : Reads W (.slice o2 d2.length r2) d2) => ofTwo_join (w := W) (fun a b => a - b) (.inr ⟨rfl, eZ⟩) (fun W _ _ _ _ _ _ _ _ _ _ _ _ _ hA hB hC e l1 l2 h1 h2 => q_sub hA hB hC e l1 l2 h1 h2) (enters_of Tryz.func139 (by kernel_rfl) rfl) hB hX hY kZ b1 b2 b3 b4 g1 g2 g3 g4
 have M : Mem w [(w.heap.size + 1 + 1, 44, [.bool false, .slice none 0 0, .slice none 0 0]), (w.heap.size + 1, 44, [.bool n2, .slice p2 l2.length q2, .slice o2 d2.length r2]), (w.heap.size, 44, [.bool n1, .slice p1 l1.length q1, .slice o1 d1.length r1])] [(.slice o2 d2.length r2, d2), (.slice p2 l2.length q2, l2), (.slice o1 d1.length r1, d1), (.slice p1 l1.length q1, l1)] (((w.alloc (.cells #[.bool n1, .slice p1 l1.length q1, .slice o1 d1.length r1] 44)).alloc (.cells #[.bool n2, .slice p2 l2.length q2, .slice o2 d2.length r2] 44)).alloc (.cells #[.bool false, .slice none 0 0, .slice none 0 0] 44)) := by
  have M := ((((((((Mem.start w).add g1).add g2).add g3).add g4).new 44 [.bool n1, .slice p1 l1.length q1, .slice o1 d1.length r1]).new 44 [.bool n2, .slice p2 l2.length q2, .slice o2 d2.length r2]).new 44 [.bool false, .slice none 0 0, .slice none 0 0])
  simpa only [World.size_alloc] using M
 clear g1 g2 g3 g4 b1 b2 b3 b4 hX hY kZ eZ
 go_enter Tryz.func100, Tryz.ntmps100
 go_wp2
 refine region_mem (S := (fun W => BoxN W (w.heap.size) 44 #[.bool n1, .slice p1 l1.length q1, .slice o1 d1.length r1] ∧ BoxN W (w.heap.size + 1) 44 #[.bool n2, .slice p2 l2.length q2, .slice o2 d2.length r2])) M (by kernel_rfl) ?_
 intro V0 M
 have hS0 : (fun W => BoxN W (w.heap.size) 44 #[.bool n1, .slice p1 l1.length q1, .slice o1 d1.length r1] ∧ BoxN W (w.heap.size + 1) 44 #[.bool n2, .slice p2 l2.length q2, .slice o2 d2.length r2]) V0 := ⟨M.box 2 rfl, M.box 1 rfl⟩
 refine wtk 0 (.agg #[.bool n1, .slice p1 l1.length q1, .slice o1 d1.length r1]) rfl (fun _ _ _ h => h) (Or.inl ⟨by rfl, fun W3 hS => by obtain ⟨hS1, hS2⟩ := hS; have c1_0 := hS1.cell 0 _ rfl; have c1_1 := hS1.cell 1 _ rfl; have c1_2 := hS1.cell 2 _ rfl; go_simp⟩) hS0 ?_
 refine wtk 1 (.agg #[.bool n2, .slice p2 l2.length q2, .slice o2 d2.length r2]) rfl (fun _ _ _ h => h) (Or.inl ⟨by rfl, fun W3 hS => by obtain ⟨hS1, hS2⟩ := hS; have c2_0 := hS2.cell 0 _ rfl; have c2_1 := hS2.cell 1 _ rfl; have c2_2 := hS2.cell 2 _ rfl; go_simp⟩) hS0 ?_
 clear hS0
 try simp only [Act.put, List.setIfInBounds_toArray, List.set_cons_zero, List.set_cons_succ]
 refine one_op 2 rfl (fun K1 hK => ?_)
 go_simp
 refine (kj _).mono ?_
 rintro e V1_2 ⟨cb, rfl, hcb, rr⟩
 have M' := M.up rr
 clear M rr 
 have M := M'; clear M'
 refine hK _ _ ⟨⟨M.box 2 rfl, M.box 1 rfl⟩, ?_⟩
 clear hK K1
 refine one_op 3 rfl (fun K2 hK => ?_)
 go_simp
 refine (ko _ hcb (M.get 3 rfl) (M.get 2 rfl) (M.get 1 rfl) (M.get 0 rfl)).mono ?_
 rintro e V2_3 ⟨a, c, a', c', rfl, g, g', rr⟩
 have M' := ((M.up rr).add g).add g'
 clear M rr g g'
 have M := M'; clear M'
 refine hK _ _ ⟨⟨M.box 2 rfl, M.box 1 rfl⟩, ?_⟩
 clear hK K2
 have f0_0 := M.fr 0 rfl 0; have f0_1 := M.fr 0 rfl 1; have f0_2 := M.fr 0 rfl 2
 have z0_0 := M.cell 0 rfl 0 rfl; have z0_1 := M.cell 0 rfl 1 rfl; have z0_2 := M.cell 0 rfl 2 rfl
 refine one_op 4 rfl (fun Ks3 hK => ?_)
 go_simp
 have M' := (((M.put 0 rfl rfl 0 (.bool sZ)).put 0 rfl rfl 1 (.slice a LZ.length c)).put 0 rfl rfl 2 (.slice a' DZ.length c'))
 clear M f0_0 z0_0 f0_1 z0_1 f0_2 z0_2
 simp only [List.set_cons_zero, List.set_cons_succ] at M'
 have M := M'
 clear M'
 refine hK _ _ ⟨⟨M.box 2 rfl, M.box 1 rfl⟩, ?_⟩
 clear hK Ks3
 refine wdn ?_
 go_wp2
 refine ret_boxN rfl rfl (M.box 0 rfl) Tryz.underlying44 size_rat rfl ?_
 exact ⟨a, c, a', c', rfl, M.get 1 rfl, M.get 0 rfl, M.below⟩
theorem cmpFn_any {w : World} {aX oX aY oY : Option Addr} {cX rX cY rY : Nat} {sX sY : Bool} {LX DX LY DY : List Nat} {X Y : Rat} (z : Int) (ez : rsg X Y = z) (kX : RCan sX LX DX X) (kY : RCan sY LY DY Y) (b1 : LX.length ≤ 20000) (b2 : DX.length ≤ 20000) (b3 : LY.length ≤ 20000) (b4 : DY.length ≤ 20000) (g1 : Reads w (.slice aX LX.length cX) LX) (g2 : Reads w (.slice oX DX.length rX) DX) (g3 : Reads w (.slice aY LY.length cY) LY) (g4 : Reads w (.slice oY DY.length rY) DY) :
  Calls Tryz.prog 91 #[.agg #[.bool sX, .slice aX LX.length cX, .bool false, .slice oX DX.length rX], .agg #[.bool sY, .slice aY LY.length cY, .bool false, .slice oY DY.length rY]] w fun e w' => e = .returned (.int .i64 z) ∧ Below w.heap.size w w' := by
 obtain ⟨P, hP⟩ : ∃ P, P = X.num * (Y.den : Int) := ⟨_, rfl⟩
 obtain ⟨Q, hQ⟩ : ∃ Q, Q = Y.num * (X.den : Int) := ⟨_, rfl⟩
 rw [← rsg_eq, ← hP, ← hQ] at ez
 obtain ⟨sP, LP, cP⟩ := Can.ex P
 obtain ⟨sQ, LQ, cQ⟩ := Can.ex Q
 have cDX := canL kX.2
 have cDY := canL kY.2
 have lP : LP.length ≤ 40000 := by have := Can.len_mul kX.1.is cDY.is cP hP; omega
 have lQ : LQ.length ≤ 40000 := by have := Can.len_mul kY.1.is cDX.is cQ hQ; omega
 have kp := fun (W : World) {p1 p2 : Option Addr} {q1 q2 : Nat} (h1 : Reads W (.slice p1 LX.length q1) LX) (h2 : Reads W (.slice p2 DY.length q2) DY) => q_mul kX.1.is cDY.is cP hP (by omega) (by omega) h1 h2
 have kq := fun (W : World) {p1 p2 : Option Addr} {q1 q2 : Nat} (h1 : Reads W (.slice p1 LY.length q1) LY) (h2 : Reads W (.slice p2 DX.length q2) DX) => q_mul kY.1.is cDX.is cQ hQ (by omega) (by omega) h1 h2
 have kc := fun (W : World) {p1 p2 : Option Addr} {q1 q2 : Nat} (h1 : Reads W (.slice p1 LP.length q1) LP) (h2 : Reads W (.slice p2 LQ.length q2) LQ) => q_cmp z cP.is cQ.is ez (by omega) (by omega) h1 h2
 have M : Mem w [(w.heap.size + 1, 93, [.bool sY, .slice aY LY.length cY, .bool false, .slice oY DY.length rY]), (w.heap.size, 93, [.bool sX, .slice aX LX.length cX, .bool false, .slice oX DX.length rX])] [(.slice oY DY.length rY, DY), (.slice aY LY.length cY, LY), (.slice oX DX.length rX, DX), (.slice aX LX.length cX, LX)] ((w.alloc (.cells #[.bool sX, .slice aX LX.length cX, .bool false, .slice oX DX.length rX] 93)).alloc (.cells #[.bool sY, .slice aY LY.length cY, .bool false, .slice oY DY.length rY] 93)) := by
  have M := (((((((Mem.start w).add g1).add g2).add g3).add g4).new 93 [.bool sX, .slice aX LX.length cX, .bool false, .slice oX DX.length rX]).new 93 [.bool sY, .slice aY LY.length cY, .bool false, .slice oY DY.length rY])
  simpa only [World.size_alloc] using M
 clear g1 g2 g3 g4 b1 b2 b3 b4 kX kY cDX cDY ez hP hQ cP cQ lP lQ
 go_enter Tryz.func91, Tryz.ntmps91
 go_wp2
 refine region_mem (S := (fun W => BoxN W (w.heap.size) 93 #[.bool sX, .slice aX LX.length cX, .bool false, .slice oX DX.length rX] ∧ BoxN W (w.heap.size + 1) 93 #[.bool sY, .slice aY LY.length cY, .bool false, .slice oY DY.length rY])) M (by kernel_rfl) ?_
 intro V0 M
 have hS0 : (fun W => BoxN W (w.heap.size) 93 #[.bool sX, .slice aX LX.length cX, .bool false, .slice oX DX.length rX] ∧ BoxN W (w.heap.size + 1) 93 #[.bool sY, .slice aY LY.length cY, .bool false, .slice oY DY.length rY]) V0 := ⟨M.box 1 rfl, M.box 0 rfl⟩
 refine wtk 0 (.pointer (some ⟨w.heap.size, 0, none⟩)) rfl (fun _ _ _ h => h) (Or.inl ⟨by rfl, fun W3 hS => by obtain ⟨hS1, hS2⟩ := hS; go_simp⟩) hS0 ?_
 refine wtk 1 (.agg #[.bool sX, .slice aX LX.length cX]) rfl (fun _ _ _ h => h) (Or.inl ⟨by rfl, fun W3 hS => by obtain ⟨hS1, hS2⟩ := hS; have c1_0 := hS1.cell 0 _ rfl; have c1_1 := hS1.cell 1 _ rfl; have c1_2 := hS1.cell 2 _ rfl; have c1_3 := hS1.cell 3 _ rfl; go_simp⟩) hS0 ?_
 refine wtk 2 (.pointer (some ⟨w.heap.size + 1, 2, none⟩)) rfl (fun _ _ _ h => h) (Or.inl ⟨by rfl, fun W3 hS => by obtain ⟨hS1, hS2⟩ := hS; go_simp⟩) hS0 ?_
 refine wtk 3 (.agg #[.bool false, .slice oY DY.length rY]) rfl (fun _ _ _ h => h) (Or.inl ⟨by rfl, fun W3 hS => by obtain ⟨hS1, hS2⟩ := hS; have c2_0 := hS2.cell 0 _ rfl; have c2_1 := hS2.cell 1 _ rfl; have c2_2 := hS2.cell 2 _ rfl; have c2_3 := hS2.cell 3 _ rfl; go_simp⟩) hS0 ?_
 refine wtk 5 (.pointer (some ⟨w.heap.size + 1, 0, none⟩)) rfl (fun _ _ _ h => h) (Or.inl ⟨by rfl, fun W3 hS => by obtain ⟨hS1, hS2⟩ := hS; go_simp⟩) hS0 ?_
 refine wtk 6 (.agg #[.bool sY, .slice aY LY.length cY]) rfl (fun _ _ _ h => h) (Or.inl ⟨by rfl, fun W3 hS => by obtain ⟨hS1, hS2⟩ := hS; have c2_0 := hS2.cell 0 _ rfl; have c2_1 := hS2.cell 1 _ rfl; have c2_2 := hS2.cell 2 _ rfl; have c2_3 := hS2.cell 3 _ rfl; go_simp⟩) hS0 ?_
 refine wtk 7 (.pointer (some ⟨w.heap.size, 2, none⟩)) rfl (fun _ _ _ h => h) (Or.inl ⟨by rfl, fun W3 hS => by obtain ⟨hS1, hS2⟩ := hS; go_simp⟩) hS0 ?_
 refine wtk 8 (.agg #[.bool false, .slice oX DX.length rX]) rfl (fun _ _ _ h => h) (Or.inl ⟨by rfl, fun W3 hS => by obtain ⟨hS1, hS2⟩ := hS; have c1_0 := hS1.cell 0 _ rfl; have c1_1 := hS1.cell 1 _ rfl; have c1_2 := hS1.cell 2 _ rfl; have c1_3 := hS1.cell 3 _ rfl; go_simp⟩) hS0 ?_
 clear hS0
 try simp only [Act.put, List.setIfInBounds_toArray, List.set_cons_zero, List.set_cons_succ]
 refine one_op 4 rfl (fun K1 hK => ?_)
 go_simp
 refine (kp _ (M.get 3 rfl) (M.get 0 rfl)).mono ?_
 rintro e V1_4 ⟨a1, c1, rfl, g, rr⟩
 have M' := (M.up rr).add g
 clear M rr g
 have M := M'; clear M'
 refine hK _ _ ⟨⟨M.box 1 rfl, M.box 0 rfl⟩, ?_⟩
 clear hK K1
 refine one_op 9 rfl (fun K2 hK => ?_)
 go_simp
 refine (kq _ (M.get 2 rfl) (M.get 3 rfl)).mono ?_
 rintro e V2_9 ⟨a2, c2, rfl, g, rr⟩
 have M' := (M.up rr).add g
 clear M rr g
 have M := M'; clear M'
 refine hK _ _ ⟨⟨M.box 1 rfl, M.box 0 rfl⟩, ?_⟩
 clear hK K2
 refine one_op 10 rfl (fun K3 hK => ?_)
 go_simp
 refine (kc _ (M.get 1 rfl) (M.get 0 rfl)).mono ?_
 rintro e V3_10 ⟨rfl, rr⟩
 have M' := M.up rr
 clear M rr 
 have M := M'; clear M'
 refine hK _ _ ⟨⟨M.box 1 rfl, M.box 0 rfl⟩, ?_⟩
 clear hK K3
 have hS0 : (fun W => BoxN W (w.heap.size) 93 #[.bool sX, .slice aX LX.length cX, .bool false, .slice oX DX.length rX] ∧ BoxN W (w.heap.size + 1) 93 #[.bool sY, .slice aY LY.length cY, .bool false, .slice oY DY.length rY]) _ := ⟨M.box 1 rfl, M.box 0 rfl⟩
 refine wtk 11 (.int .i64 z) rfl (fun _ _ _ h => h) (Or.inl ⟨by rfl, fun W3 hS => by obtain ⟨hS1, hS2⟩ := hS; go_simp⟩) hS0 ?_
 clear hS0
 try simp only [Act.put, List.setIfInBounds_toArray, List.set_cons_zero, List.set_cons_succ]
 refine wdn ?_
 go_wp2
 go_ret
 exact ⟨rfl, M.below⟩
theorem ofTwo_cmp {w : World} {p1 o1 p2 o2 : Option Addr} {q1 r1 q2 r2 : Nat} {n1 n2 : Bool} {l1 d1 l2 d2 : List Nat} {X Y : Rat} (z : Int) (ez : rsg X Y = z) (hX : RIs n1 l1 d1 X) (hY : RIs n2 l2 d2 Y) (b1 : l1.length ≤ 9999) (b2 : d1.length ≤ 9999) (b3 : l2.length ≤ 9999) (b4 : d2.length ≤ 9999) (g1 : Reads w (.slice p1 l1.length q1) l1) (g2 : Reads w (.slice o1 d1.length r1) d1) (g3 : Reads w (.slice p2 l2.length q2) l2) (g4 : Reads w (.slice o2 d2.length r2) d2) :
  Calls Tryz.prog 90 #[.agg #[.bool n1, .slice p1 l1.length q1, .slice o1 d1.length r1], .agg #[.bool n2, .slice p2 l2.length q2, .slice o2 d2.length r2], .func (.func 91) #[] #[]] w fun e w' => e = .returned (.int .i64 z) ∧ Below w.heap.size w w' := by
 obtain ⟨sX, LX, DX, kX⟩ := RCan.ex X
 obtain ⟨sY, LY, DY, kY⟩ := RCan.ex Y
 have lX := hX.lens kX
 have lY := hY.lens kY
 have kp1 := fun (W : World) (h1 : Reads W (.slice p1 l1.length q1) l1) (h2 : Reads W (.slice o1 d1.length r1) d1) => partsOf_any hX kX (by omega) (by omega) h1 h2
 have kp2 := fun (W : World) (h1 : Reads W (.slice p2 l2.length q2) l2) (h2 : Reads W (.slice o2 d2.length r2) d2) => partsOf_any hY kY (by omega) (by omega) h1 h2
 have kf := fun (W : World) {aX oX aY oY : Option Addr} {cX rX cY rY : Nat} (g1 : Reads W (.slice aX LX.length cX) LX) (g2 : Reads W (.slice oX DX.length rX) DX) (g3 : Reads W (.slice aY LY.length cY) LY) (g4 : Reads W (.slice oY DY.length rY) DY) => cmpFn_any z ez kX kY (by omega) (by omega) (by omega) (by omega) g1 g2 g3 g4
 have M : Mem w [(w.heap.size + 1, 44, [.bool n2, .slice p2 l2.length q2, .slice o2 d2.length r2]), (w.heap.size, 44, [.bool n1, .slice p1 l1.length q1, .slice o1 d1.length r1])] [(.slice o2 d2.length r2, d2), (.slice p2 l2.length q2, l2), (.slice o1 d1.length r1, d1), (.slice p1 l1.length q1, l1)] ((w.alloc (.cells #[.bool n1, .slice p1 l1.length q1, .slice o1 d1.length r1] 44)).alloc (.cells #[.bool n2, .slice p2 l2.length q2, .slice o2 d2.length r2] 44)) := by
  have M := (((((((Mem.start w).add g1).add g2).add g3).add g4).new 44 [.bool n1, .slice p1 l1.length q1, .slice o1 d1.length r1]).new 44 [.bool n2, .slice p2 l2.length q2, .slice o2 d2.length r2])
  simpa only [World.size_alloc] using M
 clear g1 g2 g3 g4 b1 b2 b3 b4 kX kY lX lY hX hY ez
 go_enter Tryz.func90, Tryz.ntmps90
 go_wp2
 refine region_mem (S := (fun W => BoxN W (w.heap.size) 44 #[.bool n1, .slice p1 l1.length q1, .slice o1 d1.length r1] ∧ BoxN W (w.heap.size + 1) 44 #[.bool n2, .slice p2 l2.length q2, .slice o2 d2.length r2])) M (by kernel_rfl) ?_
 intro V0 M
 have hS0 : (fun W => BoxN W (w.heap.size) 44 #[.bool n1, .slice p1 l1.length q1, .slice o1 d1.length r1] ∧ BoxN W (w.heap.size + 1) 44 #[.bool n2, .slice p2 l2.length q2, .slice o2 d2.length r2]) V0 := ⟨M.box 1 rfl, M.box 0 rfl⟩
 refine wtk 0 (.func (.func 91) #[] #[]) rfl (fun _ _ _ h => h) (Or.inl ⟨by rfl, fun W3 hS => by obtain ⟨hS1, hS2⟩ := hS; go_simp⟩) hS0 ?_
 refine wtk 1 (.agg #[.bool n1, .slice p1 l1.length q1, .slice o1 d1.length r1]) rfl (fun _ _ _ h => h) (Or.inl ⟨by rfl, fun W3 hS => by obtain ⟨hS1, hS2⟩ := hS; have c1_0 := hS1.cell 0 _ rfl; have c1_1 := hS1.cell 1 _ rfl; have c1_2 := hS1.cell 2 _ rfl; go_simp⟩) hS0 ?_
 refine wtk 3 (.agg #[.bool n2, .slice p2 l2.length q2, .slice o2 d2.length r2]) rfl (fun _ _ _ h => h) (Or.inl ⟨by rfl, fun W3 hS => by obtain ⟨hS1, hS2⟩ := hS; have c2_0 := hS2.cell 0 _ rfl; have c2_1 := hS2.cell 1 _ rfl; have c2_2 := hS2.cell 2 _ rfl; go_simp⟩) hS0 ?_
 clear hS0
 try simp only [Act.put, List.setIfInBounds_toArray, List.set_cons_zero, List.set_cons_succ]
 refine one_op 2 rfl (fun K1 hK => ?_)
 go_simp
 refine (kp1 _ (M.get 3 rfl) (M.get 2 rfl)).mono ?_
 rintro e V1_2 ⟨aX, cX, oX, rX, rfl, g, g', rr⟩
 have M' := ((M.up rr).add g).add g'
 clear M rr g g'
 have M := M'; clear M'
 refine hK _ _ ⟨⟨M.box 1 rfl, M.box 0 rfl⟩, ?_⟩
 clear hK K1
 refine one_op 4 rfl (fun K2 hK => ?_)
 go_simp
 refine (kp2 _ (M.get 3 rfl) (M.get 2 rfl)).mono ?_
 rintro e V2_4 ⟨aY, cY, oY, rY, rfl, g, g', rr⟩
 have M' := ((M.up rr).add g).add g'
 clear M rr g g'
 have M := M'; clear M'
 refine hK _ _ ⟨⟨M.box 1 rfl, M.box 0 rfl⟩, ?_⟩
 clear hK K2
 refine one_op 5 rfl (fun K3 hK => ?_)
 go_simp
 refine (kf _ (M.get 3 rfl) (M.get 2 rfl) (M.get 1 rfl) (M.get 0 rfl)).mono ?_
 rintro e V3_5 ⟨rfl, rr⟩
 have M' := M.up rr
 clear M rr 
 have M := M'; clear M'
 refine hK _ _ ⟨⟨M.box 1 rfl, M.box 0 rfl⟩, ?_⟩
 clear hK K3
 have hS0 : (fun W => BoxN W (w.heap.size) 44 #[.bool n1, .slice p1 l1.length q1, .slice o1 d1.length r1] ∧ BoxN W (w.heap.size + 1) 44 #[.bool n2, .slice p2 l2.length q2, .slice o2 d2.length r2]) _ := ⟨M.box 1 rfl, M.box 0 rfl⟩
 refine wtk 6 (.int .i64 z) rfl (fun _ _ _ h => h) (Or.inl ⟨by rfl, fun W3 hS => by obtain ⟨hS1, hS2⟩ := hS; go_simp⟩) hS0 ?_
 clear hS0
 try simp only [Act.put, List.setIfInBounds_toArray, List.set_cons_zero, List.set_cons_succ]
 refine wdn ?_
 go_wp2
 go_ret
 exact ⟨rfl, M.below⟩
theorem r_cmp {w : World} {p1 o1 p2 o2 : Option Addr} {q1 r1 q2 r2 : Nat} {n1 n2 : Bool} {l1 d1 l2 d2 : List Nat} {X Y : Rat} (z : Int) (ez : rsg X Y = z) (hX : RIs n1 l1 d1 X) (hY : RIs n2 l2 d2 Y) (b1 : l1.length ≤ 9999) (b2 : d1.length ≤ 9999) (b3 : l2.length ≤ 9999) (b4 : d2.length ≤ 9999) (g1 : Reads w (.slice p1 l1.length q1) l1) (g2 : Reads w (.slice o1 d1.length r1) d1) (g3 : Reads w (.slice p2 l2.length q2) l2) (g4 : Reads w (.slice o2 d2.length r2) d2) :
  Calls Tryz.prog 40 #[.agg #[.bool n1, .slice p1 l1.length q1, .slice o1 d1.length r1], .agg #[.bool n2, .slice p2 l2.length q2, .slice o2 d2.length r2]] w fun e w' => e = .returned (.int .i64 z) ∧ Below w.heap.size w w' := by
 have ko := fun (W : World) (g1 : Reads W (.slice p1 l1.length q1) l1) (g2 : Reads W (.slice o1 d1.length r1) d1) (g3 : Reads W (.slice p2 l2.length q2) l2) (g4 : Reads W (.slice o2 d2.length r2) d2) => ofTwo_cmp (w := W) z ez hX hY b1 b2 b3 b4 g1 g2 g3 g4
 have M : Mem w [(w.heap.size + 1, 44, [.bool n2, .slice p2 l2.length q2, .slice o2 d2.length r2]), (w.heap.size, 44, [.bool n1, .slice p1 l1.length q1, .slice o1 d1.length r1])] [(.slice o2 d2.length r2, d2), (.slice p2 l2.length q2, l2), (.slice o1 d1.length r1, d1), (.slice p1 l1.length q1, l1)] ((w.alloc (.cells #[.bool n1, .slice p1 l1.length q1, .slice o1 d1.length r1] 44)).alloc (.cells #[.bool n2, .slice p2 l2.length q2, .slice o2 d2.length r2] 44)) := by
  have M := (((((((Mem.start w).add g1).add g2).add g3).add g4).new 44 [.bool n1, .slice p1 l1.length q1, .slice o1 d1.length r1]).new 44 [.bool n2, .slice p2 l2.length q2, .slice o2 d2.length r2])
  simpa only [World.size_alloc] using M
 clear g1 g2 g3 g4 b1 b2 b3 b4 hX hY ez
 go_enter Tryz.func40, Tryz.ntmps40
 go_wp2_with (go_at_call 90; refine (ko _ (M.get 3 rfl) (M.get 2 rfl) (M.get 1 rfl) (M.get 0 rfl)).mono ?_; clear ko; rintro e w1 ⟨rfl, rr⟩; have M' := M.up rr; clear M rr)
 go_ret
 exact ⟨rfl, M'.below⟩
end Go.Proofs.YtgmbaamfobhceaaGreat
