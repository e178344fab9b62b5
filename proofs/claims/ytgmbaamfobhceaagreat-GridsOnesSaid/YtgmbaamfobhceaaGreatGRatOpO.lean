/- Fractions: what is done with two, of the call's own. -/
import Derived.Test.YtgmbaamfobhceaaGreatGRatSumO
import Derived.Test.YtgmbaamfobhceaaGreatGRatCmp
set_option linter.unusedSimpArgs false
set_option linter.unusedVariables false
set_option maxRecDepth 100000
set_option maxHeartbeats 8000000
namespace Go.Proofs.YtgmbaamfobhceaaGreat
open Go Go.Proofs Go.RowKit Go.Shelf Nu
attribute [local go_sem] Oper.semAt_some
theorem ofTwo_mul_own {w : World} {p1 o1 p2 o2 : Option Addr} {q1 r1 q2 r2 : Nat} {n1 n2 sZ : Bool} {l1 d1 l2 d2 LZ DZ : List Nat} {X Y Z : Rat} (eZ : Z = X * Y) (hX : RIs n1 l1 d1 X) (hY : RIs n2 l2 d2 Y) (kZ : RCan sZ LZ DZ Z) (b1 : l1.length ≤ 9999) (b2 : d1.length ≤ 9999) (b3 : l2.length ≤ 9999) (b4 : d2.length ≤ 9999) (g1 : Reads w (.slice p1 l1.length q1) l1) (g2 : Reads w (.slice o1 d1.length r1) d1) (g3 : Reads w (.slice p2 l2.length q2) l2) (g4 : Reads w (.slice o2 d2.length r2) d2) :
  Calls Tryz.prog 102 #[.agg #[.bool n1, .slice p1 l1.length q1, .slice o1 d1.length r1], .agg #[.bool n2, .slice p2 l2.length q2, .slice o2 d2.length r2], .func (.func 105) #[] #[]] w fun e w' => ∃ a c a' c', e = .returned (.agg #[.bool sZ, .slice a LZ.length c, .slice a' DZ.length c']) ∧ Fresh w' w.heap.size (.slice a LZ.length c) LZ ∧ Fresh w' w.heap.size (.slice a' DZ.length c') DZ ∧ Below w.heap.size w w' ∧ Two (.slice a LZ.length c) (.slice a' DZ.length c') := by
 obtain ⟨sX, LX, DX, kX⟩ := RCan.ex X
 obtain ⟨sY, LY, DY, kY⟩ := RCan.ex Y
 have lX := hX.lens kX
 have lY := hY.lens kY
 have kp1 := fun (W : World) (h1 : Reads W (.slice p1 l1.length q1) l1) (h2 : Reads W (.slice o1 d1.length r1) d1) => partsOf_any hX kX (by omega) (by omega) h1 h2
 have kp2 := fun (W : World) (h1 : Reads W (.slice p2 l2.length q2) l2) (h2 : Reads W (.slice o2 d2.length r2) d2) => partsOf_any hY kY (by omega) (by omega) h1 h2
 have kf := fun (W : World) {aX oX aY oY : Option Addr} {cX rX cY rY : Nat} (g1 : Reads W (.slice aX LX.length cX) LX) (g2 : Reads W (.slice oX DX.length rX) DX) (g3 : Reads W (.slice aY LY.length cY) LY) (g4 : Reads W (.slice oY DY.length rY) DY) => mulFn_own kX kY kZ eZ (by omega) (by omega) (by omega) (by omega) g1 g2 g3 g4
 have M : Mem w [(w.heap.size + 1 + 1, 44, [.bool false, .slice none 0 0, .slice none 0 0]), (w.heap.size + 1, 44, [.bool n2, .slice p2 l2.length q2, .slice o2 d2.length r2]), (w.heap.size, 44, [.bool n1, .slice p1 l1.length q1, .slice o1 d1.length r1])] [(.slice o2 d2.length r2, d2), (.slice p2 l2.length q2, l2), (.slice o1 d1.length r1, d1), (.slice p1 l1.length q1, l1)] (((w.alloc (.cells #[.bool n1, .slice p1 l1.length q1, .slice o1 d1.length r1] 44)).alloc (.cells #[.bool n2, .slice p2 l2.length q2, .slice o2 d2.length r2] 44)).alloc (.cells #[.bool false, .slice none 0 0, .slice none 0 0] 44)) := by
  have M := ((((((((Mem.start w).add g1).add g2).add g3).add g4).new 44 [.bool n1, .slice p1 l1.length q1, .slice o1 d1.length r1]).new 44 [.bool n2, .slice p2 l2.length q2, .slice o2 d2.length r2]).new 44 [.bool false, .slice none 0 0, .slice none 0 0])
  simpa only [World.size_alloc] using M
 clear g1 g2 g3 g4 b1 b2 b3 b4 kX kY lX lY hX hY kZ eZ
 go_enter Tryz.func102, Tryz.ntmps102
 go_wp2
 refine region_mem (S := (fun W => BoxN W (w.heap.size) 44 #[.bool n1, .slice p1 l1.length q1, .slice o1 d1.length r1] ∧ BoxN W (w.heap.size + 1) 44 #[.bool n2, .slice p2 l2.length q2, .slice o2 d2.length r2])) M (by kernel_rfl) ?_
 intro V0 M
 have hS0 : (fun W => BoxN W (w.heap.size) 44 #[.bool n1, .slice p1 l1.length q1, .slice o1 d1.length r1] ∧ BoxN W (w.heap.size + 1) 44 #[.bool n2, .slice p2 l2.length q2, .slice o2 d2.length r2]) V0 := ⟨M.box 2 rfl, M.box 1 rfl⟩
 refine wtk 0 (.func (.func 105) #[] #[]) rfl (fun _ _ _ h => h) (Or.inl ⟨by rfl, fun W3 hS => by obtain ⟨hS1, hS2⟩ := hS; go_simp⟩) hS0 ?_
 refine wtk 1 (.agg #[.bool n1, .slice p1 l1.length q1, .slice o1 d1.length r1]) rfl (fun _ _ _ h => h) (Or.inl ⟨by rfl, fun W3 hS => by obtain ⟨hS1, hS2⟩ := hS; have c1_0 := hS1.cell 0 _ rfl; have c1_1 := hS1.cell 1 _ rfl; have c1_2 := hS1.cell 2 _ rfl; go_simp⟩) hS0 ?_
 refine wtk 3 (.agg #[.bool n2, .slice p2 l2.length q2, .slice o2 d2.length r2]) rfl (fun _ _ _ h => h) (Or.inl ⟨by rfl, fun W3 hS => by obtain ⟨hS1, hS2⟩ := hS; have c2_0 := hS2.cell 0 _ rfl; have c2_1 := hS2.cell 1 _ rfl; have c2_2 := hS2.cell 2 _ rfl; go_simp⟩) hS0 ?_
 clear hS0
 try simp only [Act.put, List.setIfInBounds_toArray, List.set_cons_zero, List.set_cons_succ]
 refine one_op 2 rfl (fun K1 hK => ?_)
 go_simp
 refine (kp1 _ (M.get 3 rfl) (M.get 2 rfl)).mono ?_
 rintro e V1_2 ⟨aX, cX, oX, rX, rfl, g, g', rr⟩
 have M' := ((M.up rr).add g).add g'
 clear M rr g g'
 have M := M'; clear M'
 refine hK _ _ ⟨⟨M.box 2 rfl, M.box 1 rfl⟩, ?_⟩
 clear hK K1
 refine one_op 4 rfl (fun K2 hK => ?_)
 go_simp
 refine (kp2 _ (M.get 3 rfl) (M.get 2 rfl)).mono ?_
 rintro e V2_4 ⟨aY, cY, oY, rY, rfl, g, g', rr⟩
 have M' := ((M.up rr).add g).add g'
 clear M rr g g'
 have M := M'; clear M'
 refine hK _ _ ⟨⟨M.box 2 rfl, M.box 1 rfl⟩, ?_⟩
 clear hK K2
 refine one_op 5 rfl (fun K3 hK => ?_)
 go_simp
 refine (kf _ (M.get 3 rfl) (M.get 2 rfl) (M.get 1 rfl) (M.get 0 rfl)).mono ?_
 rintro e V3_5 ⟨a, c, a', c', rfl, g, g', rr, tw⟩
 have M' := (MemO.of (n := 8) M).upadd2 rr g g' tw
 clear M rr g g' tw
 have M := M'; clear M'
 refine hK _ _ ⟨⟨M.box 2 rfl, M.box 1 rfl⟩, ?_⟩
 clear hK K3
 have f0_0 := M.fr 0 rfl 0; have f0_1 := M.fr 0 rfl 1; have f0_2 := M.fr 0 rfl 2
 have z0_0 := M.cell 0 rfl 0 rfl; have z0_1 := M.cell 0 rfl 1 rfl; have z0_2 := M.cell 0 rfl 2 rfl
 refine one_op 6 rfl (fun Ks4 hK => ?_)
 go_simp
 have M' := (((M.put 0 rfl rfl 0 (.bool sZ)).put 0 rfl rfl 1 (.slice a LZ.length c)).put 0 rfl rfl 2 (.slice a' DZ.length c'))
 clear M f0_0 z0_0 f0_1 z0_1 f0_2 z0_2
 simp only [List.set_cons_zero, List.set_cons_succ] at M'
 have M := M'
 clear M'
 refine hK _ _ ⟨⟨M.box 2 rfl, M.box 1 rfl⟩, ?_⟩
 clear hK Ks4
 refine wdn ?_
 go_wp2
 refine ret_boxN rfl rfl (M.box 0 rfl) Tryz.underlying44 size_rat rfl ?_
 exact ⟨a, c, a', c', rfl, M.own 1 rfl, M.own 0 rfl, M.below, (M.two 0 1 rfl rfl).symm⟩
theorem r_mul_own {w : World} {p1 o1 p2 o2 : Option Addr} {q1 r1 q2 r2 : Nat} {n1 n2 sZ : Bool} {l1 d1 l2 d2 LZ DZ : List Nat} {X Y Z : Rat} (hX : RIs n1 l1 d1 X) (hY : RIs n2 l2 d2 Y) (kZ : RCan sZ LZ DZ Z) (eZ : Z = X * Y) (b1 : l1.length ≤ 9999) (b2 : d1.length ≤ 9999) (b3 : l2.length ≤ 9999) (b4 : d2.length ≤ 9999) (g1 : Reads w (.slice p1 l1.length q1) l1) (g2 : Reads w (.slice o1 d1.length r1) d1) (g3 : Reads w (.slice p2 l2.length q2) l2) (g4 : Reads w (.slice o2 d2.length r2) d2) :
  Calls Tryz.prog 59 #[.agg #[.bool n1, .slice p1 l1.length q1, .slice o1 d1.length r1], .agg #[.bool n2, .slice p2 l2.length q2, .slice o2 d2.length r2]] w fun e w' => ∃ a c a' c', e = .returned (.agg #[.bool sZ, .slice a LZ.length c, .slice a' DZ.length c']) ∧ Fresh w' w.heap.size (.slice a LZ.length c) LZ ∧ Fresh w' w.heap.size (.slice a' DZ.length c') DZ ∧ Below w.heap.size w w' ∧ Two (.slice a LZ.length c) (.slice a' DZ.length c') := by
 have ko := fun (W : World) (g1 : Reads W (.slice p1 l1.length q1) l1) (g2 : Reads W (.slice o1 d1.length r1) d1) (g3 : Reads W (.slice p2 l2.length q2) l2) (g4 : Reads W (.slice o2 d2.length r2) d2) => ofTwo_mul_own (w := W) eZ hX hY kZ b1 b2 b3 b4 g1 g2 g3 g4
 have M : Mem w [(w.heap.size + 1 + 1, 44, [.bool false, .slice none 0 0, .slice none 0 0]), (w.heap.size + 1, 44, [.bool n2, .slice p2 l2.length q2, .slice o2 d2.length r2]), (w.heap.size, 44, [.bool n1, .slice p1 l1.length q1, .slice o1 d1.length r1])] [(.slice o2 d2.length r2, d2), (.slice p2 l2.length q2, l2), (.slice o1 d1.length r1, d1), (.slice p1 l1.length q1, l1)] (((w.alloc (.cells #[.bool n1, .slice p1 l1.length q1, .slice o1 d1.length r1] 44)).alloc (.cells #[.bool n2, .slice p2 l2.length q2, .slice o2 d2.length r2] 44)).alloc (.cells #[.bool false, .slice none 0 0, .slice none 0 0] 44)) := by
  have M := ((((((((Mem.start w).add g1).add g2).add g3).add g4).new 44 [.bool n1, .slice p1 l1.length q1, .slice o1 d1.length r1]).new 44 [.bool n2, .slice p2 l2.length q2, .slice o2 d2.length r2]).new 44 [.bool false, .slice none 0 0, .slice none 0 0])
  simpa only [World.size_alloc] using M
 clear g1 g2 g3 g4 b1 b2 b3 b4 hX hY kZ eZ
 go_enter Tryz.func59, Tryz.ntmps59
 go_wp2_with (go_at_call 102; refine (ko _ (M.get 3 rfl) (M.get 2 rfl) (M.get 1 rfl) (M.get 0 rfl)).mono ?_; clear ko; rintro e w1 ⟨a, c, a', c', rfl, g, g', rr, tw⟩; have M' := (MemO.of (n := 4) M).upadd2 rr g g' tw; clear M g g' rr tw; have M := M'; clear M'; have z0_0 := M.cell 0 rfl 0 rfl; have z0_1 := M.cell 0 rfl 1 rfl; have z0_2 := M.cell 0 rfl 2 rfl; have f0_0 := M.fr 0 rfl 0; have f0_1 := M.fr 0 rfl 1; have f0_2 := M.fr 0 rfl 2)
 have M' := ((M.put 0 rfl rfl 0 (.bool sZ)).put 0 rfl rfl 1 (.slice a LZ.length c)).put 0 rfl rfl 2 (.slice a' DZ.length c')
 refine ret_boxN rfl rfl (M'.box 0 rfl) Tryz.underlying44 size_rat rfl ?_
 exact ⟨a, c, a', c', rfl, M'.own 1 rfl, M'.own 0 rfl, M'.below, (M'.two 0 1 rfl rfl).symm⟩
theorem ofTwo_join_own {w : World} {p1 o1 p2 o2 : Option Addr} {q1 r1 q2 r2 : Nat} {n1 n2 sZ : Bool} {l1 d1 l2 d2 LZ DZ : List Nat} {X Y Z : Rat} {J cb : Nat} (join : Int → Int → Int) (hj : (join = (fun a b => a + b) ∧ Z = X + Y) ∨ (join = (fun a b => a - b) ∧ Z = X - Y))
  (kj : ∀ (W : World) {s1 s2 s3 : Bool} {L1 L2 L3 : List Nat} {p1 p2 : Option Addr} {q1 q2 : Nat} {A B C : Int} (hA : Is s1 L1 A) (hB : Is s2 L2 B) (hC : Can s3 L3 C) (e : C = join A B) (l1 : L1.length ≤ 50000) (l2 : L2.length ≤ 50000) (h1 : Reads W (.slice p1 L1.length q1) L1) (h2 : Reads W (.slice p2 L2.length q2) L2),
   Calls Tryz.prog J #[.agg #[.bool s1, .slice p1 L1.length q1], .agg #[.bool s2, .slice p2 L2.length q2]] W fun e w' => ∃ a c, e = .returned (.agg #[.bool s3, .slice a L3.length c]) ∧ Fresh w' W.heap.size (.slice a L3.length c) L3 ∧ Below W.heap.size W w')
  (hE : ∀ (args : Array Value) (w : World), (callFunc J args).run Tryz.prog w = .ok (.enter J args) w)
  (hcb : BoxN w cb 114 #[.func (.func J) #[] #[]]) (hX : RIs n1 l1 d1 X) (hY : RIs n2 l2 d2 Y) (kZ : RCan sZ LZ DZ Z) (b1 : l1.length ≤ 9999) (b2 : d1.length ≤ 9999) (b3 : l2.length ≤ 9999) (b4 : d2.length ≤ 9999) (g1 : Reads w (.slice p1 l1.length q1) l1) (g2 : Reads w (.slice o1 d1.length r1) d1) (g3 : Reads w (.slice p2 l2.length q2) l2) (g4 : Reads w (.slice o2 d2.length r2) d2) :
  Calls Tryz.prog 102 #[.agg #[.bool n1, .slice p1 l1.length q1, .slice o1 d1.length r1], .agg #[.bool n2, .slice p2 l2.length q2, .slice o2 d2.length r2], .func (.func 140) #[] #[.pointer (some ⟨cb, 0, none⟩)]] w fun e w' => ∃ a c a' c', e = .returned (.agg #[.bool sZ, .slice a LZ.length c, .slice a' DZ.length c']) ∧ Fresh w' w.heap.size (.slice a LZ.length c) LZ ∧ Fresh w' w.heap.size (.slice a' DZ.length c') DZ ∧ Below w.heap.size w w' ∧ Two (.slice a LZ.length c) (.slice a' DZ.length c') := by
 obtain ⟨sX, LX, DX, kX⟩ := RCan.ex X
 obtain ⟨sY, LY, DY, kY⟩ := RCan.ex Y
 have lX := hX.lens kX
 have lY := hY.lens kY
 have kp1 := fun (W : World) (h1 : Reads W (.slice p1 l1.length q1) l1) (h2 : Reads W (.slice o1 d1.length r1) d1) => partsOf_any hX kX (by omega) (by omega) h1 h2
 have kp2 := fun (W : World) (h1 : Reads W (.slice p2 l2.length q2) l2) (h2 : Reads W (.slice o2 d2.length r2) d2) => partsOf_any hY kY (by omega) (by omega) h1 h2
 have kf := fun (W : World) {aX oX aY oY : Option Addr} {cX rX cY rY : Nat} (hB : BoxN W cb 114 #[.func (.func J) #[] #[]]) (g1 : Reads W (.slice aX LX.length cX) LX) (g2 : Reads W (.slice oX DX.length rX) DX) (g3 : Reads W (.slice aY LY.length cY) LY) (g4 : Reads W (.slice oY DY.length rY) DY) => joinFn_own join hj kj hE hB kX kY kZ (by omega) (by omega) (by omega) (by omega) g1 g2 g3 g4
 have M : Mem w [(w.heap.size + 1 + 1, 44, [.bool false, .slice none 0 0, .slice none 0 0]), (w.heap.size + 1, 44, [.bool n2, .slice p2 l2.length q2, .slice o2 d2.length r2]), (w.heap.size, 44, [.bool n1, .slice p1 l1.length q1, .slice o1 d1.length r1])] [(.slice o2 d2.length r2, d2), (.slice p2 l2.length q2, l2), (.slice o1 d1.length r1, d1), (.slice p1 l1.length q1, l1)] (((w.alloc (.cells #[.bool n1, .slice p1 l1.length q1, .slice o1 d1.length r1] 44)).alloc (.cells #[.bool n2, .slice p2 l2.length q2, .slice o2 d2.length r2] 44)).alloc (.cells #[.bool false, .slice none 0 0, .slice none 0 0] 44)) := by
  have M := ((((((((Mem.start w).add g1).add g2).add g3).add g4).new 44 [.bool n1, .slice p1 l1.length q1, .slice o1 d1.length r1]).new 44 [.bool n2, .slice p2 l2.length q2, .slice o2 d2.length r2]).new 44 [.bool false, .slice none 0 0, .slice none 0 0])
  simpa only [World.size_alloc] using M
 clear g1 g2 g3 g4 b1 b2 b3 b4 kX kY lX lY hX hY kZ hj kj
 go_enter Tryz.func102, Tryz.ntmps102
 go_wp2
 refine region_mem (S := (fun W => BoxN W (w.heap.size) 44 #[.bool n1, .slice p1 l1.length q1, .slice o1 d1.length r1] ∧ BoxN W (w.heap.size + 1) 44 #[.bool n2, .slice p2 l2.length q2, .slice o2 d2.length r2] ∧ BoxN W (cb) 114 #[.func (.func J) #[] #[]])) M (by kernel_rfl) ?_
 intro V0 M
 have hS0 : (fun W => BoxN W (w.heap.size) 44 #[.bool n1, .slice p1 l1.length q1, .slice o1 d1.length r1] ∧ BoxN W (w.heap.size + 1) 44 #[.bool n2, .slice p2 l2.length q2, .slice o2 d2.length r2] ∧ BoxN W (cb) 114 #[.func (.func J) #[] #[]]) V0 := ⟨M.box 2 rfl, M.box 1 rfl, M.old hcb⟩
 refine wtk 0 (.func (.func 140) #[] #[.pointer (some ⟨cb, 0, none⟩)]) rfl (fun _ _ _ h => h) (Or.inl ⟨by rfl, fun W3 hS => by obtain ⟨hS1, hS2, hS3⟩ := hS; go_simp⟩) hS0 ?_
 refine wtk 1 (.agg #[.bool n1, .slice p1 l1.length q1, .slice o1 d1.length r1]) rfl (fun _ _ _ h => h) (Or.inl ⟨by rfl, fun W3 hS => by obtain ⟨hS1, hS2, hS3⟩ := hS; have c1_0 := hS1.cell 0 _ rfl; have c1_1 := hS1.cell 1 _ rfl; have c1_2 := hS1.cell 2 _ rfl; go_simp⟩) hS0 ?_
 refine wtk 3 (.agg #[.bool n2, .slice p2 l2.length q2, .slice o2 d2.length r2]) rfl (fun _ _ _ h => h) (Or.inl ⟨by rfl, fun W3 hS => by obtain ⟨hS1, hS2, hS3⟩ := hS; have c2_0 := hS2.cell 0 _ rfl; have c2_1 := hS2.cell 1 _ rfl; have c2_2 := hS2.cell 2 _ rfl; go_simp⟩) hS0 ?_
 clear hS0
 try simp only [Act.put, List.setIfInBounds_toArray, List.set_cons_zero, List.set_cons_succ]
 refine one_op 2 rfl (fun K1 hK => ?_)
 go_simp
 refine (kp1 _ (M.get 3 rfl) (M.get 2 rfl)).mono ?_
 rintro e V1_2 ⟨aX, cX, oX, rX, rfl, g, g', rr⟩
 have M' := ((M.up rr).add g).add g'
 clear M rr g g'
 have M := M'; clear M'
 refine hK _ _ ⟨⟨M.box 2 rfl, M.box 1 rfl, M.old hcb⟩, ?_⟩
 clear hK K1
 refine one_op 4 rfl (fun K2 hK => ?_)
 go_simp
 refine (kp2 _ (M.get 3 rfl) (M.get 2 rfl)).mono ?_
 rintro e V2_4 ⟨aY, cY, oY, rY, rfl, g, g', rr⟩
 have M' := ((M.up rr).add g).add g'
 clear M rr g g'
 have M := M'; clear M'
 refine hK _ _ ⟨⟨M.box 2 rfl, M.box 1 rfl, M.old hcb⟩, ?_⟩
 clear hK K2
 refine one_op 5 rfl (fun K3 hK => ?_)
 go_simp
 refine (kf _ (M.old hcb) (M.get 3 rfl) (M.get 2 rfl) (M.get 1 rfl) (M.get 0 rfl)).mono ?_
 rintro e V3_5 ⟨a, c, a', c', rfl, g, g', rr, tw⟩
 have M' := (MemO.of (n := 8) M).upadd2 rr g g' tw
 clear M rr g g' tw
 have M := M'; clear M'
 refine hK _ _ ⟨⟨M.box 2 rfl, M.box 1 rfl, M.old hcb⟩, ?_⟩
 clear hK K3
 have f0_0 := M.fr 0 rfl 0; have f0_1 := M.fr 0 rfl 1; have f0_2 := M.fr 0 rfl 2
 have z0_0 := M.cell 0 rfl 0 rfl; have z0_1 := M.cell 0 rfl 1 rfl; have z0_2 := M.cell 0 rfl 2 rfl
 refine one_op 6 rfl (fun Ks4 hK => ?_)
 go_simp
 have M' := (((M.put 0 rfl rfl 0 (.bool sZ)).put 0 rfl rfl 1 (.slice a LZ.length c)).put 0 rfl rfl 2 (.slice a' DZ.length c'))
 clear M f0_0 z0_0 f0_1 z0_1 f0_2 z0_2
 simp only [List.set_cons_zero, List.set_cons_succ] at M'
 have M := M'
 clear M'
 refine hK _ _ ⟨⟨M.box 2 rfl, M.box 1 rfl, M.old hcb⟩, ?_⟩
 clear hK Ks4
 refine wdn ?_
 go_wp2
 refine ret_boxN rfl rfl (M.box 0 rfl) Tryz.underlying44 size_rat rfl ?_
 exact ⟨a, c, a', c', rfl, M.own 1 rfl, M.own 0 rfl, M.below, (M.two 0 1 rfl rfl).symm⟩
theorem r_add_own {w : World} {p1 o1 p2 o2 : Option Addr} {q1 r1 q2 r2 : Nat} {n1 n2 sZ : Bool} {l1 d1 l2 d2 LZ DZ : List Nat} {X Y Z : Rat} (hX : RIs n1 l1 d1 X) (hY : RIs n2 l2 d2 Y) (kZ : RCan sZ LZ DZ Z) (eZ : Z = X + Y) (b1 : l1.length ≤ 9999) (b2 : d1.length ≤ 9999) (b3 : l2.length ≤ 9999) (b4 : d2.length ≤ 9999) (g1 : Reads w (.slice p1 l1.length q1) l1) (g2 : Reads w (.slice o1 d1.length r1) d1) (g3 : Reads w (.slice p2 l2.length q2) l2) (g4 : Reads w (.slice o2 d2.length r2) d2) :
  Calls Tryz.prog 58 #[.agg #[.bool n1, .slice p1 l1.length q1, .slice o1 d1.length r1], .agg #[.bool n2, .slice p2 l2.length q2, .slice o2 d2.length r2]] w fun e w' => ∃ a c a' c', e = .returned (.agg #[.bool sZ, .slice a LZ.length c, .slice a' DZ.length c']) ∧ Fresh w' w.heap.size (.slice a LZ.length c) LZ ∧ Fresh w' w.heap.size (.slice a' DZ.length c') DZ ∧ Below w.heap.size w w' ∧ Two (.slice a LZ.length c) (.slice a' DZ.length c') := by
 have kj := fun W => joined_any 104 W
 have ko := fun (W : World) {cb : Nat} (hB : BoxN W cb 114 #[.func (.func 104) #[] #[]]) (g1 : Reads W (.slice p1 l1.length q1) l1) (g2 : Reads W (.slice o1 d1.length r1) d1) (g3 : Reads W (.slice p2 l2.length q2) l2) (g4 : Reads W (.slice o2 d2.length r2) d2) => ofTwo_join_own (w := W) (fun a b => a + b) (.inl ⟨rfl, eZ⟩) (fun W _ _ _ _ _ _ _ _ _ _ _ _ _ hA hB hC e l1 l2 h1 h2 => q_add_own hA hB hC e l1 l2 h1 h2) (enters_of Tryz.func104 (by kernel_rfl) rfl) hB hX hY kZ b1 b2 b3 b4 g1 g2 g3 g4
 have M : Mem w [(w.heap.size + 1 + 1, 44, [.bool false, .slice none 0 0, .slice none 0 0]), (w.heap.size + 1, 44, [.bool n2, .slice p2 l2.length q2, .slice o2 d2.length r2]), (w.heap.size, 44, [.bool n1, .slice p1 l1.length q1, .slice o1 d1.length r1])] [(.slice o2 d2.length r2, d2), (.slice p2 l2.length q2, l2), (.slice o1 d1.length r1, d1), (.slice p1 l1.length q1, l1)] (((w.alloc (.cells #[.bool n1, .slice p1 l1.length q1, .slice o1 d1.length r1] 44)).alloc (.cells #[.bool n2, .slice p2 l2.length q2, .slice o2 d2.length r2] 44)).alloc (.cells #[.bool false, .slice none 0 0, .slice none 0 0] 44)) := by
  have M := ((((((((Mem.start w).add g1).add g2).add g3).add g4).new 44 [.bool n1, .slice p1 l1.length q1, .slice o1 d1.length r1]).new 44 [.bool n2, .slice p2 l2.length q2, .slice o2 d2.length r2]).new 44 [.bool false, .slice none 0 0, .slice none 0 0])
  simpa only [World.size_alloc] using M
 clear g1 g2 g3 g4 b1 b2 b3 b4 hX hY kZ eZ
 go_enter Tryz.func58, Tryz.ntmps58
 go_wp2
 refine region_mem (S := (fun W => BoxN W (w.heap.size) 44 #[.bool n1, .slice p1 l1.length q1, .slice o1 d1.length r1] ∧ BoxN W (w.heap.size + 1) 44 #[.bool n2, .slice p2 l2.length q2, .slice o2 d2.length r2])) M (by kernel_rfl) ?_
 intro V0 M
 have hS0 : (fun W => BoxN W (w.heap.size) 44 #[.bool n1, .slice p1 l1.length q1, .slice o1 d1.length r1] ∧ BoxN W (w.heap.size + 1) 44 #[.bool n2, .slice p2 l2.length q2, .slice o2 d2.length r2]) V0 := ⟨M.box 2 rfl, M.box 1 rfl⟩
 refine wtk 0 (.agg #[.bool n1, .slice p1 l1.length q1, .slice o1 d1.length r1]) rfl (fun _ _ _ h => h) (Or.inl ⟨by rfl, fun W3 hS => by obtain ⟨hS1, hS2⟩ := hS; have c1_0 := hS1.cell 0 _ rfl; have c1_1 := hS1.cell 1 _ rfl; have c1_2 := hS1.cell 2 _ rfl; go_simp⟩) hS0 ?_
 refine wtk 1 (.agg #[.bool n2, .slice p2 l2.length q2, .slice o2 d2.length r2]) rfl (fun _ _ _ h => h) (Or.inl ⟨by rfl, fun W3 hS => by obtain ⟨hS1, hS2⟩ := hS; have c2_0 := hS2.cell 0 _ rfl; have c2_1 := hS2.cell 1 _ rfl; have c2_2 := hS2.cell 2 _ rfl; go_simp⟩) hS0 ?_
 clear hS0
 try simp only [Act.put, List.setIfInBounds_toArray, List.set_cons_zero, List.set_cons_succ]
 refine one_op 2 rfl (fun K1 hK => ?_)
 go_simp
 refine (kj _).mono ?_
 rintro e V1_2 ⟨cb, rfl, hcb, rr⟩
 have M' := M.up rr
 clear M rr 
 have M := M'; clear M'
 refine hK _ _ ⟨⟨M.box 2 rfl, M.box 1 rfl⟩, ?_⟩
 clear hK K1
 refine one_op 3 rfl (fun K2 hK => ?_)
 go_simp
 refine (ko _ hcb (M.get 3 rfl) (M.get 2 rfl) (M.get 1 rfl) (M.get 0 rfl)).mono ?_
 rintro e V2_3 ⟨a, c, a', c', rfl, g, g', rr, tw⟩
 have M' := (MemO.of (n := 4) M).upadd2 rr g g' tw
 clear M rr g g' tw
 have M := M'; clear M'
 refine hK _ _ ⟨⟨M.box 2 rfl, M.box 1 rfl⟩, ?_⟩
 clear hK K2
 have f0_0 := M.fr 0 rfl 0; have f0_1 := M.fr 0 rfl 1; have f0_2 := M.fr 0 rfl 2
 have z0_0 := M.cell 0 rfl 0 rfl; have z0_1 := M.cell 0 rfl 1 rfl; have z0_2 := M.cell 0 rfl 2 rfl
 refine one_op 4 rfl (fun Ks3 hK => ?_)
 go_simp
 have M' := (((M.put 0 rfl rfl 0 (.bool sZ)).put 0 rfl rfl 1 (.slice a LZ.length c)).put 0 rfl rfl 2 (.slice a' DZ.length c'))
 clear M f0_0 z0_0 f0_1 z0_1 f0_2 z0_2
 simp only [List.set_cons_zero, List.set_cons_succ] at M'
 have M := M'
 clear M'
 refine hK _ _ ⟨⟨M.box 2 rfl, M.box 1 rfl⟩, ?_⟩
 clear hK Ks3
 refine wdn ?_
 go_wp2
 refine ret_boxN rfl rfl (M.box 0 rfl) Tryz.underlying44 size_rat rfl ?_
 exact ⟨a, c, a', c', rfl, M.own 1 rfl, M.own 0 rfl, M.below, (M.two 0 1 rfl rfl).symm⟩
end Go.Proofs.YtgmbaamfobhceaaGreat
