/- Fractions: products, of any two. Fractions: sums and differences, of any two. Fractions: their order. -/
import Derived.Test.YtdjfooflhpkcbaaGreatDoorGRatMul
import Derived.Test.YtdjfooflhpkcbaaGreatDoorGRatSum
set_option linter.unusedSimpArgs false
set_option linter.unusedVariables false
set_option maxRecDepth 100000
set_option maxHeartbeats 8000000
namespace Go.Proofs.YtdjfooflhpkcbaaGreatDoor
open Go Go.Proofs Go.RowKit Go.Shelf Nu
attribute [local go_sem] Oper.semAt_some
theorem joined_any (J : Nat) (w : World) : Calls Tryz.prog 164 #[.func (.func J) #[] #[]] w fun e w' => ∃ cb, e = .returned (.func (.func 206) #[] #[.pointer (some ⟨cb, 0, none⟩)]) ∧ BoxN w' cb 106 #[.func (.func J) #[] #[]] ∧ Below w.heap.size w w' := by
 have hmf : ∀ (fn : Fn) (first cap : Array Value) (w : World), (Instr.makeFunc fn first cap).run Tryz.prog w = .ok (.func fn first cap) w := fun _ _ _ _ => rfl
 go_enter Tryz.func164, Tryz.ntmps164
 go_wp2
 go_ret
 exact ⟨_, rfl, BoxN.new w _ _, (Below.refl _ _).alloc (Nat.le_refl _) _⟩
theorem cmpFn_any {w : World} {aX oX aY oY : Option Addr} {cX rX cY rY : Nat} {sX sY : Bool} {LX DX LY DY : List Nat} {X Y : Rat} (z : Int) (ez : rsg X Y = z) (kX : RCan sX LX DX X) (kY : RCan sY LY DY Y) (b1 : LX.length ≤ 20000) (b2 : DX.length ≤ 20000) (b3 : LY.length ≤ 20000) (b4 : DY.length ≤ 20000) (g1 : Reads w (.slice aX LX.length cX) LX) (g2 : Reads w (.slice oX DX.length rX) DX) (g3 : Reads w (.slice aY LY.length cY) LY) (g4 : Reads w (.slice oY DY.length rY) DY) :
  Calls Tryz.prog 136 #[.agg #[.bool sX, .slice aX LX.length cX, .bool false, .slice oX DX.length rX], .agg #[.bool sY, .slice aY LY.length cY, .bool false, .slice oY DY.length rY]] w fun e w' => e = .returned (.int .i64 z) ∧ Below w.heap.size w w' := by
 obtain ⟨P, hP⟩ : ∃ P, P = X.num * (Y.den : Int) := ⟨_, rfl⟩
 obtain ⟨Q, hQ⟩ : ∃ Q, Q = Y.num * (X.den : Int) := ⟨_, rfl⟩
 rw [← rsg_eq, ← hP, ← hQ] at ez
 obtain ⟨sP, LP, cP⟩ := Can.ex P
 obtain ⟨sQ, LQ, cQ⟩ := Can.ex Q
 have cDX := canL kX.2
 have cDY := canL kY.2
 have lP : LP.length ≤ 40000 := by have := Can.len_mul kX.1.is cDY.is cP hP; omega
 have lQ : LQ.length ≤ 40000 := by have := Can.len_mul kY.1.is cDX.is cQ hQ; omega
 have kp := fun (W : World) {p1 p2 : Option Addr} {q1 q2 : Nat} (h1 : Reads W (.slice p1 LX.length q1) LX) (h2 : Reads W (.slice p2 DY.length q2) DY) => q_mul kX.1.is cDY.is cP hP (by omega) (by omega) h1 h2
 have kq := fun (W : World) {p1 p2 : Option Addr} {q1 q2 : Nat} (h1 : Reads W (.slice p1 LY.length q1) LY) (h2 : Reads W (.slice p2 DX.length q2) DX) => q_mul kY.1.is cDX.is cQ hQ (by omega) (by omega) h1 h2
 have kc := fun (W : World) {p1 p2 : Option Addr} {q1 q2 : Nat} (h1 : Reads W (.slice p1 LP.length q1) LP) (h2 : Reads W (.slice p2 LQ.length q2) LQ) => q_cmp z cP.is cQ.is ez (by omega) (by omega) h1 h2
 have M : Mem w [(w.heap.size + 1, 105, [.bool sY, .slice aY LY.length cY, .bool false, .slice oY DY.length rY]), (w.heap.size, 105, [.bool sX, .slice aX LX.length cX, .bool false, .slice oX DX.length rX])] [(.slice oY DY.length rY, DY), (.slice aY LY.length cY, LY), (.slice oX DX.length rX, DX), (.slice aX LX.length cX, LX)] ((w.alloc (.cells #[.bool sX, .slice aX LX.length cX, .bool false, .slice oX DX.length rX] 105)).alloc (.cells #[.bool sY, .slice aY LY.length cY, .bool false, .slice oY DY.length rY] 105)) := by
  have M := (((((((Mem.start w).add g1).add g2).add g3).add g4).new 105 [.bool sX, .slice aX LX.length cX, .bool false, .slice oX DX.length rX]).new 105 [.bool sY, .slice aY LY.length cY, .bool false, .slice oY DY.length rY])
  simpa only [World.size_alloc] using M
 clear g1 g2 g3 g4 b1 b2 b3 b4 kX kY cDX cDY ez hP hQ cP cQ lP lQ
 go_enter Tryz.func136, Tryz.ntmps136
 go_wp2
 refine region_mem (S := (fun W => BoxN W (w.heap.size) 105 #[.bool sX, .slice aX LX.length cX, .bool false, .slice oX DX.length rX] ∧ BoxN W (w.heap.size + 1) 105 #[.bool sY, .slice aY LY.length cY, .bool false, .slice oY DY.length rY])) M (by kernel_rfl) ?_
 intro V0 M
 have hS0 : (fun W => BoxN W (w.heap.size) 105 #[.bool sX, .slice aX LX.length cX, .bool false, .slice oX DX.length rX] ∧ BoxN W (w.heap.size + 1) 105 #[.bool sY, .slice aY LY.length cY, .bool false, .slice oY DY.length rY]) V0 := ⟨M.box 1 rfl, M.box 0 rfl⟩
 refine wtk 0 (.pointer (some ⟨w.heap.size, 0, none⟩)) rfl (fun _ _ _ h => h) (Or.inl ⟨by rfl, fun W3 hS => by obtain ⟨hS1, hS2⟩ := hS; go_simp⟩) hS0 ?_
 refine wtk 1 (.agg #[.bool sX, .slice aX LX.length cX]) rfl (fun _ _ _ h => h) (Or.inl ⟨by rfl, fun W3 hS => by obtain ⟨hS1, hS2⟩ := hS; have c1_0 := hS1.cell 0 _ rfl; have c1_1 := hS1.cell 1 _ rfl; have c1_2 := hS1.cell 2 _ rfl; have c1_3 := hS1.cell 3 _ rfl; go_simp⟩) hS0 ?_
 refine wtk 2 (.pointer (some ⟨w.heap.size + 1, 2, none⟩)) rfl (fun _ _ _ h => h) (Or.inl ⟨by rfl, fun W3 hS => by obtain ⟨hS1, hS2⟩ := hS; go_simp⟩) hS0 ?_
 refine wtk 3 (.agg #[.bool false, .slice oY DY.length rY]) rfl (fun _ _ _ h => h) (Or.inl ⟨by rfl, fun W3 hS => by obtain ⟨hS1, hS2⟩ := hS; have c2_0 := hS2.cell 0 _ rfl; have c2_1 := hS2.cell 1 _ rfl; have c2_2 := hS2.cell 2 _ rfl; have c2_3 := hS2.cell 3 _ rfl; go_simp⟩) hS0 ?_
 refine wtk 5 (.pointer (some ⟨w.heap.size + 1, 0, none⟩)) rfl (fun _ _ _ h => h) (Or.inl ⟨by rfl, fun W3 hS => by obtain ⟨hS1, hS2⟩ := hS; go_simp⟩) hS0 ?_
 refine wtk 6 (.agg #[.bool sY, .slice aY LY.length cY]) rfl (fun _ _ _ h => h) (Or.inl ⟨by rfl, fun W3 hS => by obtain ⟨hS1, hS2⟩ := hS; have c2_0 := hS2.cell 0 _ rfl; have c2_1 := hS2.cell 1 _ rfl; have c2_2 := hS2.cell 2 _ rfl; have c2_3 := hS2.cell 3 _ rfl; go_simp⟩) hS0 ?_
 refine wtk 7 (.pointer (some ⟨w.heap.size, 2, none⟩)) rfl (fun _ _ _ h => h) (Or.inl ⟨by rfl, fun W3 hS => by obtain ⟨hS1, hS2⟩ := hS; go_simp⟩) hS0 ?_
 refine wtk 8 (.agg #[.bool false, .slice oX DX.length rX]) rfl (fun _ _ _ h => h) (Or.inl ⟨by rfl, fun W3 hS => by obtain ⟨hS1, hS2⟩ := hS; have c1_0 := hS1.cell 0 _ rfl; have c1_1 := hS1.cell 1 _ rfl; have c1_2 := hS1.cell 2 _ rfl; have c1_3 := hS1.cell 3 _ rfl; go_simp⟩) hS0 ?_
 clear hS0
 try simp only [Act.put, List.setIfInBounds_toArray, List.set_cons_zero, List.set_cons_succ]
 refine one_op 4 rfl (fun K1 hK => ?_)
 go_simp
 refine (kp _ (M.get 3 rfl) (M.get 0 rfl)).mono ?_
 rintro e V1_4 ⟨a1, c1, rfl, g, rr⟩
 have M' := (M.up rr).add g
 clear M rr g
 have M := M'; clear M'
 refine hK _ _ ⟨⟨M.box 1 rfl, M.box 0 rfl⟩, ?_⟩
 clear hK K1
 refine one_op 9 rfl (fun K2 hK => ?_)
 go_simp
 refine (kq _ (M.get 2 rfl) (M.get 3 rfl)).mono ?_
 rintro e V2_9 ⟨a2, c2, rfl, g, rr⟩
 have M' := (M.up rr).add g
 clear M rr g
 have M := M'; clear M'
 refine hK _ _ ⟨⟨M.box 1 rfl, M.box 0 rfl⟩, ?_⟩
 clear hK K2
 refine one_op 10 rfl (fun K3 hK => ?_)
 go_simp
 refine (kc _ (M.get 1 rfl) (M.get 0 rfl)).mono ?_
 rintro e V3_10 ⟨rfl, rr⟩
 have M' := M.up rr
 clear M rr 
 have M := M'; clear M'
 refine hK _ _ ⟨⟨M.box 1 rfl, M.box 0 rfl⟩, ?_⟩
 clear hK K3
 have hS0 : (fun W => BoxN W (w.heap.size) 105 #[.bool sX, .slice aX LX.length cX, .bool false, .slice oX DX.length rX] ∧ BoxN W (w.heap.size + 1) 105 #[.bool sY, .slice aY LY.length cY, .bool false, .slice oY DY.length rY]) _ := ⟨M.box 1 rfl, M.box 0 rfl⟩
 refine wtk 11 (.int .i64 z) rfl (fun _ _ _ h => h) (Or.inl ⟨by rfl, fun W3 hS => by obtain ⟨hS1, hS2⟩ := hS; go_simp⟩) hS0 ?_
 clear hS0
 try simp only [Act.put, List.setIfInBounds_toArray, List.set_cons_zero, List.set_cons_succ]
 refine wdn ?_
 go_wp2
 go_ret
 exact ⟨rfl, M.below⟩
theorem ofTwo_cmp {w : World} {p1 o1 p2 o2 : Option Addr} {q1 r1 q2 r2 : Nat} {n1 n2 : Bool} {l1 d1 l2 d2 : List Nat} {X Y : Rat} (z : Int) (ez : rsg X Y = z) (hX : RIs n1 l1 d1 X) (hY : RIs n2 l2 d2 Y) (b1 : l1.length ≤ 9999) (b2 : d1.length ≤ 9999) (b3 : l2.length ≤ 9999) (b4 : d2.length ≤ 9999) (g1 : Reads w (.slice p1 l1.length q1) l1) (g2 : Reads w (.slice o1 d1.length r1) d1) (g3 : Reads w (.slice p2 l2.length q2) l2) (g4 : Reads w (.slice o2 d2.length r2) d2) :
  Calls Tryz.prog 135 #[.agg #[.bool n1, .slice p1 l1.length q1, .slice o1 d1.length r1], .agg #[.bool n2, .slice p2 l2.length q2, .slice o2 d2.length r2], .func (.func 136) #[] #[]] w fun e w' => e = .returned (.int .i64 z) ∧ Below w.heap.size w w' := by
 obtain ⟨sX, LX, DX, kX⟩ := RCan.ex X
 obtain ⟨sY, LY, DY, kY⟩ := RCan.ex Y
 have lX := hX.lens kX
 have lY := hY.lens kY
 have kp1 := fun (W : World) (h1 : Reads W (.slice p1 l1.length q1) l1) (h2 : Reads W (.slice o1 d1.length r1) d1) => partsOf_any hX kX (by omega) (by omega) h1 h2
 have kp2 := fun (W : World) (h1 : Reads W (.slice p2 l2.length q2) l2) (h2 : Reads W (.slice o2 d2.length r2) d2) => partsOf_any hY kY (by omega) (by omega) h1 h2
 have kf := fun (W : World) {aX oX aY oY : Option Addr} {cX rX cY rY : Nat} (g1 : Reads W (.slice aX LX.length cX) LX) (g2 : Reads W (.slice oX DX.length rX) DX) (g3 : Reads W (.slice aY LY.length cY) LY) (g4 : Reads W (.slice oY DY.length rY) DY) => cmpFn_any z ez kX kY (by omega) (by omega) (by omega) (by omega) g1 g2 g3 g4
 have M : Mem w [(w.heap.size + 1, 30, [.bool n2, .slice p2 l2.length q2, .slice o2 d2.length r2]), (w.heap.size, 30, [.bool n1, .slice p1 l1.length q1, .slice o1 d1.length r1])] [(.slice o2 d2.length r2, d2), (.slice p2 l2.length q2, l2), (.slice o1 d1.length r1, d1), (.slice p1 l1.length q1, l1)] ((w.alloc (.cells #[.bool n1, .slice p1 l1.length q1, .slice o1 d1.length r1] 30)).alloc (.cells #[.bool n2, .slice p2 l2.length q2, .slice o2 d2.length r2] 30)) := by
  have M := (((((((Mem.start w).add g1).add g2).add g3).add g4).new 30 [.bool n1, .slice p1 l1.length q1, .slice o1 d1.length r1]).new 30 [.bool n2, .slice p2 l2.length q2, .slice o2 d2.length r2])
  simpa only [World.size_alloc] using M
 clear g1 g2 g3 g4 b1 b2 b3 b4 kX kY lX lY hX hY ez
 go_enter Tryz.func135, Tryz.ntmps135
 go_wp2
 refine region_mem (S := (fun W => BoxN W (w.heap.size) 30 #[.bool n1, .slice p1 l1.length q1, .slice o1 d1.length r1] ∧ BoxN W (w.heap.size + 1) 30 #[.bool n2, .slice p2 l2.length q2, .slice o2 d2.length r2])) M (by kernel_rfl) ?_
 intro V0 M
 have hS0 : (fun W => BoxN W (w.heap.size) 30 #[.bool n1, .slice p1 l1.length q1, .slice o1 d1.length r1] ∧ BoxN W (w.heap.size + 1) 30 #[.bool n2, .slice p2 l2.length q2, .slice o2 d2.length r2]) V0 := ⟨M.box 1 rfl, M.box 0 rfl⟩
 refine wtk 0 (.func (.func 136) #[] #[]) rfl (fun _ _ _ h => h) (Or.inl ⟨by rfl, fun W3 hS => by obtain ⟨hS1, hS2⟩ := hS; go_simp⟩) hS0 ?_
 refine wtk 1 (.agg #[.bool n1, .slice p1 l1.length q1, .slice o1 d1.length r1]) rfl (fun _ _ _ h => h) (Or.inl ⟨by rfl, fun W3 hS => by obtain ⟨hS1, hS2⟩ := hS; have c1_0 := hS1.cell 0 _ rfl; have c1_1 := hS1.cell 1 _ rfl; have c1_2 := hS1.cell 2 _ rfl; go_simp⟩) hS0 ?_
 refine wtk 3 (.agg #[.bool n2, .slice p2 l2.length q2, .slice o2 d2.length r2]) rfl (fun _ _ _ h => h) (Or.inl ⟨by rfl, fun W3 hS => by obtain ⟨hS1, hS2⟩ := hS; have c2_0 := hS2.cell 0 _ rfl; have c2_1 := hS2.cell 1 _ rfl; have c2_2 := hS2.cell 2 _ rfl; go_simp⟩) hS0 ?_
 clear hS0
 try simp only [Act.put, List.setIfInBounds_toArray, List.set_cons_zero, List.set_cons_succ]
 refine one_op 2 rfl (fun K1 hK => ?_)
 go_simp
 refine (kp1 _ (M.get 3 rfl) (M.get 2 rfl)).mono ?_
 rintro e V1_2 ⟨aX, cX, oX, rX, rfl, g, g', rr⟩
 have M' := ((M.up rr).add g).add g'
 clear M rr g g'
 have M := M'; clear M'
 refine hK _ _ ⟨⟨M.box 1 rfl, M.box 0 rfl⟩, ?_⟩
 clear hK K1
 refine one_op 4 rfl (fun K2 hK => ?_)
 go_simp
 refine (kp2 _ (M.get 3 rfl) (M.get 2 rfl)).mono ?_
 rintro e V2_4 ⟨aY, cY, oY, rY, rfl, g, g', rr⟩
 have M' := ((M.up rr).add g).add g'
 clear M rr g g'
 have M := M'; clear M'
 refine hK _ _ ⟨⟨M.box 1 rfl, M.box 0 rfl⟩, ?_⟩
 clear hK K2
 refine one_op 5 rfl (fun K3 hK => ?_)
 go_simp
 refine (kf _ (M.get 3 rfl) (M.get 2 rfl) (M.get 1 rfl) (M.get 0 rfl)).mono ?_
 rintro e V3_5 ⟨rfl, rr⟩
 have M' := M.up rr
 clear M rr 
 have M := M'; clear M'
 refine hK _ _ ⟨⟨M.box 1 rfl, M.box 0 rfl⟩, ?_⟩
 clear hK K3
 have hS0 : (fun W => BoxN W (w.heap.size) 30 #[.bool n1, .slice p1 l1.length q1, .slice o1 d1.length r1] ∧ BoxN W (w.heap.size + 1) 30 #[.bool n2, .slice p2 l2.length q2, .slice o2 d2.length r2]) _ := ⟨M.box 1 rfl, M.box 0 rfl⟩
 refine wtk 6 (.int .i64 z) rfl (fun _ _ _ h => h) (Or.inl ⟨by rfl, fun W3 hS => by obtain ⟨hS1, hS2⟩ := hS; go_simp⟩) hS0 ?_
 clear hS0
 try simp only [Act.put, List.setIfInBounds_toArray, List.set_cons_zero, List.set_cons_succ]
 refine wdn ?_
 go_wp2
 go_ret
 exact ⟨rfl, M.below⟩
theorem r_cmp {w : World} {p1 o1 p2 o2 : Option Addr} {q1 r1 q2 r2 : Nat} {n1 n2 : Bool} {l1 d1 l2 d2 : List Nat} {X Y : Rat} (z : Int) (ez : rsg X Y = z) (hX : RIs n1 l1 d1 X) (hY : RIs n2 l2 d2 Y) (b1 : l1.length ≤ 9999) (b2 : d1.length ≤ 9999) (b3 : l2.length ≤ 9999) (b4 : d2.length ≤ 9999) (g1 : Reads w (.slice p1 l1.length q1) l1) (g2 : Reads w (.slice o1 d1.length r1) d1) (g3 : Reads w (.slice p2 l2.length q2) l2) (g4 : Reads w (.slice o2 d2.length r2) d2) :
  Calls Tryz.prog 55 #[.agg #[.bool n1, .slice p1 l1.length q1, .slice o1 d1.length r1], .agg #[.bool n2, .slice p2 l2.length q2, .slice o2 d2.length r2]] w fun e w' => e = .returned (.int .i64 z) ∧ Below w.heap.size w w' := by
 have ko := fun (W : World) (g1 : Reads W (.slice p1 l1.length q1) l1) (g2 : Reads W (.slice o1 d1.length r1) d1) (g3 : Reads W (.slice p2 l2.length q2) l2) (g4 : Reads W (.slice o2 d2.length r2) d2) => ofTwo_cmp (w := W) z ez hX hY b1 b2 b3 b4 g1 g2 g3 g4
 have M : Mem w [(w.heap.size + 1, 30, [.bool n2, .slice p2 l2.length q2, .slice o2 d2.length r2]), (w.heap.size, 30, [.bool n1, .slice p1 l1.length q1, .slice o1 d1.length r1])] [(.slice o2 d2.length r2, d2), (.slice p2 l2.length q2, l2), (.slice o1 d1.length r1, d1), (.slice p1 l1.length q1, l1)] ((w.alloc (.cells #[.bool n1, .slice p1 l1.length q1, .slice o1 d1.length r1] 30)).alloc (.cells #[.bool n2, .slice p2 l2.length q2, .slice o2 d2.length r2] 30)) := by
  have M := (((((((Mem.start w).add g1).add g2).add g3).add g4).new 30 [.bool n1, .slice p1 l1.length q1, .slice o1 d1.length r1]).new 30 [.bool n2, .slice p2 l2.length q2, .slice o2 d2.length r2])
  simpa only [World.size_alloc] using M
 clear g1 g2 g3 g4 b1 b2 b3 b4 hX hY ez
 go_enter Tryz.func55, Tryz.ntmps55
 go_wp2_with (go_at_call 135; refine (ko _ (M.get 3 rfl) (M.get 2 rfl) (M.get 1 rfl) (M.get 0 rfl)).mono ?_; clear ko; rintro e w1 ⟨rfl, rr⟩; have M' := M.up rr; clear M rr)
 go_ret
 exact ⟨rfl, M'.below⟩
end Go.Proofs.YtdjfooflhpkcbaaGreatDoor
