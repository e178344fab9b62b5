/- The document's answer for fractions: whole or not, what it is below that, its text. -/
import Derived.Test.YtimdinmhphihkaaGreatDoorGRrN
import Derived.Test.YtimdinmhphihkaaGreatDoorGGreatP
import Derived.Test.YtimdinmhphihkaaGreatDoorGGreatP
import Derived.Test.YtimdinmhphihkaaGreatDoorGRatCmp
set_option linter.unusedSimpArgs false
set_option linter.unusedVariables false
namespace Go.Proofs.YtimdinmhphihkaaGreatDoor
open Go Go.Proofs Go.RowKit Go.Shelf Nu

attribute [local go_sem] Oper.semAt_some

set_option maxRecDepth 100000 in
set_option maxHeartbeats 8000000 in
theorem rr_whole_1 {w : World} {p1 o1 : Option Addr} {q1 r1 : Nat} {n1 : Bool} {l1 d1 : List Nat} {X : Rat} {sX : Bool} {LX DX : List Nat} (hX : RIs n1 l1 d1 X) (kX : RCan sX LX DX X) (eD : DX = [1]) (b1 : l1.length ≤ 9999) (b2 : d1.length ≤ 9999) (g1 : Reads w (.slice p1 l1.length q1) l1) (g2 : Reads w (.slice o1 d1.length r1) d1) :
    Calls Tryz.prog 14 #[.agg #[.bool n1, .slice p1 l1.length q1, .slice o1 d1.length r1]] w fun e w' => e = .returned (.bool true) ∧ Below w.heap.size w w' := by
  have KFX := Lib.hid (fun (W : World) (y1 : Reads W (.slice p1 l1.length q1) l1) (y2 : Reads W (.slice o1 d1.length r1) d1) => rr_fit hX kX (by omega) (by omega) y1 y2)
  have M : Mem w [(w.heap.size, 27, [.bool n1, .slice p1 l1.length q1, .slice o1 d1.length r1])] [(.slice o1 d1.length r1, d1), (.slice p1 l1.length q1, l1)] (w.alloc (.cells #[.bool n1, .slice p1 l1.length q1, .slice o1 d1.length r1] 27)) := by
    have M := ((((Mem.start w).add g1).add g2).new 27 [.bool n1, .slice p1 l1.length q1, .slice o1 d1.length r1])
    simpa only [World.size_alloc] using M
  clear g1 g2 b1 b2 hX kX
  subst eD
  go_enter Tryz.func14, Tryz.ntmps14
  have z0_0 := M.cell 0 rfl 0 rfl; have z0_1 := M.cell 0 rfl 1 rfl; have z0_2 := M.cell 0 rfl 2 rfl
  go_wp2_with fail
  clear z0_0 z0_1 z0_2
  refine (KFX.out _ (M.get 1 rfl) (M.get 0 rfl)).mono ?_
  rintro e w1 ⟨aX, cX, oX, rX, rfl, g, g', rr⟩
  have M' := ((M.up rr).add g).add g'; clear M rr g g'; have M := M'; clear M'
  have z0_0 := M.cell 0 rfl 0 rfl; have z0_1 := M.cell 0 rfl 1 rfl; have z0_2 := M.cell 0 rfl 2 rfl
  have f0_0 := M.fr 0 rfl 0; have f0_1 := M.fr 0 rfl 1; have f0_2 := M.fr 0 rfl 2
  have M' := ((M.put 0 rfl rfl 0 (.bool sX)).put 0 rfl rfl 1 (.slice aX LX.length cX)).put 0 rfl rfl 2 (.slice oX [1].length rX)
  have y0 := M'.cell 0 rfl 0 rfl; have y1 := M'.cell 0 rfl 1 rfl; have y2 := M'.cell 0 rfl 2 rfl
  have y := M'.get 0 rfl
  obtain ⟨bG, oG, hb, hc⟩ := y.addr
  obtain ⟨rfl, _⟩ := hb (by simp)
  have hcell := hc 0 (by simp)
  simp only [Nat.add_zero, List.getD_cons_zero] at hcell
  clear hb hc y
  have ln : ([1] : List Nat).length = 1 := rfl
  rw [ln] at y0 y1 y2 hcell ⊢
  have B := Lib.hid M'.below
  clear M M'
  go_wp2_with fail
  go_ret
  exact ⟨rfl, B.out⟩
set_option maxRecDepth 100000 in
set_option maxHeartbeats 8000000 in
theorem rr_whole_2 {w : World} {p1 o1 : Option Addr} {q1 r1 : Nat} {n1 : Bool} {l1 d1 : List Nat} {X : Rat} {sX : Bool} {LX DX : List Nat} (hX : RIs n1 l1 d1 X) (kX : RCan sX LX DX X) {G : Nat} (eD : DX = [G]) (hG : G ≠ 1) (b1 : l1.length ≤ 9999) (b2 : d1.length ≤ 9999) (g1 : Reads w (.slice p1 l1.length q1) l1) (g2 : Reads w (.slice o1 d1.length r1) d1) :
    Calls Tryz.prog 14 #[.agg #[.bool n1, .slice p1 l1.length q1, .slice o1 d1.length r1]] w fun e w' => e = .returned (.bool false) ∧ Below w.heap.size w w' := by
  have KFX := Lib.hid (fun (W : World) (y1 : Reads W (.slice p1 l1.length q1) l1) (y2 : Reads W (.slice o1 d1.length r1) d1) => rr_fit hX kX (by omega) (by omega) y1 y2)
  have M : Mem w [(w.heap.size, 27, [.bool n1, .slice p1 l1.length q1, .slice o1 d1.length r1])] [(.slice o1 d1.length r1, d1), (.slice p1 l1.length q1, l1)] (w.alloc (.cells #[.bool n1, .slice p1 l1.length q1, .slice o1 d1.length r1] 27)) := by
    have M := ((((Mem.start w).add g1).add g2).new 27 [.bool n1, .slice p1 l1.length q1, .slice o1 d1.length r1])
    simpa only [World.size_alloc] using M
  have hg1 : ((G : Int) == 1) = false := beq_eq_false_iff_ne.2 (by omega)
  have hg2 : ¬ (G : Int) = 1 := by omega
  clear g1 g2 b1 b2 hX kX hG
  subst eD
  go_enter Tryz.func14, Tryz.ntmps14
  have z0_0 := M.cell 0 rfl 0 rfl; have z0_1 := M.cell 0 rfl 1 rfl; have z0_2 := M.cell 0 rfl 2 rfl
  go_wp2_with fail
  clear z0_0 z0_1 z0_2
  refine (KFX.out _ (M.get 1 rfl) (M.get 0 rfl)).mono ?_
  rintro e w1 ⟨aX, cX, oX, rX, rfl, g, g', rr⟩
  have M' := ((M.up rr).add g).add g'; clear M rr g g'; have M := M'; clear M'
  have z0_0 := M.cell 0 rfl 0 rfl; have z0_1 := M.cell 0 rfl 1 rfl; have z0_2 := M.cell 0 rfl 2 rfl
  have f0_0 := M.fr 0 rfl 0; have f0_1 := M.fr 0 rfl 1; have f0_2 := M.fr 0 rfl 2
  have M' := ((M.put 0 rfl rfl 0 (.bool sX)).put 0 rfl rfl 1 (.slice aX LX.length cX)).put 0 rfl rfl 2 (.slice oX [G].length rX)
  have y0 := M'.cell 0 rfl 0 rfl; have y1 := M'.cell 0 rfl 1 rfl; have y2 := M'.cell 0 rfl 2 rfl
  have y := M'.get 0 rfl
  obtain ⟨bG, oG, hb, hc⟩ := y.addr
  obtain ⟨rfl, _⟩ := hb (by simp)
  have hcell := hc 0 (by simp)
  simp only [Nat.add_zero, List.getD_cons_zero] at hcell
  clear hb hc y
  have ln : ([G] : List Nat).length = 1 := rfl
  rw [ln] at y0 y1 y2 hcell ⊢
  have B := Lib.hid M'.below
  clear M M'
  go_wp2_with fail
  go_ret
  exact ⟨rfl, B.out⟩
set_option maxRecDepth 100000 in
set_option maxHeartbeats 8000000 in
theorem rr_whole_3 {w : World} {p1 o1 : Option Addr} {q1 r1 : Nat} {n1 : Bool} {l1 d1 : List Nat} {X : Rat} {sX : Bool} {LX DX : List Nat} (hX : RIs n1 l1 d1 X) (kX : RCan sX LX DX X) (hl : DX.length ≠ 1) (b1 : l1.length ≤ 9999) (b2 : d1.length ≤ 9999) (g1 : Reads w (.slice p1 l1.length q1) l1) (g2 : Reads w (.slice o1 d1.length r1) d1) :
    Calls Tryz.prog 14 #[.agg #[.bool n1, .slice p1 l1.length q1, .slice o1 d1.length r1]] w fun e w' => e = .returned (.bool false) ∧ Below w.heap.size w w' := by
  have KFX := Lib.hid (fun (W : World) (y1 : Reads W (.slice p1 l1.length q1) l1) (y2 : Reads W (.slice o1 d1.length r1) d1) => rr_fit hX kX (by omega) (by omega) y1 y2)
  have M : Mem w [(w.heap.size, 27, [.bool n1, .slice p1 l1.length q1, .slice o1 d1.length r1])] [(.slice o1 d1.length r1, d1), (.slice p1 l1.length q1, l1)] (w.alloc (.cells #[.bool n1, .slice p1 l1.length q1, .slice o1 d1.length r1] 27)) := by
    have M := ((((Mem.start w).add g1).add g2).new 27 [.bool n1, .slice p1 l1.length q1, .slice o1 d1.length r1])
    simpa only [World.size_alloc] using M
  have hg1 : ((DX.length : Int) == 1) = false := beq_eq_false_iff_ne.2 (by omega)
  have hg2 : ¬ (DX.length : Int) = 1 := by omega
  clear g1 g2 b1 b2 hX kX hl
  go_enter Tryz.func14, Tryz.ntmps14
  have z0_0 := M.cell 0 rfl 0 rfl; have z0_1 := M.cell 0 rfl 1 rfl; have z0_2 := M.cell 0 rfl 2 rfl
  go_wp2_with fail
  clear z0_0 z0_1 z0_2
  refine (KFX.out _ (M.get 1 rfl) (M.get 0 rfl)).mono ?_
  rintro e w1 ⟨aX, cX, oX, rX, rfl, g, g', rr⟩
  have M' := ((M.up rr).add g).add g'; clear M rr g g'; have M := M'; clear M'
  have z0_0 := M.cell 0 rfl 0 rfl; have z0_1 := M.cell 0 rfl 1 rfl; have z0_2 := M.cell 0 rfl 2 rfl
  have f0_0 := M.fr 0 rfl 0; have f0_1 := M.fr 0 rfl 1; have f0_2 := M.fr 0 rfl 2
  have M' := ((M.put 0 rfl rfl 0 (.bool sX)).put 0 rfl rfl 1 (.slice aX LX.length cX)).put 0 rfl rfl 2 (.slice oX DX.length rX)
  have y0 := M'.cell 0 rfl 0 rfl; have y1 := M'.cell 0 rfl 1 rfl; have y2 := M'.cell 0 rfl 2 rfl
  have B := Lib.hid M'.below
  clear M M'
  go_wp2_with fail
  go_ret
  exact ⟨rfl, B.out⟩
theorem rr_whole {w : World} {p1 o1 : Option Addr} {q1 r1 : Nat} {n1 : Bool} {l1 d1 : List Nat} {X : Rat} (R : Bool) (hX : RIs n1 l1 d1 X) (e : decide (X.den = 1) = R) (b1 : l1.length ≤ 9999) (b2 : d1.length ≤ 9999) (g1 : Reads w (.slice p1 l1.length q1) l1) (g2 : Reads w (.slice o1 d1.length r1) d1) :
    Calls Tryz.prog 14 #[.agg #[.bool n1, .slice p1 l1.length q1, .slice o1 d1.length r1]] w fun e w' => e = .returned (.bool R) ∧ Below w.heap.size w w' := by
  obtain ⟨sX, LX, DX, kX⟩ := RCan.ex X
  subst e
  by_cases h : X.den = 1
  · rw [decide_eq_true h]
    exact rr_whole_1 hX kX (by rw [kX.2, h]; exact digs_one1) b1 b2 g1 g2
  · rw [decide_eq_false h]
    by_cases hl : DX.length = 1
    · exact rr_whole_2 hX kX (by rw [kX.2] at hl ⊢; exact digs_single hl) h b1 b2 g1 g2
    · exact rr_whole_3 hX kX hl b1 b2 g1 g2
theorem p_nadd {W : World} {p1 p2 : Option Addr} {q1 q2 : Nat} {L1 L2 P : List Nat} {A B : Nat} (hA : L1 = digs A) (hB : L2 = digs B) (hP : P = digs (A + B)) (l1 : L1.length ≤ 80000) (l2 : L2.length ≤ 80000) (h1 : Reads W (.slice p1 L1.length q1) L1) (h2 : Reads W (.slice p2 L2.length q2) L2) :
    Calls Tryz.prog 65 #[.slice p1 L1.length q1, .slice p2 L2.length q2] W fun e w' => ∃ a c, e = .returned (.slice a P.length c) ∧ Reads w' (.slice a P.length c) P ∧ Below W.heap.size W w' := by
  subst hA hB hP
  have k := radd_any h1 h2 (by omega) (by omega) (sm_digs _) (sm_digs _)
  rw [nv_digs, nv_digs] at k
  refine k.mono ?_
  rintro _ w' ⟨v, rfl, g, hb⟩
  obtain ⟨a, c, rfl⟩ := g.form
  exact ⟨a, c, rfl, g, hb⟩
theorem p_div {W : World} {p1 p2 : Option Addr} {q1 q2 : Nat} {L1 L2 Q R : List Nat} {A B : Nat} (hA : L1 = digs A) (hB : L2 = digs B) (hQ : Q = digs (A / B)) (hR : R = digs (A % B)) (h0 : B ≠ 0) (l1 : L1.length ≤ 80000) (l2 : L2.length ≤ 80000) (h1 : Reads W (.slice p1 L1.length q1) L1) (h2 : Reads W (.slice p2 L2.length q2) L2) :
    Calls Tryz.prog 64 #[.slice p1 L1.length q1, .slice p2 L2.length q2] W fun e w' => ∃ a c b d, e = .returned (.tuple #[.slice a Q.length c, .slice b R.length d, .int .i64 0]) ∧ Reads w' (.slice a Q.length c) Q ∧ Reads w' (.slice b R.length d) R ∧ Below W.heap.size W w' := by
  subst hA hB hQ hR
  refine (rdiv_digs h1 h2 l1 l2 h0).mono ?_
  rintro _ w' ⟨v1, v2, rfl, g, g2, hb⟩
  obtain ⟨a, c, rfl⟩ := g.form
  obtain ⟨b, d, rfl⟩ := g2.form
  exact ⟨a, c, b, d, rfl, g, g2, hb⟩
set_option maxRecDepth 100000 in
set_option maxHeartbeats 8000000 in
theorem rr_floor_1 {w : World} {p1 o1 : Option Addr} {q1 r1 : Nat} {n1 : Bool} {l1 d1 : List Nat} {X : Rat} {s : Bool} {LX DX Lq Lr : List Nat} (hX : RIs n1 l1 d1 X) (kX : RCan false LX DX X)
    (kD : ∀ (W : World) {a b : Option Addr} {c d : Nat}, Reads W (.slice a LX.length c) LX → Reads W (.slice b DX.length d) DX → Calls Tryz.prog 64 #[.slice a LX.length c, .slice b DX.length d] W fun e w' => ∃ a c b d, e = .returned (.tuple #[.slice a Lq.length c, .slice b Lr.length d, .int .i64 0]) ∧ Reads w' (.slice a Lq.length c) Lq ∧ Reads w' (.slice b Lr.length d) Lr ∧ Below W.heap.size W w')
    (hs : (false && decide (0 < Lq.length)) = s) (b1 : l1.length ≤ 9999) (b2 : d1.length ≤ 9999) (g1 : Reads w (.slice p1 l1.length q1) l1) (g2 : Reads w (.slice o1 d1.length r1) d1) :
    Calls Tryz.prog 16 #[.agg #[.bool n1, .slice p1 l1.length q1, .slice o1 d1.length r1]] w fun e w' => ∃ a c, e = .returned (.agg #[.bool s, .slice a Lq.length c]) ∧ Reads w' (.slice a Lq.length c) Lq ∧ Below w.heap.size w w' := by
  have KFX := Lib.hid (fun (W : World) (y1 : Reads W (.slice p1 l1.length q1) l1) (y2 : Reads W (.slice o1 d1.length r1) d1) => rr_fit hX kX (by omega) (by omega) y1 y2)
  have KS := Lib.hid (fun (W : World) (a : Option Addr) (c : Nat) => hs ▸ rsigned_any false a Lq.length c W)
  have KD := Lib.hid (fun (W : World) {a b : Option Addr} {c d : Nat} => kD W (a := a) (b := b) (c := c) (d := d))
  have M : Mem w [(w.heap.size + 1, 25, [.bool false, .slice none 0 0]), (w.heap.size, 27, [.bool n1, .slice p1 l1.length q1, .slice o1 d1.length r1])] [(.slice o1 d1.length r1, d1), (.slice p1 l1.length q1, l1)] ((w.alloc (.cells #[.bool n1, .slice p1 l1.length q1, .slice o1 d1.length r1] 27)).alloc (.cells #[.bool false, .slice none 0 0] 25)) := by
    have M := (((((Mem.start w).add g1).add g2).new 27 [.bool n1, .slice p1 l1.length q1, .slice o1 d1.length r1]).new 25 [.bool false, .slice none 0 0])
    simpa only [World.size_alloc] using M
  clear g1 g2 b1 b2 hX kX kD hs
  go_enter Tryz.func16, Tryz.ntmps16
  have z0_0 := M.cell 0 rfl 0 rfl; have z0_1 := M.cell 0 rfl 1 rfl; have z1_0 := M.cell 1 rfl 0 rfl; have z1_1 := M.cell 1 rfl 1 rfl; have z1_2 := M.cell 1 rfl 2 rfl
  go_wp2_with fail
  clear z0_0 z0_1 z1_0 z1_1 z1_2
  refine (KFX.out _ (M.get 1 rfl) (M.get 0 rfl)).mono ?_
  rintro e w1 ⟨aX, cX, oX, rX, rfl, g, g', rr⟩
  have M' := ((M.up rr).add g).add g'; clear M rr g g'; have M := M'; clear M'
  have z0_0 := M.cell 0 rfl 0 rfl; have z0_1 := M.cell 0 rfl 1 rfl; have z1_0 := M.cell 1 rfl 0 rfl; have z1_1 := M.cell 1 rfl 1 rfl; have z1_2 := M.cell 1 rfl 2 rfl
  have f1_0 := M.fr 1 rfl 0; have f1_1 := M.fr 1 rfl 1; have f1_2 := M.fr 1 rfl 2
  have M' := ((M.put 1 rfl rfl 0 (.bool false)).put 1 rfl rfl 1 (.slice aX LX.length cX)).put 1 rfl rfl 2 (.slice oX DX.length rX)
  have y0 := M'.cell 1 rfl 0 rfl; have y1 := M'.cell 1 rfl 1 rfl; have y2 := M'.cell 1 rfl 2 rfl
  clear M
  go_wp2_with fail
  clear y0 y1 y2 z0_0 z0_1 z1_0 z1_1 z1_2 f1_0 f1_1 f1_2
  have M := M'; clear M'
  refine (KD.out _ (M.get 1 rfl) (M.get 0 rfl)).mono ?_
  rintro e w2 ⟨aq, cq, ar, cr, rfl, g, g', rr⟩
  have M' := ((M.up rr).add g').add g; clear M rr g g'; have M := M'; clear M'
  have z0_0 := M.cell 0 rfl 0 rfl; have z0_1 := M.cell 0 rfl 1 rfl; have z1_0 := M.cell 1 rfl 0 rfl; have z1_1 := M.cell 1 rfl 1 rfl; have z1_2 := M.cell 1 rfl 2 rfl
  go_wp2_with fail
  clear z0_0 z0_1 z1_0 z1_1 z1_2
  refine (KS.out _ _ _).mono ?_
  rintro e w4 ⟨rfl, rr⟩
  have M' := M.up rr; clear M rr; have M := M'; clear M'
  have f0 := M.fr 0 rfl 0; have f1 := M.fr 0 rfl 1; have y0 := M.cell 0 rfl 0 rfl; have y1 := M.cell 0 rfl 1 rfl
  go_wp2_with fail
  have M' := (M.put 0 rfl rfl 0 (.bool s)).put 0 rfl rfl 1 (.slice aq Lq.length cq)
  refine ret_boxN rfl rfl (M'.box 0 rfl) Tryz.underlying25 size_int rfl ?_
  exact ⟨aq, cq, rfl, M'.get 0 rfl, M'.below⟩
set_option maxRecDepth 100000 in
set_option maxHeartbeats 8000000 in
theorem rr_floor_2 {w : World} {p1 o1 : Option Addr} {q1 r1 : Nat} {n1 : Bool} {l1 d1 : List Nat} {X : Rat} {s : Bool} {LX DX Lq Lr : List Nat} (hX : RIs n1 l1 d1 X) (kX : RCan true LX DX X) (hl : Lr.length = 0)
    (kD : ∀ (W : World) {a b : Option Addr} {c d : Nat}, Reads W (.slice a LX.length c) LX → Reads W (.slice b DX.length d) DX → Calls Tryz.prog 64 #[.slice a LX.length c, .slice b DX.length d] W fun e w' => ∃ a c b d, e = .returned (.tuple #[.slice a Lq.length c, .slice b Lr.length d, .int .i64 0]) ∧ Reads w' (.slice a Lq.length c) Lq ∧ Reads w' (.slice b Lr.length d) Lr ∧ Below W.heap.size W w')
    (hs : (true && decide (0 < Lq.length)) = s) (b1 : l1.length ≤ 9999) (b2 : d1.length ≤ 9999) (g1 : Reads w (.slice p1 l1.length q1) l1) (g2 : Reads w (.slice o1 d1.length r1) d1) :
    Calls Tryz.prog 16 #[.agg #[.bool n1, .slice p1 l1.length q1, .slice o1 d1.length r1]] w fun e w' => ∃ a c, e = .returned (.agg #[.bool s, .slice a Lq.length c]) ∧ Reads w' (.slice a Lq.length c) Lq ∧ Below w.heap.size w w' := by
  have KFX := Lib.hid (fun (W : World) (y1 : Reads W (.slice p1 l1.length q1) l1) (y2 : Reads W (.slice o1 d1.length r1) d1) => rr_fit hX kX (by omega) (by omega) y1 y2)
  have KS := Lib.hid (fun (W : World) (a : Option Addr) (c : Nat) => hs ▸ rsigned_any true a Lq.length c W)
  have KD := Lib.hid (fun (W : World) {a b : Option Addr} {c d : Nat} => kD W (a := a) (b := b) (c := c) (d := d))
  have hl2 : decide ((0 : Int) < (Lr.length : Int)) = false := decide_eq_false (by omega)
  have hl3 : ¬ (0 : Int) < (Lr.length : Int) := by omega
  have M : Mem w [(w.heap.size + 1, 25, [.bool false, .slice none 0 0]), (w.heap.size, 27, [.bool n1, .slice p1 l1.length q1, .slice o1 d1.length r1])] [(.slice o1 d1.length r1, d1), (.slice p1 l1.length q1, l1)] ((w.alloc (.cells #[.bool n1, .slice p1 l1.length q1, .slice o1 d1.length r1] 27)).alloc (.cells #[.bool false, .slice none 0 0] 25)) := by
    have M := (((((Mem.start w).add g1).add g2).new 27 [.bool n1, .slice p1 l1.length q1, .slice o1 d1.length r1]).new 25 [.bool false, .slice none 0 0])
    simpa only [World.size_alloc] using M
  clear g1 g2 b1 b2 hX kX kD hs hl
  go_enter Tryz.func16, Tryz.ntmps16
  have z0_0 := M.cell 0 rfl 0 rfl; have z0_1 := M.cell 0 rfl 1 rfl; have z1_0 := M.cell 1 rfl 0 rfl; have z1_1 := M.cell 1 rfl 1 rfl; have z1_2 := M.cell 1 rfl 2 rfl
  go_wp2_with fail
  clear z0_0 z0_1 z1_0 z1_1 z1_2
  refine (KFX.out _ (M.get 1 rfl) (M.get 0 rfl)).mono ?_
  rintro e w1 ⟨aX, cX, oX, rX, rfl, g, g', rr⟩
  have M' := ((M.up rr).add g).add g'; clear M rr g g'; have M := M'; clear M'
  have z0_0 := M.cell 0 rfl 0 rfl; have z0_1 := M.cell 0 rfl 1 rfl; have z1_0 := M.cell 1 rfl 0 rfl; have z1_1 := M.cell 1 rfl 1 rfl; have z1_2 := M.cell 1 rfl 2 rfl
  have f1_0 := M.fr 1 rfl 0; have f1_1 := M.fr 1 rfl 1; have f1_2 := M.fr 1 rfl 2
  have M' := ((M.put 1 rfl rfl 0 (.bool true)).put 1 rfl rfl 1 (.slice aX LX.length cX)).put 1 rfl rfl 2 (.slice oX DX.length rX)
  have y0 := M'.cell 1 rfl 0 rfl; have y1 := M'.cell 1 rfl 1 rfl; have y2 := M'.cell 1 rfl 2 rfl
  clear M
  go_wp2_with fail
  clear y0 y1 y2 z0_0 z0_1 z1_0 z1_1 z1_2 f1_0 f1_1 f1_2
  have M := M'; clear M'
  refine (KD.out _ (M.get 1 rfl) (M.get 0 rfl)).mono ?_
  rintro e w2 ⟨aq, cq, ar, cr, rfl, g, g', rr⟩
  have M' := ((M.up rr).add g').add g; clear M rr g g'; have M := M'; clear M'
  have z0_0 := M.cell 0 rfl 0 rfl; have z0_1 := M.cell 0 rfl 1 rfl; have z1_0 := M.cell 1 rfl 0 rfl; have z1_1 := M.cell 1 rfl 1 rfl; have z1_2 := M.cell 1 rfl 2 rfl
  go_wp2_with fail
  clear z0_0 z0_1 z1_0 z1_1 z1_2
  refine (KS.out _ _ _).mono ?_
  rintro e w4 ⟨rfl, rr⟩
  have M' := M.up rr; clear M rr; have M := M'; clear M'
  have f0 := M.fr 0 rfl 0; have f1 := M.fr 0 rfl 1; have y0 := M.cell 0 rfl 0 rfl; have y1 := M.cell 0 rfl 1 rfl
  go_wp2_with fail
  have M' := (M.put 0 rfl rfl 0 (.bool s)).put 0 rfl rfl 1 (.slice aq Lq.length cq)
  refine ret_boxN rfl rfl (M'.box 0 rfl) Tryz.underlying25 size_int rfl ?_
  exact ⟨aq, cq, rfl, M'.get 0 rfl, M'.below⟩
set_option maxRecDepth 100000 in
set_option maxHeartbeats 8000000 in
theorem rr_floor_3 {w : World} {p1 o1 : Option Addr} {q1 r1 : Nat} {n1 : Bool} {l1 d1 : List Nat} {X : Rat} {s : Bool} {LX DX Lq Lr L : List Nat} (hX : RIs n1 l1 d1 X) (kX : RCan true LX DX X) (hl : 0 < Lr.length) (kA : ∀ (W : World) {a b : Option Addr} {c d : Nat}, Reads W (.slice a Lq.length c) Lq → Reads W (.slice b [1].length d) [1] → Calls Tryz.prog 65 #[.slice a Lq.length c, .slice b [1].length d] W fun e w' => ∃ a c, e = .returned (.slice a L.length c) ∧ Reads w' (.slice a L.length c) L ∧ Below W.heap.size W w')
    (kD : ∀ (W : World) {a b : Option Addr} {c d : Nat}, Reads W (.slice a LX.length c) LX → Reads W (.slice b DX.length d) DX → Calls Tryz.prog 64 #[.slice a LX.length c, .slice b DX.length d] W fun e w' => ∃ a c b d, e = .returned (.tuple #[.slice a Lq.length c, .slice b Lr.length d, .int .i64 0]) ∧ Reads w' (.slice a Lq.length c) Lq ∧ Reads w' (.slice b Lr.length d) Lr ∧ Below W.heap.size W w')
    (hs : (true && decide (0 < L.length)) = s) (b1 : l1.length ≤ 9999) (b2 : d1.length ≤ 9999) (g1 : Reads w (.slice p1 l1.length q1) l1) (g2 : Reads w (.slice o1 d1.length r1) d1) :
    Calls Tryz.prog 16 #[.agg #[.bool n1, .slice p1 l1.length q1, .slice o1 d1.length r1]] w fun e w' => ∃ a c, e = .returned (.agg #[.bool s, .slice a L.length c]) ∧ Reads w' (.slice a L.length c) L ∧ Below w.heap.size w w' := by
  have KFX := Lib.hid (fun (W : World) (y1 : Reads W (.slice p1 l1.length q1) l1) (y2 : Reads W (.slice o1 d1.length r1) d1) => rr_fit hX kX (by omega) (by omega) y1 y2)
  have KS := Lib.hid (fun (W : World) (a : Option Addr) (c : Nat) => hs ▸ rsigned_any true a L.length c W)
  have KD := Lib.hid (fun (W : World) {a b : Option Addr} {c d : Nat} => kD W (a := a) (b := b) (c := c) (d := d))
  have KA := Lib.hid (fun (W : World) {a b : Option Addr} {c d : Nat} => kA W (a := a) (b := b) (c := c) (d := d))
  have hl2 : decide ((0 : Int) < (Lr.length : Int)) = true := decide_eq_true (by omega)
  have hl3 : (0 : Int) < (Lr.length : Int) := by omega
  have M : Mem w [(w.heap.size + 1, 25, [.bool false, .slice none 0 0]), (w.heap.size, 27, [.bool n1, .slice p1 l1.length q1, .slice o1 d1.length r1])] [(.slice o1 d1.length r1, d1), (.slice p1 l1.length q1, l1)] ((w.alloc (.cells #[.bool n1, .slice p1 l1.length q1, .slice o1 d1.length r1] 27)).alloc (.cells #[.bool false, .slice none 0 0] 25)) := by
    have M := (((((Mem.start w).add g1).add g2).new 27 [.bool n1, .slice p1 l1.length q1, .slice o1 d1.length r1]).new 25 [.bool false, .slice none 0 0])
    simpa only [World.size_alloc] using M
  clear g1 g2 b1 b2 hX kX kD hs hl kA
  go_enter Tryz.func16, Tryz.ntmps16
  have z0_0 := M.cell 0 rfl 0 rfl; have z0_1 := M.cell 0 rfl 1 rfl; have z1_0 := M.cell 1 rfl 0 rfl; have z1_1 := M.cell 1 rfl 1 rfl; have z1_2 := M.cell 1 rfl 2 rfl
  go_wp2_with fail
  clear z0_0 z0_1 z1_0 z1_1 z1_2
  refine (KFX.out _ (M.get 1 rfl) (M.get 0 rfl)).mono ?_
  rintro e w1 ⟨aX, cX, oX, rX, rfl, g, g', rr⟩
  have M' := ((M.up rr).add g).add g'; clear M rr g g'; have M := M'; clear M'
  have z0_0 := M.cell 0 rfl 0 rfl; have z0_1 := M.cell 0 rfl 1 rfl; have z1_0 := M.cell 1 rfl 0 rfl; have z1_1 := M.cell 1 rfl 1 rfl; have z1_2 := M.cell 1 rfl 2 rfl
  have f1_0 := M.fr 1 rfl 0; have f1_1 := M.fr 1 rfl 1; have f1_2 := M.fr 1 rfl 2
  have M' := ((M.put 1 rfl rfl 0 (.bool true)).put 1 rfl rfl 1 (.slice aX LX.length cX)).put 1 rfl rfl 2 (.slice oX DX.length rX)
  have y0 := M'.cell 1 rfl 0 rfl; have y1 := M'.cell 1 rfl 1 rfl; have y2 := M'.cell 1 rfl 2 rfl
  clear M
  go_wp2_with fail
  clear y0 y1 y2 z0_0 z0_1 z1_0 z1_1 z1_2 f1_0 f1_1 f1_2
  have M := M'; clear M'
  refine (KD.out _ (M.get 1 rfl) (M.get 0 rfl)).mono ?_
  rintro e w2 ⟨aq, cq, ar, cr, rfl, g, g', rr⟩
  have M' := ((M.up rr).add g').add g; clear M rr g g'; have M := M'; clear M'
  have z0_0 := M.cell 0 rfl 0 rfl; have z0_1 := M.cell 0 rfl 1 rfl; have z1_0 := M.cell 1 rfl 0 rfl; have z1_1 := M.cell 1 rfl 1 rfl; have z1_2 := M.cell 1 rfl 2 rfl
  go_wp2_with fail
  clear z0_0 z0_1 z1_0 z1_1 z1_2
  have hf := lit_one w2
  have M' := (M.up ((Below.refl w2.heap.size w2).alloc (Nat.le_refl _) (.cells #[.int .u32 1] 90))).add hf; clear M hf; have M := M'; clear M'
  refine (KA.out _ (M.get 1 rfl) (M.get 0 rfl)).mono ?_
  rintro e w3 ⟨aq2, cq2, rfl, g, rr⟩
  have M' := (M.up rr).add g; clear M rr g; have M := M'; clear M'
  have z0_0 := M.cell 0 rfl 0 rfl; have z0_1 := M.cell 0 rfl 1 rfl; have z1_0 := M.cell 1 rfl 0 rfl; have z1_1 := M.cell 1 rfl 1 rfl; have z1_2 := M.cell 1 rfl 2 rfl
  go_wp2_with fail
  clear z0_0 z0_1 z1_0 z1_1 z1_2
  refine (KS.out _ _ _).mono ?_
  rintro e w4 ⟨rfl, rr⟩
  have M' := M.up rr; clear M rr; have M := M'; clear M'
  have f0 := M.fr 0 rfl 0; have f1 := M.fr 0 rfl 1; have y0 := M.cell 0 rfl 0 rfl; have y1 := M.cell 0 rfl 1 rfl
  go_wp2_with fail
  have M' := (M.put 0 rfl rfl 0 (.bool s)).put 0 rfl rfl 1 (.slice aq2 L.length cq2)
  refine ret_boxN rfl rfl (M'.box 0 rfl) Tryz.underlying25 size_int rfl ?_
  exact ⟨aq2, cq2, rfl, M'.get 0 rfl, M'.below⟩
theorem rr_floor {w : World} {p1 o1 : Option Addr} {q1 r1 : Nat} {n1 : Bool} {l1 d1 : List Nat} {X : Rat} {s : Bool} {L : List Nat} (hX : RIs n1 l1 d1 X) (kF : Can s L X.floor) (b1 : l1.length ≤ 9999) (b2 : d1.length ≤ 9999) (g1 : Reads w (.slice p1 l1.length q1) l1) (g2 : Reads w (.slice o1 d1.length r1) d1) :
    Calls Tryz.prog 16 #[.agg #[.bool n1, .slice p1 l1.length q1, .slice o1 d1.length r1]] w fun e w' => ∃ a c, e = .returned (.agg #[.bool s, .slice a L.length c]) ∧ Reads w' (.slice a L.length c) L ∧ Below w.heap.size w w' := by
  obtain ⟨sX, LX, DX, kX⟩ := RCan.ex X
  have lX := hX.lens kX
  obtain ⟨q, r, hq, hr, hf⟩ := rfloor_parts X
  obtain ⟨Lq, hLq⟩ : ∃ L, L = digs q := ⟨_, rfl⟩
  obtain ⟨Lr, hLr⟩ : ∃ L, L = digs r := ⟨_, rfl⟩
  have lq : Lq.length ≤ 20000 := by
    have h3 : q ≤ X.num.natAbs := hq ▸ Nat.div_le_self _ _
    have := digs_mono h3
    rw [← kX.1.2, ← hLq] at this; omega
  have kD : ∀ (W : World) {a b : Option Addr} {c d : Nat}, Reads W (.slice a LX.length c) LX → Reads W (.slice b DX.length d) DX → Calls Tryz.prog 64 #[.slice a LX.length c, .slice b DX.length d] W fun e w' => ∃ a c b d, e = .returned (.tuple #[.slice a Lq.length c, .slice b Lr.length d, .int .i64 0]) ∧ Reads w' (.slice a Lq.length c) Lq ∧ Reads w' (.slice b Lr.length d) Lr ∧ Below W.heap.size W w' :=
    fun W {a b c d} y1 y2 => p_div kX.1.2 kX.2 (by rw [hLq, hq]) (by rw [hLr, hr]) X.den_nz (by omega) (by omega) y1 y2
  have hsn := kX.1.1
  cases hs : sX with
  | false =>
    rw [hs] at hsn kX
    have hn : ¬ X.num < 0 := by simpa using hsn
    rw [if_neg hn] at hf
    rw [hf] at kF
    obtain ⟨rfl, rfl⟩ : s = false ∧ L = Lq := ⟨by rw [kF.1]; simp, by rw [kF.2, hLq, Int.natAbs_natCast]⟩
    exact rr_floor_1 hX kX kD (by simp) b1 b2 g1 g2
  | true =>
    rw [hs] at hsn kX
    have hn : X.num < 0 := by simpa using hsn.symm
    rw [if_pos hn] at hf
    rcases Nat.eq_zero_or_pos r with h0 | h0
    · rw [if_neg (by omega)] at hf
      rw [hf] at kF
      have hq0 : q ≠ 0 := by
        rintro rfl
        have h3 : X.floor = X.num / (X.den : Int) := rat_floor X
        have h4 : X.num / (X.den : Int) < 0 := Int.ediv_neg_of_neg_of_pos hn (by have := X.den_pos; omega)
        omega
      obtain ⟨rfl, rfl⟩ : s = true ∧ L = Lq := ⟨by rw [kF.1]; simp; omega, by rw [kF.2, hLq, Int.natAbs_neg, Int.natAbs_natCast]⟩
      have hp : 0 < L.length := by rw [hLq]; exact digs_len_pos hq0
      exact rr_floor_2 hX kX (by rw [hLr, h0, digs_zero]; rfl) kD (by simp [hp]) b1 b2 g1 g2
    · rw [if_pos h0] at hf
      rw [hf] at kF
      obtain ⟨rfl, hL⟩ : s = true ∧ L = digs (q + 1) := ⟨by rw [kF.1]; simp <;> omega, by rw [kF.2, Int.natAbs_neg, Int.natAbs_natCast]⟩
      have hp : 0 < L.length := by rw [hL]; exact digs_len_pos (by omega)
      exact rr_floor_3 hX kX (by rw [hLr]; exact digs_len_pos (by omega)) (fun W {a b c d} y1 y2 => p_nadd hLq digs_one1.symm hL (by omega) (by simp) y1 y2) kD (by simp [hp]) b1 b2 g1 g2
set_option maxRecDepth 100000 in
set_option maxHeartbeats 8000000 in
theorem rr_text_1 {w : World} {p1 o1 : Option Addr} {q1 r1 : Nat} {n1 : Bool} {l1 d1 : List Nat} {X : Rat} {S1 : ByteArray} (hX : RIs n1 l1 d1 X) (hS1 : S1 = itxt X.num) (hd : X.den = 1) (b1 : l1.length ≤ 9990) (b2 : d1.length ≤ 9990) (g1 : Reads w (.slice p1 l1.length q1) l1) (g2 : Reads w (.slice o1 d1.length r1) d1) :
    Calls Tryz.prog 18 #[.agg #[.bool n1, .slice p1 l1.length q1, .slice o1 d1.length r1]] w fun e w' => e = .returned (.string S1) ∧ Below w.heap.size w w' := by
  obtain ⟨sX, LX, DX, kX⟩ := RCan.ex X
  have lX := hX.lens kX
  have KFX := Lib.hid (fun (W : World) (y1 : Reads W (.slice p1 l1.length q1) l1) (y2 : Reads W (.slice o1 d1.length r1) d1) => rr_fit hX kX (by omega) (by omega) y1 y2)
  have KW := Lib.hid (fun (W : World) {a b : Option Addr} {c d : Nat} (y1 : Reads W (.slice a LX.length c) LX) (y2 : Reads W (.slice b DX.length d) DX) => rr_whole true kX.is (decide_eq_true hd) (by omega) (by omega) y1 y2)
  have KI := Lib.hid (fun (W : World) {a : Option Addr} {c : Nat} (y1 : Reads W (.slice a LX.length c) LX) => ri_text (n1 := sX) S1 y1 (by omega) kX.1.is.1 (by rw [kX.1.is.2]; exact hS1))
  have M : Mem w [(w.heap.size, 27, [.bool n1, .slice p1 l1.length q1, .slice o1 d1.length r1])] [(.slice o1 d1.length r1, d1), (.slice p1 l1.length q1, l1)] (w.alloc (.cells #[.bool n1, .slice p1 l1.length q1, .slice o1 d1.length r1] 27)) := by
    have M := ((((Mem.start w).add g1).add g2).new 27 [.bool n1, .slice p1 l1.length q1, .slice o1 d1.length r1])
    simpa only [World.size_alloc] using M
  clear g1 g2 b1 b2 hX lX kX hd hS1
  go_enter Tryz.func18, Tryz.ntmps18
  have z0_0 := M.cell 0 rfl 0 rfl; have z0_1 := M.cell 0 rfl 1 rfl; have z0_2 := M.cell 0 rfl 2 rfl
  go_wp2_with fail
  clear z0_0 z0_1 z0_2
  refine (KFX.out _ (M.get 1 rfl) (M.get 0 rfl)).mono ?_
  rintro e w1 ⟨aX, cX, oX, rX, rfl, g, g', rr⟩
  have M' := ((M.up rr).add g).add g'; clear M rr g g'; have M := M'; clear M'
  have z0_0 := M.cell 0 rfl 0 rfl; have z0_1 := M.cell 0 rfl 1 rfl; have z0_2 := M.cell 0 rfl 2 rfl
  have f0_0 := M.fr 0 rfl 0; have f0_1 := M.fr 0 rfl 1; have f0_2 := M.fr 0 rfl 2
  have M' := ((M.put 0 rfl rfl 0 (.bool sX)).put 0 rfl rfl 1 (.slice aX LX.length cX)).put 0 rfl rfl 2 (.slice oX DX.length rX)
  have y_0 := M'.cell 0 rfl 0 rfl; have y_1 := M'.cell 0 rfl 1 rfl; have y_2 := M'.cell 0 rfl 2 rfl
  clear M
  go_wp2_with fail
  clear y_0 y_1 y_2 z0_0 z0_1 z0_2 f0_0 f0_1 f0_2
  have M := M'; clear M'
  refine (KW.out _ (M.get 1 rfl) (M.get 0 rfl)).mono ?_
  rintro e w2 ⟨rfl, rr⟩
  have M' := M.up rr; clear M rr; have M := M'; clear M'
  have z0_0 := M.cell 0 rfl 0 rfl; have z0_1 := M.cell 0 rfl 1 rfl; have z0_2 := M.cell 0 rfl 2 rfl
  go_wp2_with fail
  clear z0_0 z0_1 z0_2
  refine (KI.out _ (M.get 1 rfl)).mono ?_
  rintro e w3 ⟨rfl, rr⟩
  have M' := M.up rr; clear M rr; have M := M'; clear M'
  go_wp2_with fail
  go_ret
  exact ⟨rfl, M.below⟩
set_option maxRecDepth 100000 in
set_option maxHeartbeats 8000000 in
theorem rr_text_2 {w : World} {p1 o1 : Option Addr} {q1 r1 : Nat} {n1 : Bool} {l1 d1 : List Nat} {X : Rat} {S1 S2 : ByteArray} (hX : RIs n1 l1 d1 X) (hS1 : S1 = itxt X.num) (hd : X.den ≠ 1) (hS2 : S2 = txt X.den) (b1 : l1.length ≤ 9990) (b2 : d1.length ≤ 9990) (g1 : Reads w (.slice p1 l1.length q1) l1) (g2 : Reads w (.slice o1 d1.length r1) d1) :
    Calls Tryz.prog 18 #[.agg #[.bool n1, .slice p1 l1.length q1, .slice o1 d1.length r1]] w fun e w' => e = .returned (.string (S1 ++ ⟨#[47]⟩ ++ S2)) ∧ Below w.heap.size w w' := by
  obtain ⟨sX, LX, DX, kX⟩ := RCan.ex X
  have lX := hX.lens kX
  have KFX := Lib.hid (fun (W : World) (y1 : Reads W (.slice p1 l1.length q1) l1) (y2 : Reads W (.slice o1 d1.length r1) d1) => rr_fit hX kX (by omega) (by omega) y1 y2)
  have KW := Lib.hid (fun (W : World) {a b : Option Addr} {c d : Nat} (y1 : Reads W (.slice a LX.length c) LX) (y2 : Reads W (.slice b DX.length d) DX) => rr_whole false kX.is (decide_eq_false hd) (by omega) (by omega) y1 y2)
  have KI := Lib.hid (fun (W : World) {a : Option Addr} {c : Nat} (y1 : Reads W (.slice a LX.length c) LX) => ri_text (n1 := sX) S1 y1 (by omega) kX.1.is.1 (by rw [kX.1.is.2]; exact hS1))
  have KT := Lib.hid (fun (W : World) {a : Option Addr} {c : Nat} (y1 : Reads W (.slice a DX.length c) DX) => show Calls Tryz.prog 69 #[.slice a DX.length c] W fun e w' => e = .returned (.string S2) ∧ Below W.heap.size W w' from by
    have k := rtext_any y1 (by rw [kX.2]; exact sm_digs _) (by omega)
    rw [show nv DX = X.den by rw [kX.2, nv_digs], ← hS2] at k
    exact k)
  have z1 : S1.size ≤ 1000000 := by
    rw [hS1]
    have := itxt_size kX.1
    omega
  have z2 : S2.size ≤ 1000000 := by
    rw [hS2, txt_size]
    have := low_len_val (sm_digs X.den)
    rw [val_digs, ← kX.2] at this
    omega
  have y1 : ¬ 9223372036854775807 < S1.size + 1 := by omega
  have y2 : ¬ 9223372036854775807 < S1.size + 1 + S2.size := by omega
  have M : Mem w [(w.heap.size, 27, [.bool n1, .slice p1 l1.length q1, .slice o1 d1.length r1])] [(.slice o1 d1.length r1, d1), (.slice p1 l1.length q1, l1)] (w.alloc (.cells #[.bool n1, .slice p1 l1.length q1, .slice o1 d1.length r1] 27)) := by
    have M := ((((Mem.start w).add g1).add g2).new 27 [.bool n1, .slice p1 l1.length q1, .slice o1 d1.length r1])
    simpa only [World.size_alloc] using M
  clear g1 g2 b1 b2 hX lX kX hd hS1 hS2 z1 z2
  go_enter Tryz.func18, Tryz.ntmps18
  have z0_0 := M.cell 0 rfl 0 rfl; have z0_1 := M.cell 0 rfl 1 rfl; have z0_2 := M.cell 0 rfl 2 rfl
  go_wp2_with fail
  clear z0_0 z0_1 z0_2
  refine (KFX.out _ (M.get 1 rfl) (M.get 0 rfl)).mono ?_
  rintro e w1 ⟨aX, cX, oX, rX, rfl, g, g', rr⟩
  have M' := ((M.up rr).add g).add g'; clear M rr g g'; have M := M'; clear M'
  have z0_0 := M.cell 0 rfl 0 rfl; have z0_1 := M.cell 0 rfl 1 rfl; have z0_2 := M.cell 0 rfl 2 rfl
  have f0_0 := M.fr 0 rfl 0; have f0_1 := M.fr 0 rfl 1; have f0_2 := M.fr 0 rfl 2
  have M' := ((M.put 0 rfl rfl 0 (.bool sX)).put 0 rfl rfl 1 (.slice aX LX.length cX)).put 0 rfl rfl 2 (.slice oX DX.length rX)
  have y_0 := M'.cell 0 rfl 0 rfl; have y_1 := M'.cell 0 rfl 1 rfl; have y_2 := M'.cell 0 rfl 2 rfl
  clear M
  go_wp2_with fail
  clear y_0 y_1 y_2 z0_0 z0_1 z0_2 f0_0 f0_1 f0_2
  have M := M'; clear M'
  refine (KW.out _ (M.get 1 rfl) (M.get 0 rfl)).mono ?_
  rintro e w2 ⟨rfl, rr⟩
  have M' := M.up rr; clear M rr; have M := M'; clear M'
  have z0_0 := M.cell 0 rfl 0 rfl; have z0_1 := M.cell 0 rfl 1 rfl; have z0_2 := M.cell 0 rfl 2 rfl
  go_wp2_with fail
  clear z0_0 z0_1 z0_2
  refine region_mem (S := (fun W => BoxN W (w.heap.size) 27 #[.bool sX, .slice aX LX.length cX, .slice oX DX.length rX])) M (by kernel_rfl) ?_
  intro V0 M
  have hS0 : (fun W => BoxN W (w.heap.size) 27 #[.bool sX, .slice aX LX.length cX, .slice oX DX.length rX]) V0 := M.box 0 rfl
  refine wpAnyH_take (i := 0) (oi := ⟨_, _, _, _, _, _⟩) (v := (.pointer (some ⟨w.heap.size, 0, none⟩))) rfl (by kernel_rfl) (by kernel_rfl) (by kernel_rfl) (fun _ _ _ h => h) (Or.inl ⟨by rfl, fun W3 hS => by go_simp⟩) hS0 ?_
  try simp only [Act.put, List.setIfInBounds_toArray, List.set_cons_zero, List.set_cons_succ]
  refine wpAnyH_take (i := 1) (oi := ⟨_, _, _, _, _, _⟩) (v := (.agg #[.bool sX, .slice aX LX.length cX])) rfl (by kernel_rfl) (by kernel_rfl) (by kernel_rfl) (fun _ _ _ h => h) (Or.inl ⟨by rfl, fun W3 hS => by have hS1 := hS; have c1_0 := hS1.cell 0 _ rfl; have c1_1 := hS1.cell 1 _ rfl; have c1_2 := hS1.cell 2 _ rfl; go_simp⟩) hS0 ?_
  try simp only [Act.put, List.setIfInBounds_toArray, List.set_cons_zero, List.set_cons_succ]
  refine wpAnyH_take (i := 4) (oi := ⟨_, _, _, _, _, _⟩) (v := (.pointer (some ⟨w.heap.size, 2, none⟩))) rfl (by kernel_rfl) (by kernel_rfl) (by kernel_rfl) (fun _ _ _ h => h) (Or.inl ⟨by rfl, fun W3 hS => by go_simp⟩) hS0 ?_
  try simp only [Act.put, List.setIfInBounds_toArray, List.set_cons_zero, List.set_cons_succ]
  refine wpAnyH_take (i := 5) (oi := ⟨_, _, _, _, _, _⟩) (v := (.slice oX DX.length rX)) rfl (by kernel_rfl) (by kernel_rfl) (by kernel_rfl) (fun _ _ _ h => h) (Or.inl ⟨by rfl, fun W3 hS => by have hS1 := hS; have c1_0 := hS1.cell 0 _ rfl; have c1_1 := hS1.cell 1 _ rfl; have c1_2 := hS1.cell 2 _ rfl; go_simp⟩) hS0 ?_
  try simp only [Act.put, List.setIfInBounds_toArray, List.set_cons_zero, List.set_cons_succ]
  clear hS0
  refine wpAnyH_all (rs := [2]) (by kernel_rfl) (by simp) ?_
  intro i hi
  obtain rfl : i = 2 := by simpa using hi
  refine wpOp_intro rfl (fun K1 hK => ?_)
  clear hi
  go_simp
  refine (KI.out _ (M.get 1 rfl)).mono ?_
  rintro e V1_2 ⟨rfl, rr⟩
  have M' := M.up rr
  clear M rr 
  have M := M'; clear M'
  refine hK _ _ ⟨M.box 0 rfl, ?_⟩
  clear hK K1
  have hS0 : (fun W => BoxN W (w.heap.size) 27 #[.bool sX, .slice aX LX.length cX, .slice oX DX.length rX]) _ := M.box 0 rfl
  refine wpAnyH_take (i := 3) (oi := ⟨_, _, _, _, _, _⟩) (v := (.string (S1 ++ ⟨#[47]⟩))) rfl (by kernel_rfl) (by kernel_rfl) (by kernel_rfl) (fun _ _ _ h => h) (Or.inl ⟨by rfl, fun W3 hS => by go_simp⟩) hS0 ?_
  try simp only [Act.put, List.setIfInBounds_toArray, List.set_cons_zero, List.set_cons_succ]
  clear hS0
  refine wpAnyH_all (rs := [6]) (by kernel_rfl) (by simp) ?_
  intro i hi
  obtain rfl : i = 6 := by simpa using hi
  refine wpOp_intro rfl (fun K2 hK => ?_)
  clear hi
  go_simp
  refine (KT.out _ (M.get 0 rfl)).mono ?_
  rintro e V2_6 ⟨rfl, rr⟩
  have M' := M.up rr
  clear M rr 
  have M := M'; clear M'
  refine hK _ _ ⟨M.box 0 rfl, ?_⟩
  clear hK K2
  have hS0 : (fun W => BoxN W (w.heap.size) 27 #[.bool sX, .slice aX LX.length cX, .slice oX DX.length rX]) _ := M.box 0 rfl
  refine wpAnyH_take (i := 7) (oi := ⟨_, _, _, _, _, _⟩) (v := (.string (S1 ++ ⟨#[47]⟩ ++ S2))) rfl (by kernel_rfl) (by kernel_rfl) (by kernel_rfl) (fun _ _ _ h => h) (Or.inl ⟨by rfl, fun W3 hS => by go_simp⟩) hS0 ?_
  try simp only [Act.put, List.setIfInBounds_toArray, List.set_cons_zero, List.set_cons_succ]
  refine wpAnyH_take (i := 8) (oi := ⟨_, _, _, _, _, _⟩) (v := (.string (S1 ++ ⟨#[47]⟩ ++ S2))) rfl (by kernel_rfl) (by kernel_rfl) (by kernel_rfl) (fun _ _ _ h => h) (Or.inl ⟨by rfl, fun W3 hS => by go_simp⟩) hS0 ?_
  try simp only [Act.put, List.setIfInBounds_toArray, List.set_cons_zero, List.set_cons_succ]
  clear hS0
  refine wpAnyH_done (by kernel_rfl) ?_ _
  go_wp2
  go_ret
  exact ⟨rfl, M.below⟩
theorem rr_text {w : World} {p1 o1 : Option Addr} {q1 r1 : Nat} {n1 : Bool} {l1 d1 : List Nat} {X : Rat} (S : ByteArray) (hX : RIs n1 l1 d1 X) (eS : S = rtxt X) (b1 : l1.length ≤ 9990) (b2 : d1.length ≤ 9990) (g1 : Reads w (.slice p1 l1.length q1) l1) (g2 : Reads w (.slice o1 d1.length r1) d1) :
    Calls Tryz.prog 18 #[.agg #[.bool n1, .slice p1 l1.length q1, .slice o1 d1.length r1]] w fun e w' => e = .returned (.string S) ∧ Below w.heap.size w w' := by
  subst eS
  unfold rtxt
  by_cases hd : X.den = 1
  · rw [if_pos hd]; exact rr_text_1 hX rfl hd b1 b2 g1 g2
  · rw [if_neg hd]; exact rr_text_2 hX rfl hd rfl b1 b2 g1 g2

end Go.Proofs.YtimdinmhphihkaaGreatDoor
