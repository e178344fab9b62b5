/- Fractions: the floor, of the call's own. -/
import Derived.Test.YtimdinmhphihkaaGreatDoorGRatC
import Derived.Test.YtimdinmhphihkaaGreatDoorGRmk
set_option linter.unusedSimpArgs false
set_option linter.unusedVariables false
namespace Go.Proofs.YtimdinmhphihkaaGreatDoor
open Go Go.Proofs Go.RowKit Go.Shelf Nu

attribute [local go_sem] Oper.semAt_some

theorem MemO.of2 {n : Nat} {w W : World} {bs : List (Nat × TypeId × List Value)} {rs : List (Value × List Nat)} {v : Value} {l : List Nat} (M : Mem w bs rs W) (g : Fresh W w.heap.size v l) (h : n = rs.length := by rfl) : MemO n w bs ((v, l) :: rs) W := by
  subst h
  refine ⟨M.add g.reads, by simp, ?_, ?_⟩
  · intro k v' l' hk e
    obtain rfl : k = 0 := by simp at hk; omega
    simp at e
    obtain ⟨rfl, rfl⟩ := e
    exact g
  · intro j k x y hjk hk
    simp at hk; omega
section
variable {w : World} {p1 p2 : Option Addr} {q1 q2 A B : Nat}
theorem d_add_own (N : Nat) (h1 : Reads w (.slice p1 (digs A).length q1) (digs A)) (h2 : Reads w (.slice p2 (digs B).length q2) (digs B)) (l1 : (digs A).length ≤ 100000) (l2 : (digs B).length ≤ 100000) (e : N = A + B) :
    Calls Tryz.prog 43 #[.slice p1 (digs A).length q1, .slice p2 (digs B).length q2] w fun e w' => ∃ a c, e = .returned (.slice a (digs N).length c) ∧ Fresh w' w.heap.size (.slice a (digs N).length c) (digs N) ∧ Below w.heap.size w w' := by
  have k := add_any h1 h2 l1 l2 (sm_digs _) (sm_digs _)
  rw [nv_digs, nv_digs, ← e] at k
  refine k.mono ?_
  rintro e w' ⟨v, rfl, f, hb⟩
  obtain ⟨a, c, rfl⟩ := f.reads.form
  exact ⟨a, c, rfl, f, hb⟩
end
section
variable {w : World} {p1 p2 : Option Addr} {q1 q2 : Nat} {n s : Bool} {l d L D : List Nat} {X : Rat}
set_option maxRecDepth 100000 in
set_option maxHeartbeats 4000000 in
theorem r_floor_own (hX : RIs n l d X) (kF : Can s L X.floor) (l1 : l.length ≤ 20000) (l2 : d.length ≤ 20000) (h1 : Reads w (.slice p1 l.length q1) l) (h2 : Reads w (.slice p2 d.length q2) d) :
    Calls Tryz.prog 8 #[.agg #[.bool n, .slice p1 l.length q1, .slice p2 d.length q2]] w fun e w' => ∃ a c, e = .returned (.agg #[.bool s, .slice a L.length c]) ∧ Fresh w' w.heap.size (.slice a L.length c) L ∧ Below w.heap.size w w' := by
  obtain ⟨sX, LX, DX, cX⟩ := RCan.ex X
  have lX := hX.lens cX
  have M0 : Mem w [(w.heap.size + 1, 25, [.bool false, .slice none 0 0]), (w.heap.size, 27, [.bool n, .slice p1 l.length q1, .slice p2 d.length q2])] [(.slice p1 l.length q1, l), (.slice p2 d.length q2, d)]
      ((w.alloc (.cells #[.bool n, .slice p1 l.length q1, .slice p2 d.length q2] 27)).alloc (.cells #[.bool false, .slice none 0 0] 25)) := by
    have M := ((((Mem.start w).add h2).add h1).new 27 [.bool n, .slice p1 l.length q1, .slice p2 d.length q2]).new 25 [.bool false, .slice none 0 0]
    simpa only [World.size_alloc] using M
  have kp := partsOf_any hX cX (by omega) (by omega) (M0.get 0 rfl) (M0.get 1 rfl)
  obtain ⟨q, r, hq, hr, hf⟩ := rfloor_parts X
  obtain ⟨Lq, hLq⟩ : ∃ L, L = digs q := ⟨_, rfl⟩
  obtain ⟨Lr, hLr⟩ : ∃ L, L = digs r := ⟨_, rfl⟩
  have kd : ∀ (W : World) {pa pb : Option Addr} {qa qb : Nat} (ga : Reads W (.slice pa LX.length qa) LX) (gb : Reads W (.slice pb DX.length qb) DX), Calls Tryz.prog 42 #[.slice pa LX.length qa, .slice pb DX.length qb] W fun e w' => ∃ a c b d, e = .returned (.tuple #[.slice a Lq.length c, .slice b Lr.length d, .int .i64 0]) ∧ Fresh w' W.heap.size (.slice a Lq.length c) Lq ∧ Reads w' (.slice b Lr.length d) Lr ∧ Below W.heap.size W w' := by
    intro W pa pb qa qb ga gb
    subst hLq hLr
    obtain ⟨⟨_, rfl⟩, rfl⟩ := cX
    exact d_quo_own q r ga gb (by omega) (by omega) X.den_nz hq hr
  have lq : Lq.length ≤ 20000 := by
    have h3 : q ≤ X.num.natAbs := hq ▸ Nat.div_le_self _ _
    have := digs_mono h3
    rw [← cX.1.2, ← hLq] at this; omega
  have hsn := cX.1.1
  clear hX h1 h2 l1 l2 cX lX hq hr
  cases hs : sX with
  | false =>
    rw [hs] at hsn
    have hn : ¬ X.num < 0 := by simpa using hsn
    rw [if_neg hn] at hf
    rw [hf] at kF
    obtain ⟨rfl, rfl⟩ : s = false ∧ L = Lq := ⟨by rw [kF.1]; simp, by rw [kF.2, hLq, Int.natAbs_natCast]⟩
    subst hs
    clear hsn hn hf kF hLq hLr lq
    go_enter Tryz.func8, Tryz.ntmps8
    go_wp2_with (first
      | (go_at_call 41; refine kp.mono ?_; clear kp; rintro e w1 ⟨a, c, a', c', rfl, g, g', rr⟩; have M := (((M0.up rr).add g).add g').new 70 [.bool false, .slice a LX.length c, .bool false, .slice a' DX.length c']; clear M0 g g' rr)
      | (go_at_call 42; refine (kd _ (M.get 1 rfl) (M.get 0 rfl)).mono ?_; clear kd; rintro e w2 ⟨a1, c1, b1, e1, rfl, g, g', rr⟩; have M' := MemO.of2 ((M.up rr).add g') (g.mono M.1.size); clear M g g' rr; have z0 := M'.cell 0 rfl 0 rfl; have z1 := M'.cell 1 rfl 0 rfl; have z2 := M'.cell 1 rfl 1 rfl; have f0 := M'.fr 1 rfl 0; have f1 := M'.fr 1 rfl 1))
    have M'' := (M'.put 1 rfl rfl 0 (.bool false)).put 1 rfl rfl 1 (.slice a1 L.length c1)
    refine ret_boxN rfl rfl (M''.box 1 rfl) Tryz.underlying25 size_int rfl ?_
    exact ⟨a1, c1, rfl, M''.own 0 rfl, M''.below⟩
  | true =>
    rw [hs] at hsn
    have hn : X.num < 0 := by simpa using hsn.symm
    rw [if_pos hn] at hf
    subst hs
    have ko := fun W => of_any 1 (by decide) W
    rcases Nat.eq_zero_or_pos r with h0 | h0
    · rw [if_neg (by omega)] at hf
      rw [hf] at kF
      have hq0 : q ≠ 0 := by
        rintro rfl
        have h1 := Rat.floor_le X
        have h2 := Rat.lt_floor_add_one X
        rw [hf] at h1 h2
        have h3 : X.floor = X.num / (X.den : Int) := rat_floor X
        have h4 : X.num / (X.den : Int) < 0 := Int.ediv_neg_of_neg_of_pos hn (by have := X.den_pos; omega)
        omega
      obtain ⟨rfl, rfl⟩ : s = true ∧ L = Lq := ⟨by rw [kF.1]; simp; omega, by rw [kF.2, hLq, Int.natAbs_neg, Int.natAbs_natCast]⟩
      have hl : Lr.length = 0 := by rw [hLr, h0, digs_zero]; rfl
      have hl2 : decide ((0 : Int) < (Lr.length : Int)) = false := decide_eq_false (by omega)
      have hl3 : ¬ (0 : Int) < (Lr.length : Int) := by omega
      clear hsn hn hf kF hLq hLr h0 hq0 lq ko hl
      go_enter Tryz.func8, Tryz.ntmps8
      go_wp2_with (first
        | (go_at_call 41; refine kp.mono ?_; clear kp; rintro e w1 ⟨a, c, a', c', rfl, g, g', rr⟩; have M := (((M0.up rr).add g).add g').new 70 [.bool true, .slice a LX.length c, .bool false, .slice a' DX.length c']; clear M0 g g' rr)
        | (go_at_call 42; refine (kd _ (M.get 1 rfl) (M.get 0 rfl)).mono ?_; clear kd; rintro e w2 ⟨a1, c1, b1, e1, rfl, g, g', rr⟩; have M' := MemO.of2 ((M.up rr).add g') (g.mono M.1.size); clear M g g' rr; have z0 := M'.cell 0 rfl 0 rfl; have z1 := M'.cell 1 rfl 0 rfl; have z2 := M'.cell 1 rfl 1 rfl; have f0 := M'.fr 1 rfl 0; have f1 := M'.fr 1 rfl 1))
      have M'' := (M'.put 1 rfl rfl 0 (.bool true)).put 1 rfl rfl 1 (.slice a1 L.length c1)
      refine ret_boxN rfl rfl (M''.box 1 rfl) Tryz.underlying25 size_int rfl ?_
      exact ⟨a1, c1, rfl, M''.own 0 rfl, M''.below⟩
    · rw [if_pos h0] at hf
      rw [hf] at kF
      obtain ⟨rfl, hL⟩ : s = true ∧ L = digs (q + 1) := ⟨by rw [kF.1]; simp <;> omega, by rw [kF.2, Int.natAbs_neg, Int.natAbs_natCast]⟩
      have hl : 0 < Lr.length := by rw [hLr]; exact digs_len_pos (by omega)
      have hl2 : decide ((0 : Int) < (Lr.length : Int)) = true := decide_eq_true (by omega)
      have hl3 : (0 : Int) < (Lr.length : Int) := by omega
      have ka : ∀ (W : World) {pa pb : Option Addr} {qa qb : Nat} (ga : Reads W (.slice pa Lq.length qa) Lq) (gb : Reads W (.slice pb (digs 1).length qb) (digs 1)), Calls Tryz.prog 43 #[.slice pa Lq.length qa, .slice pb (digs 1).length qb] W fun e w' => ∃ a c, e = .returned (.slice a L.length c) ∧ Fresh w' W.heap.size (.slice a L.length c) L ∧ Below W.heap.size W w' := by
        intro W pa pb qa qb ga gb
        subst hLq hL
        exact d_add_own (q + 1) ga gb (by omega) (by rw [digs_one_len]; omega) rfl
      clear hsn hn hf kF hLq hLr h0 lq hl hL
      go_enter Tryz.func8, Tryz.ntmps8
      go_wp2_with (first
        | (go_at_call 41; refine kp.mono ?_; clear kp; rintro e w1 ⟨a, c, a', c', rfl, g, g', rr⟩; have M := (((M0.up rr).add g).add g').new 70 [.bool true, .slice a LX.length c, .bool false, .slice a' DX.length c']; clear M0 g g' rr)
        | (go_at_call 42; refine (kd _ (M.get 1 rfl) (M.get 0 rfl)).mono ?_; clear kd; rintro e w2 ⟨a1, c1, b1, e1, rfl, g, g', rr⟩; have M' := ((M.up rr).add g').add g.reads; clear M g g' rr; have z0 := M'.cell 0 rfl 0 rfl)
        | (go_at_call 44; refine (ko _).mono ?_; clear ko; rintro e w3 ⟨v, rfl, fv, rr⟩; obtain ⟨a2, c2, rfl⟩ := fv.reads.form; have M := (M'.up rr).add fv.reads; clear M' fv rr)
        | (go_at_call 43; refine (ka _ (M.get 1 rfl) (M.get 0 rfl)).mono ?_; clear ka; rintro e w4 ⟨a3, c3, rfl, g, rr⟩; have M' := MemO.of2 (M.up rr) (g.mono M.1.size); clear M g rr; have z1 := M'.cell 1 rfl 0 rfl; have z2 := M'.cell 1 rfl 1 rfl; have f0 := M'.fr 1 rfl 0; have f1 := M'.fr 1 rfl 1))
      have M'' := (M'.put 1 rfl rfl 0 (.bool true)).put 1 rfl rfl 1 (.slice a3 L.length c3)
      refine ret_boxN rfl rfl (M''.box 1 rfl) Tryz.underlying25 size_int rfl ?_
      exact ⟨a3, c3, rfl, M''.own 0 rfl, M''.below⟩
end

end Go.Proofs.YtimdinmhphihkaaGreatDoor
