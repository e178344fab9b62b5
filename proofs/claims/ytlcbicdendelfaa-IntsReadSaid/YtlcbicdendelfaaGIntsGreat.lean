/- Whether one of some whole numbers has more than 200 parts. -/
import Derived.Test.YtlcbicdendelfaaGIntsAlive
namespace Go.Proofs.Ytlcbicdendelfaa
open Go Go.Proofs Go.RowKit Go.Shelf Nu

abbrev Q4 : Type := Bool × Option Addr × Nat × Nat
def q4v (t : Q4) : List Value := [.bool t.1, .slice t.2.1 t.2.2.1 t.2.2.2]
theorem q4_get (zs : List Q4) (j : Nat) (hj : j < zs.length) : (zs.flatMap q4v)[j * 2 + 1]? = some (.slice (zs.getD j default).2.1 (zs.getD j default).2.2.1 (zs.getD j default).2.2.2) := by
  induction zs generalizing j with
  | nil => simp at hj
  | cons t ts ih =>
    cases j with
    | zero => simp [q4v]
    | succ j =>
      have h := ih j (by simpa using hj)
      rw [List.flatMap_cons, show (j + 1) * 2 + 1 = (q4v t).length + (j * 2 + 1) by simp [q4v]; omega, List.getElem?_append_right (by omega), Nat.add_sub_cancel_left, h]
      simp

set_option maxHeartbeats 1000000 in
theorem igreat_at {w : World} {b m : Nat} (zs : List Q4) (hm : m = zs.length) (hl : zs.length ≤ 10) (R : Bool) (hR : R = zs.any fun t => decide (200 < t.2.2.1))
    (hc : ∀ j, j < m → w.cell? ⟨b, j * 2 + 1, none⟩ = some (.slice (zs.getD j default).2.1 (zs.getD j default).2.2.1 (zs.getD j default).2.2.2)) :
    Calls Try.prog 6 #[.slice (some ⟨b, 0, none⟩) m m] w fun e w' => e = .returned (.bool R) ∧ ∃ n, w' = w.drewN n := by
  have HR := Lib.hid hR
  have HM := Lib.hid hm
  have hm10 : m ≤ 10 := by omega
  clear hR hm
  go_enter Try.func6, Try.ntmps6
  go_wp2
  go_loopw [3] (fun x wr => ∃ k n : Nat, k ≤ m ∧ x = .int .i64 k ∧ Hid (∀ i, i < k → ¬ 200 < (zs.getD i default).2.2.1) ∧ wr = w.drewN n) (fun x _ => m - (intOf x).toNat)
  case atStart => exact ⟨0, 0, Nat.zero_le _, rfl, Lib.hid (fun i hi => by omega), rfl⟩
  case round =>
    obtain ⟨k, n, hk, rfl, hs, rfl⟩ := hrel
    by_cases hlt : k < m
    · have r1 := hc k hlt
      obtain ⟨t, ht⟩ : ∃ t, t = zs.getD k default := ⟨_, rfl⟩
      rw [← ht] at r1
      have HT := Lib.hid ht
      clear ht hc
      obtain ⟨b0, a, N, c⟩ := t
      dsimp only at r1
      by_cases hq : 200 < (N : Int)
      · have h0 : R = true := by
          rw [HR.out, List.any_eq_true]
          have hk2 : k < zs.length := by have := HM.out; omega
          refine ⟨zs[k], List.getElem_mem hk2, ?_⟩
          have : zs[k] = (b0, a, N, c) := by rw [HT.out, List.getD_eq_getElem?_getD, List.getElem?_eq_getElem hk2]; rfl
          rw [this]; simp; omega
        go_wp2
        go_ret
        exact ⟨by rw [h0]; rfl, n, rfl⟩
      · go_wp2
        go_roundw
        case rel =>
          refine ⟨k + 1, _, by omega, by simp, Lib.hid fun i hi => ?_, rfl⟩
          by_cases e : i = k
          · subst e; rw [← HT.out]; dsimp only; omega
          · exact hs.out i (by omega)
        case measure => simp [intOf]; omega
    · have h0 : R = false := by
        rw [HR.out, List.any_eq_false]
        intro t ht
        obtain ⟨i, hi, rfl⟩ := List.mem_iff_getElem.1 ht
        have := hs.out i (by have := HM.out; omega)
        rw [List.getD_eq_getElem?_getD, List.getElem?_eq_getElem hi] at this
        simpa using this
      clear hc
      go_wp2
      go_ret
      exact ⟨by rw [h0]; rfl, n, rfl⟩
theorem igreat_lit (W : World) (zs : List Q4) {vs : Array Value} (hv : vs = (zs.flatMap q4v).toArray) {m : Nat} (hm : m = zs.length) (hl : zs.length ≤ 10) (R : Bool) (hR : R = zs.any fun t => decide (200 < t.2.2.1)) :
    Calls Try.prog 6 #[.slice (some ⟨W.heap.size, 0, none⟩) m m] (W.alloc (.cells vs 25)) fun e w' => e = .returned (.bool R) ∧ Below W.heap.size W w' := by
  subst hv; subst hm
  refine (igreat_at zs rfl hl R hR fun j hj => ?_).mono ?_
  · unfold World.cell?
    rw [World.alloc_heap_new]
    simpa using q4_get zs j hj
  · rintro e w' ⟨rfl, n, rfl⟩
    exact ⟨rfl, ⟨rfl, rfl, rfl, by show W.heap.size ≤ (W.alloc _).heap.size; simp, fun k hk => Below.heap_alloc W _ k hk⟩⟩

end Go.Proofs.Ytlcbicdendelfaa
