/- Whether one of some numbers has more than 300 parts; whether a text is longer than is gone through. -/
import Derived.Test.YtmbnojkciikobaaGreatDoorForm
import Derived.Test.YtmbnojkciikobaaGreatDoorLen
namespace Go.Proofs.YtmbnojkciikobaaGreatDoor
open Go Go.Proofs Go.RowKit Go.Shelf Nu

set_option maxHeartbeats 1000000 in
theorem great_at {w : World} {b m : Nat} (zs : List (Option Addr × Nat × Nat)) (hm : m = zs.length) (hl : zs.length ≤ 10) (R : Bool) (hR : R = zs.any fun t => decide (300 < t.2.1))
    (hc : ∀ j, j < m → w.cell? ⟨b, j, none⟩ = some (.slice (zs.getD j default).1 (zs.getD j default).2.1 (zs.getD j default).2.2)) :
    Calls Tryz.prog 8 #[.slice (some ⟨b, 0, none⟩) m m] w fun e w' => e = .returned (.bool R) ∧ ∃ n, w' = w.drewN n := by
  have HR := Lib.hid hR
  have HM := Lib.hid hm
  have hm10 : m ≤ 10 := by omega
  clear hR hm
  go_enter Tryz.func8, Tryz.ntmps8
  go_wp2
  go_loopw [3] (fun x wr => ∃ k n : Nat, k ≤ m ∧ x = .int .i64 k ∧ Hid (∀ i, i < k → ¬ 300 < (zs.getD i default).2.1) ∧ wr = w.drewN n) (fun x _ => m - (intOf x).toNat)
  case atStart => exact ⟨0, 0, Nat.zero_le _, rfl, Lib.hid (fun i hi => by omega), rfl⟩
  case round =>
    obtain ⟨k, n, hk, rfl, hs, rfl⟩ := hrel
    by_cases hlt : k < m
    · have r1 := hc k hlt
      obtain ⟨t, ht⟩ : ∃ t, t = zs.getD k default := ⟨_, rfl⟩
      rw [← ht] at r1
      have HT := Lib.hid ht
      clear ht hc
      obtain ⟨a, N, c⟩ := t
      dsimp only at r1
      by_cases hq : 300 < (N : Int)
      · have h0 : R = true := by
          rw [HR.out, List.any_eq_true]
          have hk2 : k < zs.length := by have := HM.out; omega
          refine ⟨zs[k], List.getElem_mem hk2, ?_⟩
          have : zs[k] = (a, N, c) := by rw [HT.out, List.getD_eq_getElem?_getD, List.getElem?_eq_getElem hk2]; rfl
          rw [this]; simp; omega
        go_wp2
        go_ret
        exact ⟨by rw [h0]; rfl, n, rfl⟩
      · go_wp2
        go_roundw
        case rel =>
          refine ⟨k + 1, _, by omega, by simp, Lib.hid fun i hi => ?_, rfl⟩
          by_cases e : i = k
          · subst e; rw [← HT.out]; dsimp only; omega
          · exact hs.out i (by omega)
        case measure => simp [intOf]; omega
    · have h0 : R = false := by
        rw [HR.out, List.any_eq_false]
        intro t ht
        obtain ⟨i, hi, rfl⟩ := List.mem_iff_getElem.1 ht
        have := hs.out i (by have := HM.out; omega)
        rw [List.getD_eq_getElem?_getD, List.getElem?_eq_getElem hi] at this
        simpa using this
      clear hc
      go_wp2
      go_ret
      exact ⟨by rw [h0]; rfl, n, rfl⟩
theorem great_lit (W : World) (zs : List (Option Addr × Nat × Nat)) {vs : Array Value} (hv : vs = (zs.map fun t => Value.slice t.1 t.2.1 t.2.2).toArray) {m : Nat} (hm : m = zs.length) (hl : zs.length ≤ 10) (R : Bool) (hR : R = zs.any fun t => decide (300 < t.2.1)) :
    Calls Tryz.prog 8 #[.slice (some ⟨W.heap.size, 0, none⟩) m m] (W.alloc (.cells vs 23)) fun e w' => e = .returned (.bool R) ∧ Below W.heap.size W w' := by
  subst hv; subst hm
  refine (great_at zs rfl hl R hR fun j hj => ?_).mono ?_
  · unfold World.cell?
    rw [World.alloc_heap_new]
    simp [List.getD_eq_getElem?_getD, List.getElem?_eq_getElem hj]
  · rintro e w' ⟨rfl, n, rfl⟩
    exact ⟨rfl, ⟨rfl, rfl, rfl, by show W.heap.size ≤ (W.alloc _).heap.size; simp, fun k hk => Below.heap_alloc W _ k hk⟩⟩

end Go.Proofs.YtmbnojkciikobaaGreatDoor
