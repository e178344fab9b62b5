/- The document's answer for fractions: a number's digits, noughts alone. -/
import Derived.Test.YtimdinmhphihkaaGreatDoorGRqM
import Derived.Test.YtimdinmhphihkaaGreatDoorGGreatP
set_option linter.unusedSimpArgs false
set_option linter.unusedVariables false
namespace Go.Proofs.YtimdinmhphihkaaGreatDoor
open Go Go.Proofs Go.RowKit Go.Shelf Nu

attribute [local go_sem] Oper.semAt_some

set_option maxHeartbeats 2000000 in
theorem rnum3_any (s : ByteArray) (w : World) (hs : s.size ≤ 2000000) (R : Bool) (hR : R = true ↔ isNum s) :
    Calls Tryz.prog 49 #[.string s] w fun e w' => e = .returned (.bool R) ∧ w' = w := by
  have hlen : ∀ W : World, (Builtin.len_ #[9] 3 #[.string s]).run Tryz.prog W = .ok (.int .i64 (s.size : Int)) W := fun W => by rw [run_len_string W _ _ s (by kernel_rfl)]; rfl
  by_cases ha : allDig s
  · have k1 := rdigits_any s w hs true (by simpa using ha)
    by_cases h1 : s.size = 1
    · obtain rfl : R = true := hR.2 ⟨ha.1, .inl h1⟩
      have g1 : ((s.size : Int) == 1) = true := by rw [h1]; rfl
      have g2 : decide ((s.size : Int) = 1) = true := by rw [h1]; rfl
      clear ha hs hR h1
      go_enter Tryz.func49, Tryz.ntmps49
      go_wp2_with (go_at_call 50; refine k1.mono ?_; rintro e w' ⟨rfl, rfl⟩)
      go_ret
      exact ⟨rfl, rfl⟩
    · have h2 := ha.2
      have g1 : ((s.size : Int) == 1) = false := beq_eq_false_iff_ne.2 (by omega)
      have g2 : decide ((s.size : Int) = 1) = false := decide_eq_false (by omega)
      obtain ⟨b, hb0⟩ : ∃ b, b = bt s 0 := ⟨_, rfl⟩
      have hb : ∀ W : World, (Instr.index 9 (.string s) (.int .i64 0)).run Tryz.prog W = .ok (.int .u8 (b : Int)) W := fun W => by
        have := byte_at s 0 (by omega) W
        rw [← hb0] at this
        exact this
      by_cases h0 : b = 48
      · obtain rfl : R = false := by
          cases R with
          | false => rfl
          | true =>
            rcases (hR.1 rfl).2 with h | h
            · exact absurd h h1
            · exact absurd (by rw [← hb0]; exact h0) h.2
        have g3 : ((b : Int) != 48) = false := by rw [h0]; rfl
        clear ha hs hR h1 hb0 h0 h2
        go_enter Tryz.func49, Tryz.ntmps49
        go_wp2_with (go_at_call 50; refine k1.mono ?_; rintro e w' ⟨rfl, rfl⟩)
        go_ret
        exact ⟨rfl, rfl⟩
      · obtain rfl : R = true := hR.2 ⟨ha.1, .inr ⟨by omega, by rw [← hb0]; exact h0⟩⟩
        have g3 : ((b : Int) != 48) = true := by
          have : ¬ (b : Int) = 48 := by omega
          simpa using this
        clear ha hs hR h1 hb0 h0 h2
        go_enter Tryz.func49, Tryz.ntmps49
        go_wp2_with (go_at_call 50; refine k1.mono ?_; rintro e w' ⟨rfl, rfl⟩)
        go_ret
        exact ⟨rfl, rfl⟩
  · obtain rfl : R = false := by
      cases R with
      | false => rfl
      | true => exact absurd (isNum_all (hR.1 rfl)) ha
    have k1 := rdigits_any s w hs false (by simpa using ha)
    clear ha hs hR
    go_enter Tryz.func49, Tryz.ntmps49
    go_wp2_with (go_at_call 50; refine k1.mono ?_; rintro e w' ⟨rfl, rfl⟩)
    go_ret
    exact ⟨rfl, rfl⟩

set_option maxRecDepth 100000 in
set_option maxHeartbeats 2000000 in
theorem rnoughts_any (s : ByteArray) (w : World) (hs : s.size ≤ 2000000) (R : Bool) (hR : R = true ↔ allNought s) :
    Calls Tryz.prog 51 #[.string s] w fun e w' => e = .returned (.bool R) ∧ w' = w := by
  have HR := Lib.hid hR
  obtain ⟨N, hN⟩ : ∃ N, N = s.size := ⟨_, rfl⟩
  have HN := Lib.hid hN
  have hN1 : N ≤ 2000000 := by omega
  have hlen : ∀ W : World, (Builtin.len_ #[9] 3 #[.string s]).run Tryz.prog W = .ok (.int .i64 (N : Int)) W := fun W => by rw [run_len_string W _ _ s (by kernel_rfl), hN]; rfl
  have hba := Lib.hid (byte_at s)
  clear hR hN hs
  go_enter Tryz.func51, Tryz.ntmps51
  go_wp2
  go_loopg [3] N (fun g x wr => ∃ k : Nat, k + g = N ∧ x = .int .i64 k ∧ Hid (∀ j, j < k → bt s j = 48) ∧ wr = w)
  case atStart => exact ⟨0, by omega, rfl, Lib.hid fun j hj => by omega, rfl⟩
  case round =>
    obtain ⟨k, hk, rfl, hd, rfl⟩ := hrel
    by_cases hlt : k < N
    · obtain ⟨c, hce⟩ : ∃ c, c = bt s k := ⟨_, rfl⟩
      have hb := hba.out k (by have := HN.out; omega)
      rw [← hce] at hb
      have HC := Lib.hid hce
      have hc256 : c < 256 := by rw [hce]; exact bt_lt s k
      clear hce
      by_cases h1 : c = 48
      · replace hb : ∀ W : World, (Instr.index 9 (.string s) (.int .i64 (k : Int))).run Tryz.prog W = .ok (.int .u8 48) W := fun W => by
          have := hb W
          rw [h1] at this
          exact this
        go_wp2
        go_roundg (N - (k + 1))
        case measure => omega
        case rel =>
          refine ⟨k + 1, by omega, by simp, Lib.hid fun j hj => ?_, rfl⟩
          rcases Nat.lt_or_ge j k with h | h
          · exact hd.out j h
          · obtain rfl : j = k := by omega
            have := HC.out
            omega
      · have g1 : ((c : Int) != 48) = true := by
          have : ¬ (c : Int) = 48 := by omega
          simpa using this
        go_wp2
        go_ret
        have : R = false := by
          cases R with
          | false => rfl
          | true => have := HR.out.1 rfl k (by have := HN.out; omega); have := HC.out; omega
        exact ⟨by rw [this]; rfl, rfl⟩
    · obtain rfl : k = N := by omega
      have : R = true := HR.out.2 fun j hj => hd.out j (by have := HN.out; omega)
      have HT := Lib.hid this
      clear this
      go_wp2
      go_ret
      rw [HT.out]
      exact ⟨rfl, rfl⟩

end Go.Proofs.YtimdinmhphihkaaGreatDoor
