/- The document's answer: what a text's number is, or why there is none. -/
import Derived.Test.YtmbnojkciikobaaGreatDoorRefM
namespace Go.Proofs.YtmbnojkciikobaaGreatDoor
open Go Go.Proofs Go.RowKit Go.Shelf Nu

attribute [local go_sem] Oper.semAt_some

theorem isNum_all {s : ByteArray} (h : isNum s) : allDig s := ⟨h.1, by rcases h.2 with h | h <;> omega⟩

set_option maxHeartbeats 2000000 in
theorem rparse_form (s : ByteArray) (w : World) (hs : s.size ≤ 2000000) (h : ¬ isNum s) :
    Calls Tryz.prog 30 #[.string s] w fun e w' => e = .returned (.tuple #[.slice none 0 0, .int .i64 4]) ∧ w' = w := by
  by_cases ha : allDig s
  · have k1 := rdigits_any s w hs true (by simpa using ha)
    have h1 : 1 < s.size := by
      rcases Nat.lt_or_ge 1 s.size with h1 | h1
      · exact h1
      · exact absurd ⟨ha.1, .inl (by have := ha.2; omega)⟩ h
    have h0 : bt s 0 = 48 := by
      by_cases h0 : bt s 0 = 48
      · exact h0
      · exact absurd ⟨ha.1, .inr ⟨h1, h0⟩⟩ h
    have hb : ∀ W : World, (Instr.index 9 (.string s) (.int .i64 0)).run Tryz.prog W = .ok (.int .u8 48) W := fun W => by
      have := byte_at s 0 (by omega) W
      rw [h0] at this
      exact this
    have hlen : ∀ W : World, (Builtin.len_ #[9] 3 #[.string s]).run Tryz.prog W = .ok (.int .i64 (s.size : Int)) W := fun W => by rw [run_len_string W _ _ s (by kernel_rfl)]; rfl
    clear h ha h0 hs
    go_enter Tryz.func30, Tryz.ntmps30
    go_wp2_with (go_at_call 127; refine k1.mono ?_; rintro e w' ⟨rfl, rfl⟩)
    go_ret2
    exact ⟨rfl, rfl⟩
  · have k1 := rdigits_any s w hs false (by simpa using ha)
    clear h ha hs
    go_enter Tryz.func30, Tryz.ntmps30
    go_wp2_with (go_at_call 127; refine k1.mono ?_; rintro e w' ⟨rfl, rfl⟩)
    go_ret2
    exact ⟨rfl, rfl⟩

set_option maxHeartbeats 2000000 in
theorem rparse_limit (s : ByteArray) (w : World) (hs : s.size ≤ 2000000) (h : isNum s) (hl : 200 < s.size) :
    Calls Tryz.prog 30 #[.string s] w fun e w' => e = .returned (.tuple #[.slice none 0 0, .int .i64 3]) ∧ w' = w := by
  have k1 := rdigits_any s w hs true (by simpa using isNum_all h)
  have h1 : 1 < s.size := by omega
  obtain ⟨b, hb0⟩ : ∃ b, b = bt s 0 := ⟨_, rfl⟩
  have h0 : b ≠ 48 := by rw [hb0]; rcases h.2 with h | h; omega; exact h.2
  have hb : ∀ W : World, (Instr.index 9 (.string s) (.int .i64 0)).run Tryz.prog W = .ok (.int .u8 (b : Int)) W := fun W => by
    have := byte_at s 0 (by omega) W
    rw [← hb0] at this
    exact this
  have h2 : ((b : Int) == 48) = false := by
    have : ¬ (b : Int) = 48 := by omega
    simpa using this
  have hlen : ∀ W : World, (Builtin.len_ #[9] 3 #[.string s]).run Tryz.prog W = .ok (.int .i64 (s.size : Int)) W := fun W => by rw [run_len_string W _ _ s (by kernel_rfl)]; rfl
  clear h hb0 h0 hs
  go_enter Tryz.func30, Tryz.ntmps30
  go_wp2_with (go_at_call 127; refine k1.mono ?_; rintro e w' ⟨rfl, rfl⟩)
  go_ret2
  exact ⟨rfl, rfl⟩

set_option maxHeartbeats 2000000 in
theorem rparse_ok (s : ByteArray) (w : World) (h : isNum s) (hl : s.size ≤ 200) :
    Calls Tryz.prog 30 #[.string s] w fun e w' => ∃ v, e = .returned (.tuple #[v, .int .i64 0]) ∧ Reads w' v (digs (numv s s.size)) ∧ Below w.heap.size w w' := by
  have k1 := rdigits_any s w (by omega) true (by simpa using isNum_all h)
  have k2 := Lib.hid (rnumber_any s w (by omega) (isNum_all h))
  have hlen : ∀ W : World, (Builtin.len_ #[9] 3 #[.string s]).run Tryz.prog W = .ok (.int .i64 (s.size : Int)) W := fun W => by rw [run_len_string W _ _ s (by kernel_rfl)]; rfl
  have h3 : ¬ (200 : Int) < (s.size : Int) := by omega
  by_cases h1 : 1 < s.size
  · obtain ⟨b, hb0⟩ : ∃ b, b = bt s 0 := ⟨_, rfl⟩
    have h0 : b ≠ 48 := by rw [hb0]; rcases h.2 with h | h; omega; exact h.2
    have hb : ∀ W : World, (Instr.index 9 (.string s) (.int .i64 0)).run Tryz.prog W = .ok (.int .u8 (b : Int)) W := fun W => by
      have := byte_at s 0 (by omega) W
      rw [← hb0] at this
      exact this
    have h2 : ((b : Int) == 48) = false := by
      have : ¬ (b : Int) = 48 := by omega
      simpa using this
    clear h hb0 h0
    go_enter Tryz.func30, Tryz.ntmps30
    go_wp2_with (first
      | (go_at_call 127; refine k1.mono ?_; rintro e w' ⟨rfl, rfl⟩)
      | (go_at_call 128; refine k2.out.mono ?_; rintro e w2 ⟨v, rfl, r, b⟩; have R := Lib.hid r; have B := Lib.hid b; clear r b))
    go_ret2
    exact ⟨_, rfl, R.out, B.out⟩
  · have h2 : s.size = 1 := by rcases h.2 with h | h; exact h; omega
    have h4 : ¬ (1 : Int) < (s.size : Int) := by omega
    clear h h2
    go_enter Tryz.func30, Tryz.ntmps30
    go_wp2_with (first
      | (go_at_call 127; refine k1.mono ?_; rintro e w' ⟨rfl, rfl⟩)
      | (go_at_call 128; refine k2.out.mono ?_; rintro e w2 ⟨v, rfl, r, b⟩; have R := Lib.hid r; have B := Lib.hid b; clear r b))
    go_ret2
    exact ⟨_, rfl, R.out, B.out⟩

end Go.Proofs.YtmbnojkciikobaaGreatDoor
