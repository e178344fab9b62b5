/- Parse: what a text's number is, or why there is none. -/
import Derived.Test.YtmbnojkciikobaaGreatDoorParse
namespace Go.Proofs.YtmbnojkciikobaaGreatDoor
open Go Go.Proofs Go.RowKit Go.Shelf Nu

/-- the number of the first digits -/
def numv (s : ByteArray) : Nat → Nat
  | 0 => 0
  | k + 1 => 10 * numv s k + (bt s k - 48)
theorem numv_lt (s : ByteArray) (k : Nat) (h : ∀ j, j < k → bt s j ≤ 57) : numv s k < 10 ^ k := by
  induction k with
  | zero => simp [numv]
  | succ k ih =>
    have h1 := ih (fun j hj => h j (by omega))
    have h2 := h k (by omega)
    rw [numv, Nat.pow_succ]
    omega
theorem numv_len (s : ByteArray) (k : Nat) (h : ∀ j, j < k → bt s j ≤ 57) : (digs (numv s k)).length ≤ k :=
  digs_length_le (Nat.lt_of_lt_of_le (numv_lt s k h) (Nat.pow_le_pow_left (by decide) k))

set_option maxHeartbeats 1000000 in
theorem parse_form (s : ByteArray) (w : World) (hs : s.size ≤ 2000000) (h : ¬ isNum s) :
    Calls Tryz.prog 29 #[.string s] w fun e w' => e = .returned (.tuple #[.slice none 0 0, .int .i64 4]) ∧ Below w.heap.size w w' := by
  have k1 := isNumber_any s w hs false (by simpa using h)
  clear h
  go_enter Tryz.func29, Tryz.ntmps29
  go_wp2_with (go_at_call 125; refine k1.mono ?_; rintro e w' ⟨rfl, hb⟩)
  go_ret2
  exact ⟨rfl, hb⟩
set_option maxHeartbeats 1000000 in
theorem parse_limit (s : ByteArray) (w : World) (hs : s.size ≤ 2000000) (h : isNum s) (hl : 200 < s.size) :
    Calls Tryz.prog 29 #[.string s] w fun e w' => e = .returned (.tuple #[.slice none 0 0, .int .i64 3]) ∧ Below w.heap.size w w' := by
  have k1 := isNumber_any s w hs true (by simpa using h)
  clear h
  go_enter Tryz.func29, Tryz.ntmps29
  go_wp2_with (go_at_call 125; refine k1.mono ?_; rintro e w' ⟨rfl, hb⟩)
  go_ret2
  exact ⟨rfl, hb⟩
set_option maxHeartbeats 2000000 in
set_option maxRecDepth 100000 in
theorem parse_ok (s : ByteArray) (w : World) (h : isNum s) (hl : s.size ≤ 200) :
    Calls Tryz.prog 29 #[.string s] w fun e w' => ∃ v, e = .returned (.tuple #[v, .int .i64 0]) ∧ Fresh w' w.heap.size v (digs (numv s s.size)) ∧ Below w.heap.size w w' := by
  have k1 := isNumber_any s w (by omega) true (by simpa using h)
  obtain ⟨N, hN⟩ : ∃ N, N = s.size := ⟨_, rfl⟩
  have HN := Lib.hid hN
  have hd : Hid (∀ j, j < N → 48 ≤ bt s j ∧ bt s j ≤ 57) := Lib.hid fun j hj => h.1 j (by omega)
  clear hN h
  rw [← HN.out] at hl ⊢
  go_enter Tryz.func29, Tryz.ntmps29
  have hsz : ¬ (200 : Int) < (s.size : Int) := by have := HN.out; omega
  go_wp2_with (go_at_call 125; refine k1.mono ?_; rintro e w1 ⟨rfl, hb1⟩; obtain ⟨cap, BW, hconv, hbel, hlt, hcell⟩ := bytes_conv s w1; rw [← HN.out] at hconv hcell; have HB := Lib.hid hbel; have HC := Lib.hid hcell; clear hbel hcell)
  go_loopw [4, 6, 18] (fun v _ x wr => ∃ k : Nat, k ≤ N ∧ x = .int .i64 k ∧ Fresh wr (w1.heap.size + 1) v (digs (numv s k)) ∧ Below (w1.heap.size + 1) BW wr) (fun _ _ x _ => N - (intOf x).toNat)
  case atStart => exact ⟨0, Nat.zero_le _, rfl, by rw [show numv s 0 = 0 from rfl, digs_zero]; exact Fresh.nil _ _, Below.refl _ _⟩
  case round =>
    obtain ⟨k, hk, rfl, hF, hkeep⟩ := hrel
    have hks := hkeep.size
    by_cases hkN : k < N
    · have hdk := hd.out k hkN
      have r1 := (hkeep.cell (p := ⟨w1.heap.size, k, none⟩) (show w1.heap.size < w1.heap.size + 1 by omega)).trans (HC.out k hkN)
      obtain ⟨m, hm⟩ : ∃ m, m = bt s k - 48 := ⟨_, rfl⟩
      rw [show ((bt s k : Nat) : Int) = (m : Int) + 48 by omega] at r1
      have hm9 : m ≤ 9 := by omega
      have u1 : IntKind.u8.wrap ((m : Int) + 48 - 48) = (m : Int) := by rw [IntKind.wrap_u8']; omega
      have u2 : (m : Int) + 48 - 48 = (m : Int) := by omega
      have hlen : (digs (numv s k)).length ≤ 100000 := by
        have := numv_len s k (fun j hj => (hd.out j (by omega)).2)
        omega
      have kt := timesAnd_any (t := 10) (m := m) hF (by omega) hlen (sm_digs _) (by omega) (by omega)
      rw [val_digs, show 10 * numv s k + m = numv s (k + 1) by rw [numv, hm]] at kt
      have HM := Lib.hid hm
      clear hm hdk
      go_wp2_with (go_at_call 126; refine kt.mono ?_; rintro e w3 ⟨v', rfl, hF3, hb3⟩)
      go_roundw
      case rel => exact ⟨k + 1, by omega, by simp, hF3, hkeep.trans hb3⟩
      case measure => simp [intOf]; omega
    · obtain rfl : k = N := by omega
      go_wp2
      go_ret2
      have hw1 := hb1.size
      exact ⟨_, rfl, hF.mono (by omega), (hb1.trans (HB.out.mono hw1)).trans (hkeep.mono (by omega))⟩

end Go.Proofs.YtmbnojkciikobaaGreatDoor
