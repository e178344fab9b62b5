/- Tokens: which bytes are of which kind; how many at a text's beginning are such ones. -/
import Derived.Test.YtegfjndlkjfepaaProg
import Derived.Test.YtegfjndlkjfepaaTk
import Derived.WalkKit
import Derived.WalkSpells
import Derived.WalkLawsBesides
import Derived.LoopTactic
import Derived.Lib.Hide
import Derived.Shelf.Abstract
import Derived.Outline
namespace Go.Proofs.Ytegfjndlkjfepaa
open Go Go.Proofs Go.RowKit Go.Shelf

theorem ret_bool {a b : Bool} (h : a = b) : Ending.returned (.bool a) = .returned (.bool b) := by rw [h]
theorem ret_int {k : IntKind} {a b : Int} (h : a = b) : Ending.returned (.int k a) = .returned (.int k b) := by rw [h]

theorem u8_eq (c : UInt8) (n : Nat) (hn : n < 256) : (c == UInt8.ofNat n) = ((c.toNat : Int) == (n : Int)) := by
  rw [Bool.eq_iff_iff]; simp only [beq_iff_eq, ← UInt8.toNat_inj, UInt8.toNat_ofNat']; omega
theorem u8_le (c : UInt8) (n : Nat) (hn : n < 256) : (decide (UInt8.ofNat n ≤ c)) = decide ((n : Int) ≤ (c.toNat : Int)) := by
  rw [Bool.eq_iff_iff]; simp only [decide_eq_true_eq, UInt8.le_iff_toNat_le, UInt8.toNat_ofNat']; omega
theorem u8_ge (c : UInt8) (n : Nat) (hn : n < 256) : (decide (c ≤ UInt8.ofNat n)) = decide ((c.toNat : Int) ≤ (n : Int)) := by
  rw [Bool.eq_iff_iff]; simp only [decide_eq_true_eq, UInt8.le_iff_toNat_le, UInt8.toNat_ofNat']; omega
theorem blank_int (c : UInt8) : Tk.blank c = ((c.toNat : Int) == 32 || (c.toNat : Int) == 9 || (c.toNat : Int) == 10 || (c.toNat : Int) == 13) := by
  unfold Tk.blank
  have := u8_eq c 32 (by decide); have := u8_eq c 9 (by decide); have := u8_eq c 10 (by decide); have := u8_eq c 13 (by decide); simp_all
theorem digit_int (c : UInt8) : Tk.digit c = (decide (48 ≤ (c.toNat : Int)) && decide ((c.toNat : Int) ≤ 57)) := by
  unfold Tk.digit
  have := u8_le c 48 (by decide); have := u8_ge c 57 (by decide); simp_all
theorem letter_int (c : UInt8) : Tk.letter c = (decide (97 ≤ (c.toNat : Int)) && decide ((c.toNat : Int) ≤ 122) || decide (65 ≤ (c.toNat : Int)) && decide ((c.toNat : Int) ≤ 90)) := by
  unfold Tk.letter
  have := u8_le c 97 (by decide); have := u8_ge c 122 (by decide); have := u8_le c 65 (by decide); have := u8_ge c 90 (by decide); simp_all

set_option maxHeartbeats 2000000 in
theorem isDigit_any (c : UInt8) (w : World) : Calls Try.prog 48 #[.int .u8 (c.toNat : Int)] w fun e w' => e = .returned (.bool (Tk.digit c)) ∧ w = w' := by
  rw [digit_int]
  generalize (c.toNat : Int) = x
  go_enter Try.func48, Try.ntmps48
  go_wp2
  all_goals
    go_ret
    exact ⟨ret_bool (by simp_all <;> omega), rfl⟩
set_option maxHeartbeats 2000000 in
theorem isLetter_any (c : UInt8) (w : World) : Calls Try.prog 40 #[.int .u8 (c.toNat : Int)] w fun e w' => e = .returned (.bool (Tk.letter c)) ∧ w = w' := by
  rw [letter_int]
  generalize (c.toNat : Int) = x
  go_enter Try.func40, Try.ntmps40
  go_wp2
  all_goals
    go_ret
    exact ⟨ret_bool (by simp_all <;> omega), rfl⟩

theorem word_int (c : UInt8) : Tk.ofWord c = (Tk.letter c || Tk.digit c || (c.toNat : Int) == 95) := by
  unfold Tk.ofWord
  have := u8_eq c 95 (by decide); simp_all
set_option maxHeartbeats 2000000 in
theorem isOfWord_any (c : UInt8) (w : World) : Calls Try.prog 42 #[.int .u8 (c.toNat : Int)] w fun e w' => e = .returned (.bool (Tk.ofWord c)) ∧ w = w' := by
  have k1 := fun W => isLetter_any c W
  have k2 := fun W => isDigit_any c W
  rw [word_int]
  obtain ⟨a, ha⟩ : ∃ a, a = Tk.letter c := ⟨_, rfl⟩
  obtain ⟨b, hb⟩ : ∃ b, b = Tk.digit c := ⟨_, rfl⟩
  rw [← ha] at k1 ⊢
  rw [← hb] at k2 ⊢
  clear ha hb
  generalize (c.toNat : Int) = x at *
  cases a <;> cases b <;>
  · go_enter Try.func42, Try.ntmps42
    go_wp2_with (first
      | (go_at_call 40; refine (k1 _).mono ?_; rintro e w' ⟨rfl, rfl⟩)
      | (go_at_call 48; refine (k2 _).mono ?_; rintro e w' ⟨rfl, rfl⟩))
    all_goals
      go_ret
      exact ⟨ret_bool (by simp), rfl⟩

/-- the bytes of a text -/
theorem size_list (s : ByteArray) : s.size = s.data.toList.length := by simp
theorem get_list (s : ByteArray) (k : Nat) (h : k < s.size) : s.data.toList[k]? = some s[k] := by
  rw [List.getElem?_eq_getElem (by simpa using h)]; rfl
theorem run_next {p : UInt8 → Bool} (l : List UInt8) (k : Nat) (c : UInt8) (h : ∀ d ∈ l.take k, p d = true) (hc : l[k]? = some c) (hp : p c = true) : ∀ d ∈ l.take (k + 1), p d = true := by
  intro d hd
  rw [List.take_add_one, hc] at hd
  simp at hd
  rcases hd with hd | rfl
  · exact h d hd
  · exact hp
theorem run_stop {p : UInt8 → Bool} (l : List UInt8) (k : Nat) (c : UInt8) (h : ∀ d ∈ l.take k, p d = true) (hc : l[k]? = some c) (hp : p c = false) : Tk.run p l = k := by
  have e := Tk.run_eq p (l.take k) (l.drop k) h (by
    intro d t hd
    have : (l.drop k)[0]? = some c := by rw [List.getElem?_drop]; simpa using hc
    rw [hd] at this
    simp at this; rw [this]; exact hp)
  rw [List.take_append_drop] at e
  rw [e, List.length_take]
  have := List.getElem?_eq_some_iff.1 hc
  obtain ⟨h, _⟩ := this
  omega
theorem run_full {p : UInt8 → Bool} (l : List UInt8) (h : ∀ d ∈ l.take l.length, p d = true) : Tk.run p l = l.length := Tk.run_all p l (by simpa using h)

set_option maxHeartbeats 2000000 in
theorem run_digit (s : ByteArray) (w : World) (hs : s.size ≤ 1000000) : Calls Try.prog 41 #[.string s, .func (.func 48) #[] #[]] w fun e w' => e = .returned (.int .i64 (Tk.run Tk.digit s.data.toList : Nat)) ∧ w = w' := by
  go_enter Try.func41, Try.ntmps41
  go_wp2
  go_loop [4, 5, 8] (fun _ _ x => ∃ k : Nat, k ≤ s.size ∧ x = .int .i64 k ∧ Hid (∀ d ∈ s.data.toList.take k, Tk.digit d = true)) (fun _ _ x => s.size - (intOf x).toNat)
  case atStart => exact ⟨0, Nat.zero_le _, rfl, Lib.hid fun d hd => by simp at hd⟩
  case round =>
    obtain ⟨k, hk, rfl, hd⟩ := hrel
    by_cases hlt : k < s.size
    · have HC := Lib.hid (get_list s k hlt)
      have k1 := fun W => isDigit_any s[k] W
      cases hb : Tk.digit s[k] with
      | true =>
        have HB := Lib.hid hb
        rw [hb] at k1
        clear hb
        go_wp2_with (go_at_call 48; refine (k1 _).mono ?_; rintro e w' ⟨rfl, rfl⟩)
        go_round
        case rel => exact ⟨k + 1, by omega, by go_num, Lib.hid (run_next _ k _ hd.out HC.out HB.out)⟩
        case measure => simp [intOf]; omega
      | false =>
        have HB := Lib.hid hb
        rw [hb] at k1
        clear hb
        go_wp2_with (go_at_call 48; refine (k1 _).mono ?_; rintro e w' ⟨rfl, rfl⟩)
        go_ret
        exact ⟨ret_int (by rw [run_stop _ k _ hd.out HC.out HB.out]), rfl⟩
    · obtain rfl : k = s.size := by omega
      go_wp2
      go_ret
      exact ⟨ret_int (by rw [run_full _ (by rw [← size_list]; exact hd.out), size_list]), rfl⟩

set_option maxHeartbeats 2000000 in
theorem run_word (s : ByteArray) (w : World) (hs : s.size ≤ 1000000) : Calls Try.prog 41 #[.string s, .func (.func 42) #[] #[]] w fun e w' => e = .returned (.int .i64 (Tk.run Tk.ofWord s.data.toList : Nat)) ∧ w = w' := by
  go_enter Try.func41, Try.ntmps41
  go_wp2
  go_loop [4, 5, 8] (fun _ _ x => ∃ k : Nat, k ≤ s.size ∧ x = .int .i64 k ∧ Hid (∀ d ∈ s.data.toList.take k, Tk.ofWord d = true)) (fun _ _ x => s.size - (intOf x).toNat)
  case atStart => exact ⟨0, Nat.zero_le _, rfl, Lib.hid fun d hd => by simp at hd⟩
  case round =>
    obtain ⟨k, hk, rfl, hd⟩ := hrel
    by_cases hlt : k < s.size
    · have HC := Lib.hid (get_list s k hlt)
      have k1 := fun W => isOfWord_any s[k] W
      cases hb : Tk.ofWord s[k] with
      | true =>
        have HB := Lib.hid hb
        rw [hb] at k1
        clear hb
        go_wp2_with (go_at_call 42; refine (k1 _).mono ?_; rintro e w' ⟨rfl, rfl⟩)
        go_round
        case rel => exact ⟨k + 1, by omega, by go_num, Lib.hid (run_next _ k _ hd.out HC.out HB.out)⟩
        case measure => simp [intOf]; omega
      | false =>
        have HB := Lib.hid hb
        rw [hb] at k1
        clear hb
        go_wp2_with (go_at_call 42; refine (k1 _).mono ?_; rintro e w' ⟨rfl, rfl⟩)
        go_ret
        exact ⟨ret_int (by rw [run_stop _ k _ hd.out HC.out HB.out]), rfl⟩
    · obtain rfl : k = s.size := by omega
      go_wp2
      go_ret
      exact ⟨ret_int (by rw [run_full _ (by rw [← size_list]; exact hd.out), size_list]), rfl⟩

end Go.Proofs.Ytegfjndlkjfepaa
