/- Names: the document's answer. -/
import Derived.Test.YtfnblnemdepimaaTkN
namespace Go.Proofs.Ytfnblnemdepimaa
open Go Go.Proofs Go.RowKit Go.Shelf
set_option linter.unusedVariables false
set_option linter.unusedSimpArgs false

set_option maxHeartbeats 2000000 in
theorem rdigit_any (c : UInt8) (w : World) : Calls Try.prog 14 #[.int .u8 (c.toNat : Int)] w fun e w' => e = .returned (.bool (Tk.digit c)) ∧ w = w' := by
  rw [digit_int]
  generalize (c.toNat : Int) = x
  go_enter Try.func14, Try.ntmps14
  go_wp2
  all_goals
    go_ret
    exact ⟨ret_bool (by simp_all <;> omega), rfl⟩
set_option maxHeartbeats 2000000 in
theorem rletter_any (c : UInt8) (w : World) : Calls Try.prog 13 #[.int .u8 (c.toNat : Int)] w fun e w' => e = .returned (.bool (Tk.letter c)) ∧ w = w' := by
  rw [letter_int]
  generalize (c.toNat : Int) = x
  go_enter Try.func13, Try.ntmps13
  go_wp2
  all_goals
    go_ret
    exact ⟨ret_bool (by simp_all <;> omega), rfl⟩

/-- the bytes ahead are of a word -/
def Ahead (l : List UInt8) (k : Nat) : Prop := (∀ d ∈ l.take k, Tk.ofWord d = true) ∧ (∀ c t, 0 < k → l = c :: t → Tk.letter c = true)
theorem ahead_zero (l : List UInt8) : Ahead l 0 := ⟨by intro d h; simp at h, by intro c t h; omega⟩
theorem ahead_next {l : List UInt8} {k : Nat} {c : UInt8} (h : Ahead l k) (hc : l[k]? = some c) (hw : Tk.letter c = true ∨ (0 < k ∧ Tk.ofWord c = true)) : Ahead l (k + 1) := by
  refine ⟨run_next l k c h.1 hc ?_, ?_⟩
  · rcases hw with hw | hw
    · simp [Tk.ofWord, hw]
    · exact hw.2
  · intro d t _ e
    cases k with
    | zero =>
      rw [e] at hc
      simp at hc
      rcases hw with hw | hw
      · rw [hc]; exact hw
      · omega
    | succ k => exact h.2 d t (by omega) e
theorem word_end {l : List UInt8} {k : Nat} (h : Ahead l k) (hk : k ≤ l.length) (hs : ∀ c, l[k]? = some c → Tk.letter c = false ∧ (0 < k → Tk.ofWord c = false)) : wordN l = k := by
  cases l with
  | nil => simp at hk; subst hk; rfl
  | cons c t =>
    by_cases h0 : k = 0
    · subst h0
      have := (hs c rfl).1
      simp [wordN, this]
    · have hc := h.2 c t (by omega) rfl
      simp only [wordN, hc, if_true]
      cases hq : (c :: t)[k]? with
      | none =>
        have : k = (c :: t).length := by
          have := List.getElem?_eq_none_iff.1 hq
          omega
        subst this
        exact run_full _ h.1
      | some d => exact run_stop _ k d h.1 hq ((hs d hq).2 (by omega))
theorem word_cases (c : UInt8) : Tk.letter c = false → Tk.digit c = false → ((c.toNat : Int) == 95) = false → Tk.ofWord c = false := by
  intro a b d
  rw [word_int, a, b, d]; rfl

set_option maxHeartbeats 4000000 in
theorem rword_any (s : ByteArray) (w : World) (hs : s.size ≤ 2000000) : Calls Try.prog 9 #[.string s, .int .i64 0] w fun e w' => e = .returned (.int .i64 (wordN s.data.toList : Nat)) ∧ w = w' := by
  go_enter Try.func9, Try.ntmps9
  go_wp2
  go_loop [5] (fun x => ∃ k : Nat, k ≤ s.size ∧ x = .int .i64 (k : Int) ∧ Hid (Ahead s.data.toList k)) (fun x => s.size - (intOf x).toNat)
  case atStart => exact ⟨0, Nat.zero_le _, rfl, Lib.hid (ahead_zero _)⟩
  case round =>
    obtain ⟨k, hk, rfl, H⟩ := hrel
    by_cases hlt : k < s.size
    · have HC := Lib.hid (get_list s k hlt)
      have k1 := fun W => rletter_any s[k] W
      have k2 := fun W => rdigit_any s[k] W
      cases ha : Tk.letter s[k] with
      | true =>
        have HA := Lib.hid ha
        rw [ha] at k1
        clear ha
        go_wp2_with (first
          | (go_at_call 13; refine (k1 _).mono ?_; rintro e w' ⟨rfl, rfl⟩))
        go_round
        case rel => exact ⟨k + 1, by omega, by go_num, Lib.hid (ahead_next H.out HC.out (.inl HA.out))⟩
        case measure => simp [intOf]; omega
      | false =>
        have HA := Lib.hid ha
        rw [ha] at k1
        clear ha
        by_cases h0 : k = 0
        · subst h0
          clear k2
          go_wp2_with (first
            | (go_at_call 13; refine (k1 _).mono ?_; rintro e w' ⟨rfl, rfl⟩))
          go_ret
          exact ⟨ret_int (by rw [word_end H.out (Nat.zero_le _) (fun c hc => by
            have := HC.out.symm.trans hc
            simp only [Option.some.injEq] at this
            subst this
            exact ⟨HA.out, fun h => by omega⟩)]; rfl), rfl⟩
        · have g0 : decide ((0 : Int) < (k : Int)) = true := by simp; omega
          have g1 : decide (0 < k) = true := by simp; omega
          cases hb : Tk.digit s[k] with
          | true =>
            have HB := Lib.hid hb
            rw [hb] at k2
            clear hb
            go_wp2_with (first
              | (go_at_call 13; refine (k1 _).mono ?_; rintro e w' ⟨rfl, rfl⟩)
              | (go_at_call 14; refine (k2 _).mono ?_; rintro e w' ⟨rfl, rfl⟩))
            go_round
            case rel => exact ⟨k + 1, by omega, by go_num, Lib.hid (ahead_next H.out HC.out (.inr ⟨by omega, by simp [Tk.ofWord, HB.out]⟩))⟩
            case measure => simp [intOf]; omega
          | false =>
            have HB := Lib.hid hb
            rw [hb] at k2
            clear hb
            cases hd : ((s[k].toNat : Int) == 95) with
            | true =>
              have HD := Lib.hid hd
              go_wp2_with (first
                | (go_at_call 13; refine (k1 _).mono ?_; rintro e w' ⟨rfl, rfl⟩)
                | (go_at_call 14; refine (k2 _).mono ?_; rintro e w' ⟨rfl, rfl⟩))
              go_round
              case rel => exact ⟨k + 1, by omega, by go_num, Lib.hid (ahead_next H.out HC.out (.inr ⟨by omega, by rw [word_int, HD.out]; simp⟩))⟩
              case measure => simp [intOf]; omega
            | false =>
              have HD := Lib.hid hd
              go_wp2_with (first
                | (go_at_call 13; refine (k1 _).mono ?_; rintro e w' ⟨rfl, rfl⟩)
                | (go_at_call 14; refine (k2 _).mono ?_; rintro e w' ⟨rfl, rfl⟩))
              go_ret
              exact ⟨ret_int (by rw [word_end (k := k) H.out (by rw [← size_list]; omega) (fun c hc => by
                have := HC.out.symm.trans hc
                simp only [Option.some.injEq] at this
                subst this
                exact ⟨HA.out, fun _ => word_cases _ HA.out HB.out HD.out⟩)]; try simp), rfl⟩
    · obtain rfl : k = s.size := by omega
      go_wp2
      go_ret
      exact ⟨ret_int (by rw [word_end (k := s.size) H.out (by rw [← size_list]; exact Nat.le_refl _) (fun c hc => by
        rw [List.getElem?_eq_none (by rw [← size_list]; exact Nat.le_refl _)] at hc; cases hc)]; try simp), rfl⟩
end Go.Proofs.Ytfnblnemdepimaa
