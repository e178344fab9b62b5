/- Tokens: the document's pieces at any place. -/
import Derived.Test.YtjnmajdigjifkaaGreatDoorTkE
namespace Go.Proofs.YtjnmajdigjifkaaGreatDoor
open Go Go.Proofs Go.RowKit Go.Shelf
set_option linter.unusedVariables false
set_option linter.unusedSimpArgs false

set_option maxHeartbeats 2000000 in
theorem rdigit_any (c : UInt8) (w : World) : Calls Tryz.prog 58 #[.int .u8 (c.toNat : Int)] w fun e w' => e = .returned (.bool (Tk.digit c)) ∧ w = w' := by
  rw [digit_int]
  generalize (c.toNat : Int) = x
  go_enter Tryz.func58, Tryz.ntmps58
  go_wp2
  all_goals
    go_ret
    exact ⟨ret_bool (by simp_all <;> omega), rfl⟩
set_option maxHeartbeats 2000000 in
theorem rletter_any (c : UInt8) (w : World) : Calls Tryz.prog 57 #[.int .u8 (c.toNat : Int)] w fun e w' => e = .returned (.bool (Tk.letter c)) ∧ w = w' := by
  rw [letter_int]
  generalize (c.toNat : Int) = x
  go_enter Tryz.func57, Tryz.ntmps57
  go_wp2
  all_goals
    go_ret
    exact ⟨ret_bool (by simp_all <;> omega), rfl⟩
/-- the bytes ahead are of a word -/
def Ahead (l : List UInt8) (k : Nat) : Prop := (∀ d ∈ l.take k, Tk.ofWord d = true) ∧ (∀ c t, 0 < k → l = c :: t → Tk.letter c = true)
theorem ahead_zero (l : List UInt8) : Ahead l 0 := ⟨by intro d h; simp at h, by intro c t h; omega⟩
theorem ahead_next {l : List UInt8} {k : Nat} {c : UInt8} (h : Ahead l k) (hc : l[k]? = some c) (hw : Tk.letter c = true ∨ (0 < k ∧ Tk.ofWord c = true)) : Ahead l (k + 1) := by
  refine ⟨run_next l k c h.1 hc ?_, ?_⟩
  · rcases hw with hw | hw
    · simp [Tk.ofWord, hw]
    · exact hw.2
  · intro d t _ e
    cases k with
    | zero =>
      rw [e] at hc
      simp at hc
      rcases hw with hw | hw
      · rw [hc]; exact hw
      · omega
    | succ k => exact h.2 d t (by omega) e
theorem word_end {l : List UInt8} {k : Nat} (h : Ahead l k) (hk : k ≤ l.length) (hs : ∀ c, l[k]? = some c → Tk.letter c = false ∧ (0 < k → Tk.ofWord c = false)) : wordN l = k := by
  cases l with
  | nil => simp at hk; subst hk; rfl
  | cons c t =>
    by_cases h0 : k = 0
    · subst h0
      have := (hs c rfl).1
      simp [wordN, this]
    · have hc := h.2 c t (by omega) rfl
      simp only [wordN, hc, if_true]
      cases hq : (c :: t)[k]? with
      | none =>
        have : k = (c :: t).length := by
          have := List.getElem?_eq_none_iff.1 hq
          omega
        subst this
        exact run_full _ h.1
      | some d => exact run_stop _ k d h.1 hq ((hs d hq).2 (by omega))
theorem word_cases (c : UInt8) : Tk.letter c = false → Tk.digit c = false → ((c.toNat : Int) == 95) = false → Tk.ofWord c = false := by
  intro a b d
  rw [word_int, a, b, d]; rfl
theorem tstr_at (s : ByteArray) (k : Nat) (hk : k < s.size) (W : World) : (Instr.index 9 (.string s) (.int .i64 (k : Int))).run Tryz.prog W = .ok (.int .u8 (s[k].toNat : Int)) W := by
  rw [run_index_string _ _ _ _ _ Tryz.underlying9]
  simp [hk]

theorem drop_get (s : ByteArray) (p k : Nat) (h : p + k < s.size) : (s.data.toList.drop p)[k]? = some s[p + k] := by
  rw [List.getElem?_drop]; exact get_list s (p + k) h
theorem sub_i64 (p n : Nat) (h : p ≤ n) (hn : n < 9000000000000000000) : IntKind.i64.wrap ((n : Int) - (p : Int)) = ((n - p : Nat) : Int) := by
  rw [show (n : Int) - (p : Int) = ((n - p : Nat) : Int) by omega]; exact IntWalk.i64_in _ (by omega)
set_option maxHeartbeats 4000000 in
theorem rdigits_at (s : ByteArray) (p : Nat) (w : World) (hs : s.size ≤ 200000) (hp : p ≤ s.size) : Calls Tryz.prog 59 #[.string s, .int .i64 (p : Int)] w fun e w' => e = .returned (.int .i64 (Tk.run Tk.digit (s.data.toList.drop p) : Nat)) ∧ w = w' := by
  have HS := Lib.hid (And.intro hs hp)
  obtain ⟨n, hn⟩ : ∃ n, n = s.size := ⟨_, rfl⟩
  have es : (s.size : Int) = (n : Int) := by omega
  have HN := Lib.hid hn
  clear hs hp hn
  go_enter Tryz.func59, Tryz.ntmps59
  go_wp2
  go_loopg [5] (n - p) (fun g x wr => ∃ q k : Nat, q + g = n ∧ x = .int .i64 (q : Int) ∧ Hid (q = p + k ∧ ∀ d ∈ (s.data.toList.drop p).take k, Tk.digit d = true) ∧ w = wr)
  case atStart => exact ⟨p, 0, by have := HS.out; have := HN.out; omega, rfl, Lib.hid ⟨by omega, by intro d h; simp at h⟩, rfl⟩
  case round =>
    obtain ⟨q, k, hq, rfl, H, rfl⟩ := hrel
    have HQ := Lib.hid hq
    by_cases hlt : q < n
    · have i0 : (0 : Int) ≤ (q : Int) := by omega
      have i1 : (q : Int) < (n : Int) := by omega
      have w0 : IntKind.i64.wrap ((q : Int) + 1) = ((q + 1 : Nat) : Int) := IntWalk.i64_in _ (by have := HS.out; have := HN.out; omega)
      have ix := fun W => tstr_at s q (by have := HN.out; omega) W
      have HC := Lib.hid (drop_get s p k (by have := HN.out; have := H.out.1; omega))
      obtain ⟨c, hc⟩ : ∃ c, c = s[q]'(by have := HN.out; omega) := ⟨_, rfl⟩
      have HCC := Lib.hid (show (s.data.toList.drop p)[k]? = some c by
        rw [HC.out, hc]; congr 1; have := H.out.1; congr 1; omega)
      rw [← hc] at ix
      clear hc HC
      have k2 := fun W => rdigit_any c W
      clear hq
      cases hb : Tk.digit c with
      | true =>
        have HB := Lib.hid hb
        rw [hb] at k2
        clear hb
        go_wp2_with (first
          | (go_at_call 58; refine (k2 _).mono ?_; rintro e w' ⟨rfl, rfl⟩))
        go_roundg (n - (q + 1))
        case measure => have := HQ.out; omega
        case rel => exact ⟨q + 1, k + 1, by omega, rfl, Lib.hid ⟨by have := H.out.1; omega, run_next _ _ _ H.out.2 HCC.out HB.out⟩, rfl⟩
      | false =>
        have HB := Lib.hid hb
        rw [hb] at k2
        clear hb
        have e9 := sub_i64 p q (by have := H.out.1; omega) (by have := HS.out; have := HN.out; omega)
        go_wp2_with (first
          | (go_at_call 58; refine (k2 _).mono ?_; rintro e w' ⟨rfl, rfl⟩))
        go_ret
        exact ⟨ret_int (by rw [run_stop _ _ _ H.out.2 HCC.out HB.out]; have := H.out.1; omega), rfl⟩
    · obtain rfl : q = n := by omega
      have i1 : ¬ (q : Int) < (q : Int) := by omega
      have e9 := sub_i64 p q (by have := H.out.1; omega) (by have := HS.out; have := HN.out; omega)
      have hk : (s.data.toList.drop p).length = k := by rw [List.length_drop, ← size_list]; have := H.out.1; have := HN.out; omega
      have HR := Lib.hid (show Tk.run Tk.digit (s.data.toList.drop p) = k by
        have := run_full (p := Tk.digit) (s.data.toList.drop p) (by rw [hk]; exact H.out.2)
        rw [this, hk])
      clear hq hk
      go_wp2
      go_ret
      exact ⟨ret_int (by rw [HR.out]; have := H.out.1; omega), rfl⟩
set_option maxHeartbeats 8000000 in
theorem rword_at (s : ByteArray) (p : Nat) (w : World) (hs : s.size ≤ 200000) (hp : p ≤ s.size) : Calls Tryz.prog 11 #[.string s, .int .i64 (p : Int)] w fun e w' => e = .returned (.int .i64 (wordN (s.data.toList.drop p) : Nat)) ∧ w = w' := by
  have HS := Lib.hid (And.intro hs hp)
  obtain ⟨n, hn⟩ : ∃ n, n = s.size := ⟨_, rfl⟩
  have es : (s.size : Int) = (n : Int) := by omega
  have HN := Lib.hid hn
  clear hs hp hn
  go_enter Tryz.func11, Tryz.ntmps11
  go_wp2
  go_loopg [5] (n - p) (fun g x wr => ∃ q k : Nat, q + g = n ∧ x = .int .i64 (q : Int) ∧ Hid (q = p + k ∧ Ahead (s.data.toList.drop p) k) ∧ w = wr)
  case atStart => exact ⟨p, 0, by have := HS.out; have := HN.out; omega, rfl, Lib.hid ⟨by omega, ahead_zero _⟩, rfl⟩
  case round =>
    obtain ⟨q, k, hq, rfl, H, rfl⟩ := hrel
    have HQ := Lib.hid hq
    by_cases hlt : q < n
    · have i0 : (0 : Int) ≤ (q : Int) := by omega
      have i1 : (q : Int) < (n : Int) := by omega
      have w0 : IntKind.i64.wrap ((q : Int) + 1) = ((q + 1 : Nat) : Int) := IntWalk.i64_in _ (by have := HS.out; have := HN.out; omega)
      have ix := fun W => tstr_at s q (by have := HN.out; omega) W
      have HC := Lib.hid (drop_get s p k (by have := HN.out; have := H.out.1; omega))
      obtain ⟨c, hc⟩ : ∃ c, c = s[q]'(by have := HN.out; omega) := ⟨_, rfl⟩
      have HCC := Lib.hid (show (s.data.toList.drop p)[k]? = some c by
        rw [HC.out, hc]; congr 1; have := H.out.1; congr 1; omega)
      rw [← hc] at ix
      clear hc HC
      have k1 := fun W => rletter_any c W
      have k2 := fun W => rdigit_any c W
      clear hq
      have e9 := sub_i64 p q (by have := H.out.1; omega) (by have := HS.out; have := HN.out; omega)
      cases ha : Tk.letter c with
      | true =>
        have HA := Lib.hid ha
        rw [ha] at k1
        clear ha
        go_wp2_with (first
          | (go_at_call 57; refine (k1 _).mono ?_; rintro e w' ⟨rfl, rfl⟩))
        go_roundg (n - (q + 1))
        case measure => have := HQ.out; omega
        case rel => exact ⟨q + 1, k + 1, by omega, rfl, Lib.hid ⟨by have := H.out.1; omega, ahead_next H.out.2 HCC.out (.inl HA.out)⟩, rfl⟩
      | false =>
        have HA := Lib.hid ha
        rw [ha] at k1
        clear ha
        by_cases h0 : k = 0
        · obtain rfl : q = p := by have := H.out.1; omega
          have g0 : ¬ (q : Int) < (q : Int) := by omega
          clear k2
          go_wp2_with (first
            | (go_at_call 57; refine (k1 _).mono ?_; rintro e w' ⟨rfl, rfl⟩))
          go_ret
          exact ⟨ret_int (by
            subst h0
            rw [word_end H.out.2 (Nat.zero_le _) (fun d hd => by
              have := HCC.out.symm.trans hd
              simp only [Option.some.injEq] at this
              subst this
              exact ⟨HA.out, fun h => by omega⟩)]
            try simp), rfl⟩
        · have g0 : (p : Int) < (q : Int) := by have := H.out.1; omega
          have HK := Lib.hid h0
          clear h0
          cases hb : Tk.digit c with
          | true =>
            have HB := Lib.hid hb
            rw [hb] at k2
            clear hb
            go_wp2_with (first
              | (go_at_call 57; refine (k1 _).mono ?_; rintro e w' ⟨rfl, rfl⟩)
              | (go_at_call 58; refine (k2 _).mono ?_; rintro e w' ⟨rfl, rfl⟩))
            go_roundg (n - (q + 1))
            case measure => have := HQ.out; omega
            case rel => exact ⟨q + 1, k + 1, by omega, rfl, Lib.hid ⟨by have := H.out.1; omega, ahead_next H.out.2 HCC.out (.inr ⟨by have := HK.out; omega, by simp [Tk.ofWord, HB.out]⟩)⟩, rfl⟩
          | false =>
            have HB := Lib.hid hb
            rw [hb] at k2
            clear hb
            cases hd : ((c.toNat : Int) == 95) with
            | true =>
              have HD := Lib.hid hd
              go_wp2_with (first
                | (go_at_call 57; refine (k1 _).mono ?_; rintro e w' ⟨rfl, rfl⟩)
                | (go_at_call 58; refine (k2 _).mono ?_; rintro e w' ⟨rfl, rfl⟩))
              go_roundg (n - (q + 1))
              case measure => have := HQ.out; omega
              case rel => exact ⟨q + 1, k + 1, by omega, rfl, Lib.hid ⟨by have := H.out.1; omega, ahead_next H.out.2 HCC.out (.inr ⟨by have := HK.out; omega, by rw [word_int, HD.out]; simp⟩)⟩, rfl⟩
            | false =>
              have HD := Lib.hid hd
              go_wp2_with (first
                | (go_at_call 57; refine (k1 _).mono ?_; rintro e w' ⟨rfl, rfl⟩)
                | (go_at_call 58; refine (k2 _).mono ?_; rintro e w' ⟨rfl, rfl⟩))
              go_ret
              exact ⟨ret_int (by
                rw [word_end (k := k) H.out.2 (by rw [List.length_drop, ← size_list]; have := H.out.1; have := HN.out; omega) (fun d hd => by
                  have := HCC.out.symm.trans hd
                  simp only [Option.some.injEq] at this
                  subst this
                  exact ⟨HA.out, fun _ => word_cases _ HA.out HB.out HD.out⟩)]
                have := H.out.1; omega), rfl⟩
    · obtain rfl : q = n := by omega
      have i1 : ¬ (q : Int) < (q : Int) := by omega
      have e9 := sub_i64 p q (by have := H.out.1; omega) (by have := HS.out; have := HN.out; omega)
      have HR := Lib.hid (show wordN (s.data.toList.drop p) = k by
        have hk : (s.data.toList.drop p).length = k := by rw [List.length_drop, ← size_list]; have := H.out.1; have := HN.out; omega
        exact word_end (k := k) H.out.2 (by omega) (fun d hd => by rw [List.getElem?_eq_none (by omega)] at hd; cases hd))
      clear hq
      go_wp2
      go_ret
      exact ⟨ret_int (by rw [HR.out]; have := H.out.1; omega), rfl⟩
theorem numN_digits (l : List UInt8) : Tk.numN l = if Tk.run Tk.digit l = 0 then 0 else if (l.drop (Tk.run Tk.digit l)).head? = some 46 then (if Tk.run Tk.digit (l.drop (Tk.run Tk.digit l + 1)) = 0 then Tk.run Tk.digit l else Tk.run Tk.digit l + 1 + Tk.run Tk.digit (l.drop (Tk.run Tk.digit l + 1))) else Tk.run Tk.digit l := by
  unfold Tk.numN
  by_cases h0 : Tk.run Tk.digit l = 0
  · rw [if_pos h0, if_pos h0]
  · rw [if_neg h0, if_neg h0]
    cases hd : l.drop (Tk.run Tk.digit l) with
    | nil => simp
    | cons c t =>
      have e : l.drop (Tk.run Tk.digit l + 1) = t := by
        rw [← List.drop_drop, hd]; rfl
      by_cases hc : c = 46
      · subst hc
        simp [e]
      · have : (c :: t).head? ≠ some 46 := by simpa using hc
        rw [if_neg this]
        split
        · rename_i h; simp only [List.cons.injEq] at h; exact absurd h.1 hc
        · rfl
set_option maxHeartbeats 8000000 in
theorem rnumber_at (s : ByteArray) (p : Nat) (w : World) (hs : s.size ≤ 200000) (hp : p ≤ s.size) : Calls Tryz.prog 12 #[.string s, .int .i64 (p : Int)] w fun e w' => e = .returned (.int .i64 (Tk.numN (s.data.toList.drop p) : Nat)) ∧ w = w' := by
  have K1 := Lib.hid (fun W => rdigits_at s p W hs hp)
  obtain ⟨n, hn⟩ : ∃ n, n = s.size := ⟨_, rfl⟩
  have es : (s.size : Int) = (n : Int) := by omega
  have hr := Tk.run_le Tk.digit (s.data.toList.drop p)
  rw [List.length_drop, ← size_list] at hr
  have hnum := numN_digits (s.data.toList.drop p)
  rw [List.drop_drop, List.drop_drop] at hnum
  obtain ⟨a, ha⟩ : ∃ a, a = Tk.run Tk.digit (s.data.toList.drop p) := ⟨_, rfl⟩
  rw [← ha] at K1 hr hnum
  obtain ⟨N, hNN⟩ : ∃ N, N = Tk.numN (s.data.toList.drop p) := ⟨_, rfl⟩
  rw [← hNN] at hnum ⊢
  clear hNN
  by_cases h0 : a = 0
  · subst h0
    rw [if_pos rfl] at hnum
    subst hnum
    have k0 : ((0 : Nat) : Int) = 0 := rfl
    clear hs hp hn ha hr
    go_enter Tryz.func12, Tryz.ntmps12
    go_wp2_with (go_at_call 59; refine (K1.out _).mono ?_; rintro e w' ⟨rfl, rfl⟩)
    go_ret
    exact ⟨rfl, rfl⟩
  rw [if_neg h0] at hnum
  obtain ⟨q, hq⟩ : ∃ q, q = p + a := ⟨_, rfl⟩
  have w1 : IntKind.i64.wrap ((p : Int) + (a : Int)) = (q : Int) := by rw [show (p : Int) + (a : Int) = (q : Int) by omega]; exact IntWalk.i64_in _ (by omega)
  have j0 : ¬ ((a : Int) = 0) := by omega
  have j0' : ¬ a = 0 := h0
  by_cases h1 : n ≤ q
  · have hno : ¬ ((s.data.toList.drop (p + a)).head? = some 46) := by rw [List.drop_eq_nil_of_le (by rw [← size_list]; omega)]; simp
    rw [if_neg hno] at hnum
    subst hnum
    have j1 : (n : Int) ≤ (q : Int) := by omega
    clear hs hp hn ha hr hno h0 hq h1
    go_enter Tryz.func12, Tryz.ntmps12
    go_wp2_with (go_at_call 59; refine (K1.out _).mono ?_; rintro e w' ⟨rfl, rfl⟩)
    go_ret
    exact ⟨rfl, rfl⟩
  have j1 : ¬ (n : Int) ≤ (q : Int) := by omega
  have d1 : ((a : Int) == 0) = false := by rw [beq_eq_false_iff_ne]; exact j0
  have d2 : decide (n ≤ q) = false := by simp; omega
  have ix := fun W => tstr_at s q (by omega) W
  obtain ⟨c, hc⟩ : ∃ c, c = s[q]'(by omega) := ⟨_, rfl⟩
  rw [← hc] at ix
  have hhd : (s.data.toList.drop (p + a)).head? = some c := by
    have := drop_get s (p + a) 0 (by omega)
    rw [List.head?_eq_getElem?, this, hc]
    congr 1; congr 1; omega
  rw [hhd] at hnum
  by_cases h2 : c = 46
  · subst h2
    rw [if_pos rfl] at hnum
    obtain ⟨q1, hq1⟩ : ∃ q1, q1 = q + 1 := ⟨_, rfl⟩
    have w2 : IntKind.i64.wrap ((q : Int) + 1) = (q1 : Int) := by rw [show (q : Int) + 1 = (q1 : Int) by omega]; exact IntWalk.i64_in _ (by omega)
    have K2 := Lib.hid (fun W => rdigits_at s q1 W hs (by omega))
    have hr2 := Tk.run_le Tk.digit (s.data.toList.drop q1)
    rw [List.length_drop, ← size_list] at hr2
    rw [show p + (a + 1) = q1 by omega] at hnum
    obtain ⟨b, hb⟩ : ∃ b, b = Tk.run Tk.digit (s.data.toList.drop q1) := ⟨_, rfl⟩
    rw [← hb] at K2 hr2 hnum
    have e46 : ((((46 : UInt8).toNat : Nat) : Int) == 46) = true := rfl
    have e46' : (((46 : UInt8).toNat : Nat) : Int) = 46 := rfl
    by_cases h3 : b = 0
    · subst h3
      rw [if_pos rfl] at hnum
      subst hnum
      have k0 : ((0 : Nat) : Int) = 0 := rfl
      clear hs hp hn ha hr h0 hq h1 hc hhd hq1 hr2 hb
      go_enter Tryz.func12, Tryz.ntmps12
      go_wp2_with (first
        | (go_at_call 59; (with_reducible refine (K1.out _).mono ?_); rintro e w' ⟨rfl, rfl⟩)
        | (go_at_call 59; (with_reducible refine (K2.out _).mono ?_); rintro e w' ⟨rfl, rfl⟩))
      go_ret
      exact ⟨rfl, rfl⟩
    · rw [if_neg h3] at hnum
      have j3 : ¬ ((b : Int) = 0) := by omega
      have j3' : ¬ b = 0 := h3
      have w3 : IntKind.i64.wrap ((a : Int) + 1) = ((a + 1 : Nat) : Int) := IntWalk.i64_in _ (by omega)
      have w4 : IntKind.i64.wrap (((a + 1 : Nat) : Int) + (b : Int)) = (N : Int) := by rw [show ((a + 1 : Nat) : Int) + (b : Int) = (N : Int) by omega]; exact IntWalk.i64_in _ (by omega)
      have w4' : IntKind.i64.wrap ((a : Int) + 1 + (b : Int)) = (N : Int) := by rw [show (a : Int) + 1 + (b : Int) = (N : Int) by omega]; exact IntWalk.i64_in _ (by omega)
      clear hs hp hn ha hr h0 hq h1 hc hhd hq1 hr2 hb hnum h3
      go_enter Tryz.func12, Tryz.ntmps12
      go_wp2_with (first
        | (go_at_call 59; (with_reducible refine (K1.out _).mono ?_); rintro e w' ⟨rfl, rfl⟩)
        | (go_at_call 59; (with_reducible refine (K2.out _).mono ?_); rintro e w' ⟨rfl, rfl⟩))
      go_ret
      exact ⟨rfl, rfl⟩
  · rw [if_neg (by simpa using h2)] at hnum
    subst hnum
    have e46n : ¬ (c.toNat = 46) := fun h => h2 (UInt8.toNat_inj.1 (h.trans rfl))
    have e46' : ¬ ((c.toNat : Int) = 46) := by omega
    have e46 : ((c.toNat : Int) == 46) = false := by rw [beq_eq_false_iff_ne]; exact e46'
    clear hs hp hn ha hr h0 hq h1 hc hhd h2
    go_enter Tryz.func12, Tryz.ntmps12
    go_wp2_with (go_at_call 59; refine (K1.out _).mono ?_; rintro e w' ⟨rfl, rfl⟩)
    go_ret
    exact ⟨rfl, rfl⟩
end Go.Proofs.YtjnmajdigjifkaaGreatDoor
