/- Tokens: how many bytes of a word, of a number, of signs a text begins with. -/
import Derived.Test.YtegfjndlkjfepaaTkA
import Derived.Lib.Strings
import Derived.Lib.Walk
import Derived.Laws.Strings3
import Derived.Laws.Rows
import Derived.Below
namespace Go.Proofs.Ytegfjndlkjfepaa
open Go Go.Proofs Go.RowKit Go.Shelf

/-- a word's bytes -/
def wordN : List UInt8 → Nat
  | [] => 0
  | c :: l => if Tk.letter c then Tk.run Tk.ofWord (c :: l) else 0
theorem list_cons (s : ByteArray) (h : 0 < s.size) : ∃ l, s.data.toList = s[0] :: l := by
  have := get_list s 0 h
  cases hl : s.data.toList with
  | nil => rw [hl] at this; cases this
  | cons c l => rw [hl] at this; simp at this; exact ⟨l, by rw [this]⟩
set_option maxHeartbeats 1000000 in
theorem wordSize_any (s : ByteArray) (w : World) (hs : s.size ≤ 1000000) : Calls Try.prog 33 #[.string s] w fun e w' => e = .returned (.int .i64 (wordN s.data.toList : Nat)) ∧ w = w' := by
  by_cases h0 : s.size = 0
  · have e : s = ⟨#[]⟩ := by apply ByteArray.ext; exact Array.eq_empty_of_size_eq_zero h0
    subst e
    go_enter Try.func33, Try.ntmps33
    go_wp2
    go_ret
    exact ⟨rfl, rfl⟩
  · have hlt : 0 < s.size := by omega
    obtain ⟨l, hl⟩ := list_cons s hlt
    have k2 := fun W => run_word s W hs
    have hne : (s.toList == ([] : List UInt8)) = false := by rw [Lib.toList_data, hl]; rfl
    have hne1 : s.toList.isEmpty = false := by rw [Lib.toList_data, hl]; rfl
    have hne2 : ¬ s.toList = [] := by rw [Lib.toList_data, hl]; simp
    have hne3 : ¬ s = ⟨#[]⟩ := by rintro rfl; exact h0 rfl
    have k1 := fun W => isLetter_any s[0] W
    clear h0
    cases hc : Tk.letter s[0] with
    | true =>
      have e : wordN s.data.toList = Tk.run Tk.ofWord s.data.toList := by rw [hl]; simp only [wordN, hc, if_true]
      rw [hc] at k1
      rw [e]
      clear e hl hc
      go_enter Try.func33, Try.ntmps33
      go_wp2_with (first
        | (go_at_call 40; refine (k1 _).mono ?_; rintro e w' ⟨rfl, rfl⟩)
        | (go_at_call 41; refine (k2 _).mono ?_; rintro e w' ⟨rfl, rfl⟩))
      go_ret
      exact ⟨rfl, rfl⟩
    | false =>
      have e : wordN s.data.toList = 0 := by rw [hl]; simp [wordN, hc]
      rw [hc] at k1
      rw [e]
      clear e hl hc
      go_enter Try.func33, Try.ntmps33
      go_wp2_with (first
        | (go_at_call 40; refine (k1 _).mono ?_; rintro e w' ⟨rfl, rfl⟩))
      go_ret
      exact ⟨rfl, rfl⟩

theorem ext_drop (s : ByteArray) (k : Nat) : (s.extract k s.size).data.toList = s.data.toList.drop k := by
  have := Lib.extract_toList s k s.size
  rw [Lib.toList_data] at this
  rw [this, List.take_of_length_le (by rw [List.length_drop, ← size_list]; exact Nat.le_refl _)]
/-- the signs, the longer ones first -/
def sg : Nat → ByteArray
  | 0 => ⟨#[60, 61]⟩ | 1 => ⟨#[62, 61]⟩ | 2 => ⟨#[43]⟩ | 3 => ⟨#[45]⟩ | 4 => ⟨#[42]⟩ | 5 => ⟨#[47]⟩ | 6 => ⟨#[44]⟩ | 7 => ⟨#[58]⟩ | 8 => ⟨#[59]⟩ | 9 => ⟨#[61]⟩ | 10 => ⟨#[40]⟩ | 11 => ⟨#[41]⟩ | 12 => ⟨#[91]⟩ | 13 => ⟨#[93]⟩ | _ => ⟨#[]⟩
def tab : Array Value := #[.string ⟨#[60, 61]⟩, .string ⟨#[62, 61]⟩, .string ⟨#[43]⟩, .string ⟨#[45]⟩, .string ⟨#[42]⟩, .string ⟨#[47]⟩, .string ⟨#[44]⟩, .string ⟨#[58]⟩, .string ⟨#[59]⟩, .string ⟨#[61]⟩, .string ⟨#[40]⟩, .string ⟨#[41]⟩, .string ⟨#[91]⟩, .string ⟨#[93]⟩]
theorem sg_none (l : List UInt8) (h : ∀ j, j < 14 → Lib.hasPrefix l (sg j).data.toList = false) : Tk.signN l = 0 := by
  cases l with
  | nil => rfl
  | cons c l =>
    have g := fun j hj => h j hj
    have h0 := g 0 (by decide); have h1 := g 1 (by decide); have h2 := g 2 (by decide); have h3 := g 3 (by decide); have h4 := g 4 (by decide); have h5 := g 5 (by decide); have h6 := g 6 (by decide)
    have h7 := g 7 (by decide); have h8 := g 8 (by decide); have h9 := g 9 (by decide); have h10 := g 10 (by decide); have h11 := g 11 (by decide); have h12 := g 12 (by decide); have h13 := g 13 (by decide)
    clear g h
    cases l with
    | nil =>
      simp [Lib.hasPrefix, sg, List.isPrefixOf] at *
      simp [Tk.signN, Tk.sign1]
      grind
    | cons d l =>
      simp [Lib.hasPrefix, sg, List.isPrefixOf] at *
      simp [Tk.signN, Tk.sign1]
      grind
theorem sg_hit (l : List UInt8) (k : Nat) (hk : k < 14) (h : ∀ j, j < k → Lib.hasPrefix l (sg j).data.toList = false) (hh : Lib.hasPrefix l (sg k).data.toList = true) : Tk.signN l = (sg k).size := by
  cases l with
  | nil =>
    have : k = 0 ∨ k = 1 ∨ k = 2 ∨ k = 3 ∨ k = 4 ∨ k = 5 ∨ k = 6 ∨ k = 7 ∨ k = 8 ∨ k = 9 ∨ k = 10 ∨ k = 11 ∨ k = 12 ∨ k = 13 := by omega
    rcases this with rfl | rfl | rfl | rfl | rfl | rfl | rfl | rfl | rfl | rfl | rfl | rfl | rfl | rfl <;> cases hh
  | cons c l =>
    by_cases h2 : (c == 60 || c == 62) && l.head? == some 61
    · have e : Tk.signN (c :: l) = 2 := by simp only [Tk.signN, h2, if_true]
      rw [e]
      have hc : c = 60 ∨ c = 62 := by simp at h2; exact h2.1
      have hl : ∃ m, l = 61 :: m := by
        cases l with
        | nil => simp at h2
        | cons d m => simp at h2; exact ⟨m, by rw [h2.2]⟩
      obtain ⟨m, rfl⟩ := hl
      rcases hc with rfl | rfl
      · have : ¬ 0 < k := fun hz => by have := h 0 hz; cases this
        obtain rfl : k = 0 := by omega
        rfl
      · have : ¬ 1 < k := fun hz => by have := h 1 hz; cases this
        have : k = 0 ∨ k = 1 := by omega
        rcases this with rfl | rfl
        · cases hh
        · rfl
    · have e : Tk.signN (c :: l) = if Tk.sign1 c then 1 else 0 := by simp only [Tk.signN]; rw [if_neg h2]
      rw [e]
      have : k = 0 ∨ k = 1 ∨ k = 2 ∨ k = 3 ∨ k = 4 ∨ k = 5 ∨ k = 6 ∨ k = 7 ∨ k = 8 ∨ k = 9 ∨ k = 10 ∨ k = 11 ∨ k = 12 ∨ k = 13 := by omega
      rcases this with rfl | rfl | rfl | rfl | rfl | rfl | rfl | rfl | rfl | rfl | rfl | rfl | rfl | rfl
      case inl =>
        exfalso; apply h2
        cases l with
        | nil => simp [Lib.hasPrefix, sg, List.isPrefixOf] at hh
        | cons d m => simp [Lib.hasPrefix, sg, List.isPrefixOf] at hh; simp [← hh.1, ← hh.2]
      case inr.inl =>
        exfalso; apply h2
        cases l with
        | nil => simp [Lib.hasPrefix, sg, List.isPrefixOf] at hh
        | cons d m => simp [Lib.hasPrefix, sg, List.isPrefixOf] at hh; simp [← hh.1, ← hh.2]
      all_goals
        simp [Lib.hasPrefix, sg, List.isPrefixOf] at hh
        rw [← hh]
        rfl
theorem sg_size {k : Nat} (hk : k < 14) : (sg k).size ≤ 2 := by
  have : k = 0 ∨ k = 1 ∨ k = 2 ∨ k = 3 ∨ k = 4 ∨ k = 5 ∨ k = 6 ∨ k = 7 ∨ k = 8 ∨ k = 9 ∨ k = 10 ∨ k = 11 ∨ k = 12 ∨ k = 13 := by omega
  rcases this with rfl | rfl | rfl | rfl | rfl | rfl | rfl | rfl | rfl | rfl | rfl | rfl | rfl | rfl <;> decide

end Go.Proofs.Ytegfjndlkjfepaa
