/- Tokens: names. -/
import Derived.Test.YtegfjndlkjfepaaTkB
namespace Go.Proofs.Ytegfjndlkjfepaa
open Go Go.Proofs Go.RowKit Go.Shelf

/-- the language's own words -/
def own8 (l : List UInt8) : Bool := l == [109, 111, 115, 116] || l == [108, 101, 97, 115, 116] || l == [115, 117, 109] || l == [114, 111, 119, 115] || l == [118, 97, 114, 115] || l == [119, 104, 111, 108, 101] || l == [102, 114, 101, 101] || l == [101, 110, 100]
set_option maxRecDepth 100000 in
set_option maxHeartbeats 4000000 in
theorem ofLanguage_any (s : ByteArray) (w : World) : Calls Try.prog 34 #[.string s] w fun e w' => e = .returned (.bool (own8 s.data.toList)) ∧ w = w' := by
  go_enter Try.func34, Try.ntmps34
  go_wp2
  all_goals
    go_ret
    exact ⟨ret_bool (by simp_all [own8, Lib.toList_data]), rfl⟩

/-- may it be a name? -/
def nameB (l : List UInt8) : Bool := !l.isEmpty && decide (l.length ≤ 32) && (wordN l == l.length) && !own8 l
theorem bytes_empty (s : ByteArray) (h : s.size = 0) : s = ⟨#[]⟩ := by apply ByteArray.ext; exact Array.eq_empty_of_size_eq_zero h
set_option maxRecDepth 100000 in
set_option maxHeartbeats 4000000 in
theorem name_any (s : ByteArray) (w : World) (hs : s.size ≤ 1000000) : Calls Try.prog 17 #[.string s] w fun e w' => e = .returned (.bool (nameB s.data.toList)) ∧ w = w' := by
  by_cases h0 : s.size = 0
  · obtain rfl := bytes_empty s h0
    go_enter Try.func17, Try.ntmps17
    go_wp2
    go_ret
    exact ⟨ret_bool (by rfl), rfl⟩
  have hlt : 0 < s.size := by omega
  obtain ⟨t, ht⟩ := list_cons s hlt
  have hne : (s.toList == ([] : List UInt8)) = false := by rw [Lib.toList_data, ht]; rfl
  have hne1 : s.toList.isEmpty = false := by rw [Lib.toList_data, ht]; rfl
  have hne2 : ¬ s.toList = [] := by rw [Lib.toList_data, ht]; simp
  have hne3 : ¬ s = ⟨#[]⟩ := by rintro rfl; exact h0 rfl
  have k1 := fun W => wordSize_any s W hs
  have k2 := fun W => ofLanguage_any s W
  have e : nameB s.data.toList = (decide (s.size ≤ 32) && (wordN s.data.toList == s.size) && !own8 s.data.toList) := by
    unfold nameB
    rw [← size_list, ht]; rfl
  rw [e]
  obtain ⟨n, hn⟩ : ∃ n, n = wordN s.data.toList := ⟨_, rfl⟩
  obtain ⟨b, hb⟩ : ∃ b, b = own8 s.data.toList := ⟨_, rfl⟩
  rw [← hn] at k1 ⊢
  rw [← hb] at k2 ⊢
  clear e hn hb h0 ht
  by_cases h1 : s.size ≤ 32
  · by_cases h2 : n = s.size
    · subst h2
      have d2 : ((s.size : Int) == (s.size : Int)) = true := by simp
      cases b with
      | true =>
        go_enter Try.func17, Try.ntmps17
        go_wp2_with (first
          | (go_at_call 33; refine (k1 _).mono ?_; rintro e w' ⟨rfl, rfl⟩)
          | (go_at_call 34; refine (k2 _).mono ?_; rintro e w' ⟨rfl, rfl⟩))
        go_ret
        exact ⟨ret_bool (by simp), rfl⟩
      | false =>
        go_enter Try.func17, Try.ntmps17
        go_wp2_with (first
          | (go_at_call 33; refine (k1 _).mono ?_; rintro e w' ⟨rfl, rfl⟩)
          | (go_at_call 34; refine (k2 _).mono ?_; rintro e w' ⟨rfl, rfl⟩))
        go_ret
        exact ⟨ret_bool (by simp [h1]), rfl⟩
    · have d2 : ((n : Int) == (s.size : Int)) = false := by simp; omega
      have d3 : (n == s.size) = false := by simp [h2]
      rw [d3]
      clear h2 d3
      go_enter Try.func17, Try.ntmps17
      go_wp2_with (first
        | (go_at_call 33; refine (k1 _).mono ?_; rintro e w' ⟨rfl, rfl⟩)
        | (go_at_call 34; refine (k2 _).mono ?_; rintro e w' ⟨rfl, rfl⟩))
      go_ret
      exact ⟨ret_bool (by simp), rfl⟩
  · have d1 : decide (s.size ≤ 32) = false := by simp; omega
    have d2 : decide ((s.size : Int) ≤ 32) = false := by simp; omega
    rw [d1]
    clear h1 d1
    go_enter Try.func17, Try.ntmps17
    go_wp2
    go_ret
    exact ⟨ret_bool (by simp), rfl⟩
end Go.Proofs.Ytegfjndlkjfepaa
