/- TokensNames: the walk. -/
import Derived.Test.YtfnblnemdepimaaTkX
import Derived.Deep.LoopGhost
import Derived.Below
import Derived.Laws.Rows
namespace Go.Proofs.Ytfnblnemdepimaa
open Go Go.Proofs Go.RowKit Go.Shelf
set_option linter.unusedVariables false
set_option linter.unusedSimpArgs false

set_option maxHeartbeats 4000000 in
theorem beyond_one {W : World} {B n : Nat} (hc : W.cell? ⟨B, 0, none⟩ = some (.int .i64 (n : Int))) (hn : n ≤ maxLen) :
    Calls Try.prog 4 #[.slice (some ⟨B, 0, none⟩) 1 1] W fun e w' => e = .returned (.bool (decide (1048576 < n))) ∧ W = w' := by
  unfold maxLen at hn
  by_cases h : 1048576 < n
  · have h1 : decide (1048576 < n) = true := by simpa using h
    rw [h1]
    have h2 : decide ((1048576 : Int) < (n : Int)) = true := by simp; omega
    clear h
    go_enter Try.func4, Try.ntmps4
    go_wp2
    go_loopg [3, 4] 1 (fun g a i wx => g = 1 ∧ a = .int .i64 0 ∧ i = .int .i64 0 ∧ W = wx)
    case atStart => exact ⟨rfl, rfl, rfl, rfl⟩
    case round =>
      obtain ⟨rfl, rfl, rfl, rfl⟩ := hrel
      go_wp2
      go_ret
      exact ⟨rfl, rfl⟩
  · have h1 : decide (1048576 < n) = false := by simpa using h
    rw [h1]
    have h2 : decide ((1048576 : Int) < (n : Int)) = false := by simp; omega
    clear h
    go_enter Try.func4, Try.ntmps4
    go_wp2
    go_loopg [3, 4] 1 (fun g a i wx => ∃ k : Nat, k + g = 1 ∧ (k = 0 → a = .int .i64 0) ∧ (k = 1 → a = .int .i64 (n : Int)) ∧ i = .int .i64 (k : Int) ∧ W = wx)
    case atStart => exact ⟨0, rfl, fun _ => rfl, by omega, rfl, rfl⟩
    case round =>
      obtain ⟨k, hk, ha, hb, rfl, rfl⟩ := hrel
      by_cases h0 : k = 0
      · subst h0
        obtain rfl := ha rfl
        clear hb
        go_wp2
        go_roundg 0
        case measure => omega
        case rel => exact ⟨1, rfl, by omega, fun _ => by first | rfl | simp, by first | rfl | simp, rfl⟩
      · obtain rfl : k = 1 := by omega
        obtain rfl := hb rfl
        clear ha
        go_wp2
        go_ret
        exact ⟨rfl, rfl⟩

def lit8 : Nat → List UInt8
  | 0 => [109, 111, 115, 116] | 1 => [108, 101, 97, 115, 116] | 2 => [115, 117, 109] | 3 => [114, 111, 119, 115] | 4 => [118, 97, 114, 115] | 5 => [119, 104, 111, 108, 101] | 6 => [102, 114, 101, 101] | _ => [101, 110, 100]
theorem own_none {l : List UInt8} (h : ∀ j, j < 8 → l ≠ lit8 j) : own8 l = false := by
  have h0 := h 0 (by omega); have h1 := h 1 (by omega); have h2 := h 2 (by omega); have h3 := h 3 (by omega); have h4 := h 4 (by omega); have h5 := h 5 (by omega); have h6 := h 6 (by omega); have h7 := h 7 (by omega)
  simp only [lit8] at h0 h1 h2 h3 h4 h5 h6 h7
  simp [own8, h0, h1, h2, h3, h4, h5, h6, h7]
theorem own_hit {l : List UInt8} {j : Nat} (hj : j < 8) (h : l = lit8 j) : own8 l = true := by
  have : j = 0 ∨ j = 1 ∨ j = 2 ∨ j = 3 ∨ j = 4 ∨ j = 5 ∨ j = 6 ∨ j = 7 := by omega
  subst h
  rcases this with rfl | rfl | rfl | rfl | rfl | rfl | rfl | rfl <;> rfl

set_option maxRecDepth 100000 in
set_option maxHeartbeats 8000000 in
theorem rname_any (s : ByteArray) (w : World) (hs : s.size ≤ 2000000) : Calls Try.prog 6 #[.string s] w fun e w' => e = .returned (.bool (nameB s.data.toList)) ∧ Below w.heap.size w w' := by
  by_cases h0 : s.size = 0
  · obtain rfl := bytes_empty s h0
    go_enter Try.func6, Try.ntmps6
    go_wp2
    go_ret
    exact ⟨ret_bool (by rfl), Below.refl _ _⟩
  have hlt : 0 < s.size := by omega
  obtain ⟨t, ht⟩ := list_cons s hlt
  have hne : (s.toList == ([] : List UInt8)) = false := by rw [Lib.toList_data, ht]; rfl
  have hne1 : s.toList.isEmpty = false := by rw [Lib.toList_data, ht]; rfl
  have hne2 : ¬ s.toList = [] := by rw [Lib.toList_data, ht]; simp
  have hne3 : ¬ s = ⟨#[]⟩ := by rintro rfl; exact h0 rfl
  have k1 := fun W => rword_any s W hs
  have e : nameB s.data.toList = (decide (s.size ≤ 32) && (wordN s.data.toList == s.size) && !own8 s.data.toList) := by
    unfold nameB
    rw [← size_list, ht]; rfl
  rw [e]
  obtain ⟨n, hn⟩ : ∃ n, n = wordN s.data.toList := ⟨_, rfl⟩
  rw [← hn] at k1 ⊢
  clear e hn h0 ht
  by_cases h1 : s.size ≤ 32
  · by_cases h2 : n = s.size
    · subst h2
      have d1 : decide ((32 : Int) < (s.size : Int)) = false := by simp; omega
      have d2 : ((s.size : Int) == (s.size : Int)) = true := by simp
      have d3 : ((s.size : Int) != (s.size : Int)) = false := by simp
      go_enter Try.func6, Try.ntmps6
      go_wp2_with (first
        | (go_at_call 9; refine (k1 _).mono ?_; rintro e w' ⟨rfl, rfl⟩))
      clear hne hne1 hne2 hne3
      go_loopg [4] 8 (fun g i wx => ∃ k : Nat, k + g = 8 ∧ i = .int .i64 (k : Int) ∧ Hid (∀ j, j < k → s.data.toList ≠ lit8 j) ∧ wx = w.alloc (.cells #[.string ⟨#[109, 111, 115, 116]⟩, .string ⟨#[108, 101, 97, 115, 116]⟩, .string ⟨#[115, 117, 109]⟩, .string ⟨#[114, 111, 119, 115]⟩, .string ⟨#[118, 97, 114, 115]⟩, .string ⟨#[119, 104, 111, 108, 101]⟩, .string ⟨#[102, 114, 101, 101]⟩, .string ⟨#[101, 110, 100]⟩] 9))
      case atStart => exact ⟨0, rfl, rfl, Lib.hid (fun j hj => by omega), rfl⟩
      case round =>
        obtain ⟨k, hk, e4, H, rfl⟩ := hrel
        by_cases hkl : k < 8
        · by_cases hq : s.data.toList = lit8 k
          · have hown := own_hit hkl hq
            have hq2 : s.toList = lit8 k := by rw [Lib.toList_data]; exact hq
            have HO := Lib.hid hown
            clear hown hq
            have hk8 : k = 0 ∨ k = 1 ∨ k = 2 ∨ k = 3 ∨ k = 4 ∨ k = 5 ∨ k = 6 ∨ k = 7 := by omega
            rcases hk8 with rfl | rfl | rfl | rfl | rfl | rfl | rfl | rfl <;>
            · first | (obtain rfl : u4 = .int .i64 0 := e4) | (obtain rfl : u4 = .int .i64 1 := e4) | (obtain rfl : u4 = .int .i64 2 := e4) | (obtain rfl : u4 = .int .i64 3 := e4) | (obtain rfl : u4 = .int .i64 4 := e4) | (obtain rfl : u4 = .int .i64 5 := e4) | (obtain rfl : u4 = .int .i64 6 := e4) | (obtain rfl : u4 = .int .i64 7 := e4)
              simp only [lit8] at hq2
              go_wp2
              go_ret
              exact ⟨ret_bool (by rw [HO.out]; simp), (Below.refl _ _).alloc (Nat.le_refl _) _⟩
          · have hq2 : ¬ s.toList = lit8 k := by rw [Lib.toList_data]; exact hq
            have hq3 : (lit8 k == s.toList) = false := by simp; exact fun e => hq2 e.symm
            have hq4 : (s.toList == lit8 k) = false := by simpa using hq2
            have HQ := Lib.hid hq
            clear hq
            have hk8 : k = 0 ∨ k = 1 ∨ k = 2 ∨ k = 3 ∨ k = 4 ∨ k = 5 ∨ k = 6 ∨ k = 7 := by omega
            rcases hk8 with rfl | rfl | rfl | rfl | rfl | rfl | rfl | rfl <;>
            · first | (obtain rfl : u4 = .int .i64 0 := e4) | (obtain rfl : u4 = .int .i64 1 := e4) | (obtain rfl : u4 = .int .i64 2 := e4) | (obtain rfl : u4 = .int .i64 3 := e4) | (obtain rfl : u4 = .int .i64 4 := e4) | (obtain rfl : u4 = .int .i64 5 := e4) | (obtain rfl : u4 = .int .i64 6 := e4) | (obtain rfl : u4 = .int .i64 7 := e4)
              simp only [lit8] at hq2 hq3 hq4
              go_wp2
              go_roundg (8 - (8 - gk + 1))
              case measure => omega
              case rel => exact ⟨8 - gk + 1, by omega, by first | rfl | (congr 1; omega) | (simp; omega), Lib.hid (fun j hj => by
                by_cases e : j = 8 - gk
                · have := HQ.out; intro e2; apply this; rw [e2]; congr 1; omega
                · exact H.out j (by omega)), rfl⟩
        · obtain rfl : k = 8 := by omega
          obtain rfl : u4 = .int .i64 8 := e4
          go_wp2
          go_ret
          exact ⟨ret_bool (by rw [own_none H.out]; simp [h1]), (Below.refl _ _).alloc (Nat.le_refl _) _⟩
    · have d1 : decide ((32 : Int) < (s.size : Int)) = false := by simp; omega
      have d2 : ((n : Int) == (s.size : Int)) = false := by simp; omega
      have d3 : ((n : Int) != (s.size : Int)) = true := by simp; omega
      have d4 : (n == s.size) = false := by simp [h2]
      rw [d4]
      clear h2 d4
      go_enter Try.func6, Try.ntmps6
      go_wp2_with (first
        | (go_at_call 9; refine (k1 _).mono ?_; rintro e w' ⟨rfl, rfl⟩))
      go_ret
      exact ⟨ret_bool (by simp), Below.refl _ _⟩
  · have d1 : decide (s.size ≤ 32) = false := by simp; omega
    have d2 : decide ((32 : Int) < (s.size : Int)) = true := by simp; omega
    rw [d1]
    clear h1 d1
    go_enter Try.func6, Try.ntmps6
    go_wp2
    go_ret
    exact ⟨ret_bool (by simp), Below.refl _ _⟩

set_option maxHeartbeats 4000000 in
theorem names_any (s : ByteArray) (w : World) (hs : s.size ≤ maxLen) : Calls Try.prog 3 #[.string s] w fun e w' => e = .returned (.bool true) ∧ Below w.heap.size w w' := by
  have hbx := (Below.refl w.heap.size w).alloc (Nat.le_refl _) (.cells #[.int .i64 (s.size : Int)] 3)
  have HB := Lib.hid hbx
  clear hbx
  have kb := beyond_one (W := w.alloc (.cells #[.int .i64 (s.size : Int)] 3)) (B := w.heap.size) (n := s.size) (by rw [cell_of_row _ _ _ _ _ (0, 0) (heap_alloc_new w _)]; rfl) hs
  by_cases h : 1048576 < s.size
  · have h1 : decide (1048576 < s.size) = true := by simpa using h
    rw [h1] at kb
    clear h h1
    go_enter Try.func3, Try.ntmps3
    go_wp2_with (go_at_call 4; refine kb.mono ?_; clear kb; rintro e w' ⟨rfl, rfl⟩)
    go_ret
    exact ⟨rfl, HB.out⟩
  · have h1 : decide (1048576 < s.size) = false := by simpa using h
    rw [h1] at kb
    have k1 := fun W => name_any s W (by omega)
    have k2 := fun W => rname_any s W (by omega)
    obtain ⟨b, hb⟩ : ∃ b, b = nameB s.data.toList := ⟨_, rfl⟩
    rw [← hb] at k1 k2
    clear h h1 hb
    go_enter Try.func3, Try.ntmps3
    go_wp2_with (first
      | (go_at_call 4; refine kb.mono ?_; clear kb; rintro e w' ⟨rfl, rfl⟩)
      | (go_at_call 5; refine (k1 _).mono ?_; clear k1; rintro e w' ⟨rfl, rfl⟩)
      | (go_at_call 6; refine (k2 _).mono ?_; clear k2; rintro e w2 ⟨rfl, hb2⟩; have HB2 := Lib.hid (HB.out.trans (hb2.mono (by simp))); clear hb2))
    go_ret
    exact ⟨ret_bool (by simp), HB2.out⟩
end Go.Proofs.Ytfnblnemdepimaa
