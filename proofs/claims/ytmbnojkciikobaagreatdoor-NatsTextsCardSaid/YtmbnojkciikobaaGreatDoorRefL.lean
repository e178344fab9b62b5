/- The document's answer: a text's digits, read by hand. -/
import Derived.Test.YtmbnojkciikobaaGreatDoorRefG
import Derived.Laws.Strings
namespace Go.Proofs.YtmbnojkciikobaaGreatDoor
open Go Go.Proofs Go.RowKit Go.Shelf Nu

attribute [local go_sem] Oper.semAt_some

theorem byte_at (s : ByteArray) (k : Nat) (h : k < s.size) (W : World) : (Instr.index 9 (.string s) (.int .i64 (k : Int))).run Tryz.prog W = .ok (.int .u8 (bt s k : Nat)) W := by
  rw [run_index_string _ _ _ _ _ (by kernel_rfl), dif_pos ⟨by omega, by omega⟩]
  unfold bt
  rw [List.getD_eq_getElem?_getD, List.getElem?_eq_getElem (by simpa using h)]
  rfl
theorem text_none (s : ByteArray) : s.toList.isEmpty = decide (s.size = 0) := by
  rw [Lib.toList_data]
  rcases s with ⟨⟨l⟩⟩
  cases l <;> simp [ByteArray.size]

def allDig (s : ByteArray) : Prop := (∀ j, j < s.size → 48 ≤ bt s j ∧ bt s j ≤ 57) ∧ 0 < s.size

set_option maxRecDepth 100000 in
set_option maxHeartbeats 2000000 in
theorem rdigits_any (s : ByteArray) (w : World) (hs : s.size ≤ 2000000) (R : Bool) (hR : R = true ↔ allDig s) :
    Calls Tryz.prog 127 #[.string s] w fun e w' => e = .returned (.bool R) ∧ w' = w := by
  have HR := Lib.hid hR
  obtain ⟨N, hN⟩ : ∃ N, N = s.size := ⟨_, rfl⟩
  have HN := Lib.hid hN
  have hN1 : N ≤ 2000000 := by omega
  have hlen : ∀ W : World, (Builtin.len_ #[9] 3 #[.string s]).run Tryz.prog W = .ok (.int .i64 (N : Int)) W := fun W => by rw [run_len_string W _ _ s (by kernel_rfl), hN]; rfl
  have HT := Lib.hid (text_none s)
  have hba := Lib.hid (byte_at s)
  clear hR hN hs
  go_enter Tryz.func127, Tryz.ntmps127
  go_wp2
  go_loopg [3] N (fun g x wr => ∃ k : Nat, k + g = N ∧ x = .int .i64 k ∧ Hid (∀ j, j < k → 48 ≤ bt s j ∧ bt s j ≤ 57) ∧ wr = w)
  case atStart => exact ⟨0, by omega, rfl, Lib.hid fun j hj => by omega, rfl⟩
  case round =>
    obtain ⟨k, hk, rfl, hd, rfl⟩ := hrel
    by_cases hlt : k < N
    · obtain ⟨c, hce⟩ : ∃ c, c = bt s k := ⟨_, rfl⟩
      have hb := hba.out k (by have := HN.out; omega)
      rw [← hce] at hb
      have HC := Lib.hid hce
      have hc256 : c < 256 := by rw [hce]; exact bt_lt s k
      clear hce
      by_cases h1 : c < 48
      · go_wp2
        go_ret
        have : R = false := by
          cases R with
          | false => rfl
          | true => have := (HR.out.1 rfl).1 k (by have := HN.out; omega); have := HC.out; omega
        exact ⟨by rw [this]; rfl, rfl⟩
      · by_cases h2 : 57 < c
        · go_wp2
          go_ret
          have : R = false := by
            cases R with
            | false => rfl
            | true => have := (HR.out.1 rfl).1 k (by have := HN.out; omega); have := HC.out; omega
          exact ⟨by rw [this]; rfl, rfl⟩
        · go_wp2
          go_roundg (N - (k + 1))
          case measure => omega
          case rel =>
            refine ⟨k + 1, by omega, by simp, Lib.hid fun j hj => ?_, rfl⟩
            rcases Nat.lt_or_ge j k with h | h
            · exact hd.out j h
            · obtain rfl : j = k := by omega
              have := HC.out
              omega
    · obtain rfl : k = N := by omega
      obtain ⟨B, hB⟩ : ∃ B, B = s.toList.isEmpty := ⟨_, rfl⟩
      have eR : R = !B := by
        rw [hB, HT.out]
        have h1 := HR.out
        have h2 := HN.out
        unfold allDig at h1
        by_cases h0 : s.size = 0
        · cases R with
          | false => simp [h0]
          | true => have := (h1.1 rfl).2; omega
        · cases R with
          | true => simp [h0]
          | false => exact absurd (h1.2 ⟨fun j hj => hd.out j (by omega), by omega⟩) (by simp)
      have ER := Lib.hid eR
      have eB := hB.symm
      clear hB eR
      go_wp2
      go_ret
      rw [ER.out]
      exact ⟨by simp, rfl⟩

end Go.Proofs.YtmbnojkciikobaaGreatDoor
