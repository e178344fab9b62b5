/- The bits of 0 ahead of a part. -/
import Derived.Test.YtbcipningfdgoaaBase
import Derived.Test.YtbcipningfdgoaaLay
namespace Go.Proofs.Ytbcipningfdgoaa
open Go Go.Proofs Go.RowKit Go.Shelf Nu

theorem bitLenAux_none (f : Nat) : Lib.bitLenAux f 0 = 0 := by cases f <;> simp [Lib.bitLenAux]
theorem bitLenAux_spec : ∀ (f x : Nat), x < 2 ^ f → x < 2 ^ Lib.bitLenAux f x ∧ (x ≠ 0 → 1 ≤ Lib.bitLenAux f x ∧ 2 ^ (Lib.bitLenAux f x - 1) ≤ x)
  | 0, x, h => by
    obtain rfl : x = 0 := by simpa using h
    simp [Lib.bitLenAux]
  | f + 1, x, h => by
    rw [Lib.bitLenAux]
    split
    · rename_i h0; subst h0; simp
    · rename_i h0
      obtain ⟨h1, h2⟩ := bitLenAux_spec f (x / 2) (by rw [Nat.pow_succ] at h; omega)
      by_cases h3 : x / 2 = 0
      · rw [h3, bitLenAux_none]
        simp; omega
      · obtain ⟨h4, h5⟩ := h2 h3
        generalize Lib.bitLenAux f (x / 2) = k at *
        obtain ⟨j, rfl⟩ : ∃ j, k = j + 1 := ⟨k - 1, by omega⟩
        rw [Nat.add_sub_cancel] at h5
        rw [Nat.add_comm 1, Nat.add_sub_cancel]
        refine ⟨?_, fun _ => ⟨by omega, ?_⟩⟩
        · rw [Nat.pow_succ]; omega
        · rw [Nat.pow_succ]; omega

theorem lz_any (T : Nat) (h0 : 0 < T) (h1 : T < 4294967296) : ∃ sh : Nat, sh ≤ 31 ∧ 2147483648 ≤ T * 2 ^ sh ∧ T * 2 ^ sh < 4294967296 ∧
    ∀ W, Calls Try.prog 56 #[.int .u32 T] W fun e w' => e = .returned (.int .i64 sh) ∧ w' = W := by
  have hs := bitLenAux_spec 64 T (by omega)
  have hk := Any.bits_LeadingZeros32 Ytbcipningfdgoaa.lzL (T : Int)
  have hle := Any.bitLen_le32 (T : Int) (by omega) (by omega)
  have e : Lib.bitLen ((T : Int)).toNat = Lib.bitLenAux 64 T := rfl
  rw [e] at hk hle
  obtain ⟨h2, h3⟩ := hs
  obtain ⟨h4, h5⟩ := h3 (by omega)
  generalize Lib.bitLenAux 64 T = k at *
  obtain ⟨j, rfl⟩ : ∃ j, k = j + 1 := ⟨k - 1, by omega⟩
  rw [Nat.add_sub_cancel] at h5
  refine ⟨31 - j, by omega, ?_, ?_, fun W => ?_⟩
  · have := Nat.mul_le_mul_right (2 ^ (31 - j)) h5
    rw [← Nat.pow_add, show j + (31 - j) = 31 by omega] at this
    exact this
  · have := Nat.mul_lt_mul_of_pos_right h2 (show 0 < 2 ^ (31 - j) from Nat.pow_pos (by decide))
    rw [← Nat.pow_add, show j + 1 + (31 - j) = 32 by omega] at this
    exact this
  · have := hk W (by omega) (by omega)
    rw [show (32 : Int) - ((j + 1 : Nat) : Int) = ((31 - j : Nat) : Int) by omega] at this
    exact this

end Go.Proofs.Ytbcipningfdgoaa
