/- Numbers of 64 bits: what a mask leaves, what stands side by side, what a difference that goes below 0 makes. -/
import Derived.Laws.Bits64
import Derived.Laws.Bits64b
import Derived.Laws.BitsAllLaws
namespace Go.Proofs.YtmbnojkciikobaaGreatDoor
open Go

theorem and_top (a : Nat) (h : a < 18446744073709551616) : bits BinOp.and IntKind.u64 (a : Int) 4294967295 = ((a % 4294967296 : Nat) : Int) := by
  have := bits_and_u64_nat a 4294967295 h (by decide)
  rw [show ((4294967295 : Nat) : Int) = 4294967295 from rfl] at this
  rw [this, show (4294967295 : Nat) = 2 ^ 32 - 1 from rfl, Nat.and_two_pow_sub_one_eq_mod]
theorem or_side (a b i : Nat) (hb : b < 2 ^ i) (h : 2 ^ i * a + b < 18446744073709551616) : bits BinOp.or IntKind.u64 ((2 ^ i * a : Nat) : Int) (b : Int) = ((2 ^ i * a + b : Nat) : Int) := by
  rw [bits_or_u64_nat _ _ (by omega) (by omega), Nat.two_pow_add_eq_or_of_lt hb]
theorem or_side' (a b i : Nat) (hb : b < 2 ^ i) (h : 2 ^ i * a + b < 18446744073709551616) : bits BinOp.or IntKind.u64 (b : Int) ((2 ^ i * a : Nat) : Int) = ((2 ^ i * a + b : Nat) : Int) := by
  rw [bits_or_u64_nat _ _ (by omega) (by omega), Nat.two_pow_add_eq_or_of_lt hb, Nat.or_comm]

theorem w64_of (n : Nat) (h : n < 18446744073709551616) : IntKind.u64.wrap (n : Int) = (n : Int) := by rw [IntKind.wrap_u64]; omega
theorem w32_of (n : Nat) (h : n < 4294967296) : IntKind.u32.wrap (n : Int) = (n : Int) := by rw [IntKind.wrap_u32']; omega
theorem or_shl (n x : Nat) (hn : n < 4294967296) (hx : x < 4294967296) : bits BinOp.or IntKind.u64 ((n : Int) * 4294967296) (x : Int) = ((n * 4294967296 + x : Nat) : Int) := by
  have := or_side n x 32 hx (by omega)
  rw [show ((2 ^ 32 * n : Nat) : Int) = (n : Int) * 4294967296 by omega] at this
  rw [this]; omega

theorem sub_step {al ml bo : Nat} (h1 : al < 4294967296) (h2 : ml < 4294967296) (h3 : bo ≤ 1) :
    ∃ d : Nat, IntKind.u64.wrap (IntKind.u64.wrap ((al : Int) - (ml : Int)) - (bo : Int)) = (d : Int) ∧ d < 18446744073709551616 ∧ (al : Int) - ml - bo = (d % 4294967296 : Nat) - 4294967296 * (d / 9223372036854775808 : Nat) ∧ d / 9223372036854775808 ≤ 1 := by
  rw [IntKind.wrap_u64, IntKind.wrap_u64]
  by_cases h : ml + bo ≤ al
  · exact ⟨al - ml - bo, by omega, by omega, by omega, by omega⟩
  · exact ⟨18446744073709551616 + al - ml - bo, by omega, by omega, by omega, by omega⟩

theorem mul_bound {x t : Nat} (hx : x < 4294967296) (ht : t < 4294967296) : ∃ P : Nat, (x : Int) * (t : Int) = (P : Int) ∧ P = x * t ∧ P ≤ 18446744065119617025 :=
  ⟨x * t, by push_cast; rfl, rfl, Nat.le_trans (Nat.mul_le_mul (show x ≤ 4294967295 by omega) (show t ≤ 4294967295 by omega)) (by decide)⟩
end Go.Proofs.YtmbnojkciikobaaGreatDoor
