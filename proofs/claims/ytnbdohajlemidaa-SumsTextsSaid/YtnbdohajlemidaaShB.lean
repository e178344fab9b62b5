/- Sums: numbers of 32 bits and bytes, as the walk meets them. -/
import Derived.Test.YtnbdohajlemidaaProg
import Derived.Test.YtnbdohajlemidaaShA
import Derived.WalkKit
import Derived.WalkSpells
import Derived.WalkLawsBesides
import Derived.LoopTactic
import Derived.Lib.Hide
import Derived.Shelf.Abstract
import Derived.Outline
import Derived.Laws.BitsAllLaws
namespace Go.Proofs.Ytnbdohajlemidaa
open Go Go.Proofs Go.RowKit Go.Shelf

/-- a number of 32 bits, a byte -/
def iu (x : UInt32) : Int := (x.toNat : Int)
def ib (c : UInt8) : Int := (c.toNat : Int)
def uv (x : UInt32) : Value := .int .u32 (iu x)
def bv (c : UInt8) : Value := .int .u8 (ib c)

theorem iu_lt (x : UInt32) : 0 ≤ iu x ∧ iu x < 4294967296 := ⟨Int.natCast_nonneg _, by have := x.toNat_lt; unfold iu; omega⟩
theorem ib_lt (c : UInt8) : 0 ≤ ib c ∧ ib c < 256 := ⟨Int.natCast_nonneg _, by have := c.toNat_lt; unfold ib; omega⟩
theorem iu_inj {x y : UInt32} (h : iu x = iu y) : x = y := UInt32.toNat_inj.1 (by unfold iu at h; omega)
theorem ib_inj {x y : UInt8} (h : ib x = ib y) : x = y := UInt8.toNat_inj.1 (by unfold ib at h; omega)
theorem iu_add (x y : UInt32) : IntKind.u32.wrap (iu x + iu y) = iu (x + y) := by
  rw [IntKind.wrap_u32']; unfold iu; rw [UInt32.toNat_add]; omega
theorem iu_xor (x y : UInt32) : bits .xor .u32 (iu x) (iu y) = iu (x ^^^ y) := by
  unfold iu; rw [u32_xor_nat _ _ x.toNat_lt y.toNat_lt, UInt32.toNat_xor]
theorem iu_and (x y : UInt32) : bits .and .u32 (iu x) (iu y) = iu (x &&& y) := by
  unfold iu; rw [u32_and_nat _ _ x.toNat_lt y.toNat_lt, UInt32.toNat_and]
theorem iu_or (x y : UInt32) : bits .or .u32 (iu x) (iu y) = iu (x ||| y) := by
  unfold iu; rw [u32_or_nat _ _ x.toNat_lt y.toNat_lt, UInt32.toNat_or]
theorem iu_not (x : UInt32) : bits .xor .u32 4294967295 (iu x) = iu (~~~ x) := by
  have e : (4294967295 : Int) = iu 4294967295 := rfl
  rw [e, iu_xor]
  congr 1
theorem iu_shr (x : UInt32) (n : Nat) (hn : n < 32) : iu x / 2 ^ n = iu (x >>> UInt32.ofNat n) := by
  unfold iu
  rw [UInt32.toNat_shiftRight, UInt32.toNat_ofNat', Nat.mod_eq_of_lt (a := n) (by omega), Nat.mod_eq_of_lt hn, Nat.shiftRight_eq_div_pow, Int.natCast_ediv, Int.natCast_pow]
  rfl
theorem iu_shl (x : UInt32) (n : Nat) (hn : n < 32) : IntKind.u32.wrap (iu x * 2 ^ n) = iu (x <<< UInt32.ofNat n) := by
  rw [IntKind.wrap_u32']
  unfold iu
  rw [UInt32.toNat_shiftLeft, UInt32.toNat_ofNat', Nat.mod_eq_of_lt (a := n) (by omega), Nat.mod_eq_of_lt hn, Nat.shiftLeft_eq, Int.natCast_emod, Int.natCast_mul, Int.natCast_pow]
  rfl
theorem iu_byte (c : UInt8) : IntKind.u32.wrap (ib c) = iu c.toUInt32 := by
  rw [IntKind.wrap_u32']; unfold iu ib; rw [UInt8.toNat_toUInt32]; have := c.toNat_lt; omega
theorem ib_low (x : UInt32) : IntKind.u8.wrap (iu x) = ib x.toUInt8 := by
  rw [IntKind.wrap_u8']; unfold iu ib; rw [UInt32.toNat_toUInt8]; omega
theorem ib_xor (x y : UInt8) : bits .xor .u8 (ib x) (ib y) = ib (x ^^^ y) := by
  unfold ib; rw [u8_xor_nat _ _ x.toNat_lt y.toNat_lt, UInt8.toNat_xor]
theorem iu_zero : (0 : Int) = iu 0 := rfl
theorem ret_u32 {a b : Int} (h : a = b) : Ending.returned (.int .u32 a) = .returned (.int .u32 b) := by rw [h]
theorem ret_bool {a b : Bool} (h : a = b) : Ending.returned (.bool a) = .returned (.bool b) := by rw [h]

end Go.Proofs.Ytnbdohajlemidaa
