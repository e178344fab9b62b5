/- Sums: numbers of 32 bits and bytes, as the walk meets them. -/
import Derived.Test.YtjlmhpokamdkhaaDoorProg
import Derived.Test.YtjlmhpokamdkhaaDoorShA
import Derived.WalkKit
import Derived.WalkSpells
import Derived.WalkLawsBesides
import Derived.LoopTactic
import Derived.Lib.Hide
import Derived.Shelf.Abstract
import Derived.Outline
import Derived.Laws.BitsAllLaws
namespace Go.Proofs.YtjlmhpokamdkhaaDoor
open Go Go.Proofs Go.RowKit Go.Shelf

/-- a number of 32 bits, a byte -/
def iu (x : UInt32) : Int := (x.toNat : Int)
def ib (c : UInt8) : Int := (c.toNat : Int)
def uv (x : UInt32) : Value := .int .u32 (iu x)
def bv (c : UInt8) : Value := .int .u8 (ib c)

theorem iu_lt (x : UInt32) : 0 ≤ iu x ∧ iu x < 4294967296 := ⟨Int.natCast_nonneg _, by have := x.toNat_lt; unfold iu; omega⟩
theorem ib_lt (c : UInt8) : 0 ≤ ib c ∧ ib c < 256 := ⟨Int.natCast_nonneg _, by have := c.toNat_lt; unfold ib; omega⟩
theorem iu_inj {x y : UInt32} (h : iu x = iu y) : x = y := UInt32.toNat_inj.1 (by unfold iu at h; omega)
theorem ib_inj {x y : UInt8} (h : ib x = ib y) : x = y := UInt8.toNat_inj.1 (by unfold ib at h; omega)
theorem iu_add (x y : UInt32) : IntKind.u32.wrap (iu x + iu y) = iu (x + y) := by
  rw [IntKind.wrap_u32']; unfold iu; rw [UInt32.toNat_add]; omega
theorem iu_xor (x y : UInt32) : bits .xor .u32 (iu x) (iu y) = iu (x ^^^ y) := by
  unfold iu; rw [u32_xor_nat _ _ x.toNat_lt y.toNat_lt, UInt32.toNat_xor]
theorem iu_and (x y : UInt32) : bits .and .u32 (iu x) (iu y) = iu (x &&& y) := by
  unfold iu; rw [u32_and_nat _ _ x.toNat_lt y.toNat_lt, UInt32.toNat_and]
theorem iu_or (x y : UInt32) : bits .or .u32 (iu x) (iu y) = iu (x ||| y) := by
  unfold iu; rw [u32_or_nat _ _ x.toNat_lt y.toNat_lt, UInt32.toNat_or]
theorem iu_not (x : UInt32) : bits .xor .u32 4294967295 (iu x) = iu (~~~ x) := by
  have e : (4294967295 : Int) = iu 4294967295 := rfl
  rw [e, iu_xor]
  congr 1
theorem iu_shr (x : UInt32) (n : Nat) (hn : n < 32) : iu x / 2 ^ n = iu (x >>> UInt32.ofNat n) := by
  unfold iu
  rw [UInt32.toNat_shiftRight, UInt32.toNat_ofNat', Nat.mod_eq_of_lt (a := n) (by omega), Nat.mod_eq_of_lt hn, Nat.shiftRight_eq_div_pow, Int.natCast_ediv, Int.natCast_pow]
  rfl
theorem iu_shl (x : UInt32) (n : Nat) (hn : n < 32) : IntKind.u32.wrap (iu x * 2 ^ n) = iu (x <<< UInt32.ofNat n) := by
  rw [IntKind.wrap_u32']
  unfold iu
  rw [UInt32.toNat_shiftLeft, UInt32.toNat_ofNat', Nat.mod_eq_of_lt (a := n) (by omega), Nat.mod_eq_of_lt hn, Nat.shiftLeft_eq, Int.natCast_emod, Int.natCast_mul, Int.natCast_pow]
  rfl
theorem iu_byte (c : UInt8) : IntKind.u32.wrap (ib c) = iu c.toUInt32 := by
  rw [IntKind.wrap_u32']; unfold iu ib; rw [UInt8.toNat_toUInt32]; have := c.toNat_lt; omega
theorem ib_low (x : UInt32) : IntKind.u8.wrap (iu x) = ib x.toUInt8 := by
  rw [IntKind.wrap_u8']; unfold iu ib; rw [UInt32.toNat_toUInt8]; omega
theorem ib_xor (x y : UInt8) : bits .xor .u8 (ib x) (ib y) = ib (x ^^^ y) := by
  unfold ib; rw [u8_xor_nat _ _ x.toNat_lt y.toNat_lt, UInt8.toNat_xor]
theorem iu_zero : (0 : Int) = iu 0 := rfl
theorem ret_u32 {a b : Int} (h : a = b) : Ending.returned (.int .u32 a) = .returned (.int .u32 b) := by rw [h]
theorem ret_bool {a b : Bool} (h : a = b) : Ending.returned (.bool a) = .returned (.bool b) := by rw [h]

set_option maxHeartbeats 2000000 in
theorem rot2 (x : UInt32) (w : World) : Calls Tryd.prog 38 #[.int .u32 (iu x), .int .i64 (-2)] w fun e w' => e = .returned (.int .u32 (iu (Sh.R x 2))) ∧ w = w' := by
  have h1 : bits .and .u64 (IntKind.u64.wrap (-2)) 31 = 30 := by decide +kernel
  have h2 : IntKind.u32.wrap (iu x * 2 ^ 30) = iu (x <<< UInt32.ofNat 30) := iu_shl x 30 (by decide)
  have h3 : iu x / 2 ^ 2 = iu (x >>> UInt32.ofNat 2) := iu_shr x 2 (by decide)
  simp only [Int.reducePow] at h2 h3
  go_enter Tryd.func38, Tryd.ntmps38
  go_wp2
  go_ret
  exact ⟨ret_u32 (iu_or _ _), rfl⟩
set_option maxHeartbeats 2000000 in
theorem turned2 (x : UInt32) (w : World) : Calls Tryd.prog 34 #[.int .u32 (iu x), .int .i64 2] w fun e w' => e = .returned (.int .u32 (iu (Sh.R x 2))) ∧ w = w' := by
  go_enter Tryd.func34, Tryd.ntmps34
  go_wp2_with (go_at_call 38; refine (rot2 x _).mono ?_; rintro e w' ⟨rfl, rfl⟩)
  go_ret
  exact ⟨rfl, rfl⟩
set_option maxHeartbeats 2000000 in
theorem rot6 (x : UInt32) (w : World) : Calls Tryd.prog 38 #[.int .u32 (iu x), .int .i64 (-6)] w fun e w' => e = .returned (.int .u32 (iu (Sh.R x 6))) ∧ w = w' := by
  have h1 : bits .and .u64 (IntKind.u64.wrap (-6)) 31 = 26 := by decide +kernel
  have h2 : IntKind.u32.wrap (iu x * 2 ^ 26) = iu (x <<< UInt32.ofNat 26) := iu_shl x 26 (by decide)
  have h3 : iu x / 2 ^ 6 = iu (x >>> UInt32.ofNat 6) := iu_shr x 6 (by decide)
  simp only [Int.reducePow] at h2 h3
  go_enter Tryd.func38, Tryd.ntmps38
  go_wp2
  go_ret
  exact ⟨ret_u32 (iu_or _ _), rfl⟩
set_option maxHeartbeats 2000000 in
theorem turned6 (x : UInt32) (w : World) : Calls Tryd.prog 34 #[.int .u32 (iu x), .int .i64 6] w fun e w' => e = .returned (.int .u32 (iu (Sh.R x 6))) ∧ w = w' := by
  go_enter Tryd.func34, Tryd.ntmps34
  go_wp2_with (go_at_call 38; refine (rot6 x _).mono ?_; rintro e w' ⟨rfl, rfl⟩)
  go_ret
  exact ⟨rfl, rfl⟩
set_option maxHeartbeats 2000000 in
theorem rot7 (x : UInt32) (w : World) : Calls Tryd.prog 38 #[.int .u32 (iu x), .int .i64 (-7)] w fun e w' => e = .returned (.int .u32 (iu (Sh.R x 7))) ∧ w = w' := by
  have h1 : bits .and .u64 (IntKind.u64.wrap (-7)) 31 = 25 := by decide +kernel
  have h2 : IntKind.u32.wrap (iu x * 2 ^ 25) = iu (x <<< UInt32.ofNat 25) := iu_shl x 25 (by decide)
  have h3 : iu x / 2 ^ 7 = iu (x >>> UInt32.ofNat 7) := iu_shr x 7 (by decide)
  simp only [Int.reducePow] at h2 h3
  go_enter Tryd.func38, Tryd.ntmps38
  go_wp2
  go_ret
  exact ⟨ret_u32 (iu_or _ _), rfl⟩
set_option maxHeartbeats 2000000 in
theorem turned7 (x : UInt32) (w : World) : Calls Tryd.prog 34 #[.int .u32 (iu x), .int .i64 7] w fun e w' => e = .returned (.int .u32 (iu (Sh.R x 7))) ∧ w = w' := by
  go_enter Tryd.func34, Tryd.ntmps34
  go_wp2_with (go_at_call 38; refine (rot7 x _).mono ?_; rintro e w' ⟨rfl, rfl⟩)
  go_ret
  exact ⟨rfl, rfl⟩
set_option maxHeartbeats 2000000 in
theorem rot11 (x : UInt32) (w : World) : Calls Tryd.prog 38 #[.int .u32 (iu x), .int .i64 (-11)] w fun e w' => e = .returned (.int .u32 (iu (Sh.R x 11))) ∧ w = w' := by
  have h1 : bits .and .u64 (IntKind.u64.wrap (-11)) 31 = 21 := by decide +kernel
  have h2 : IntKind.u32.wrap (iu x * 2 ^ 21) = iu (x <<< UInt32.ofNat 21) := iu_shl x 21 (by decide)
  have h3 : iu x / 2 ^ 11 = iu (x >>> UInt32.ofNat 11) := iu_shr x 11 (by decide)
  simp only [Int.reducePow] at h2 h3
  go_enter Tryd.func38, Tryd.ntmps38
  go_wp2
  go_ret
  exact ⟨ret_u32 (iu_or _ _), rfl⟩
set_option maxHeartbeats 2000000 in
theorem turned11 (x : UInt32) (w : World) : Calls Tryd.prog 34 #[.int .u32 (iu x), .int .i64 11] w fun e w' => e = .returned (.int .u32 (iu (Sh.R x 11))) ∧ w = w' := by
  go_enter Tryd.func34, Tryd.ntmps34
  go_wp2_with (go_at_call 38; refine (rot11 x _).mono ?_; rintro e w' ⟨rfl, rfl⟩)
  go_ret
  exact ⟨rfl, rfl⟩
set_option maxHeartbeats 2000000 in
theorem rot13 (x : UInt32) (w : World) : Calls Tryd.prog 38 #[.int .u32 (iu x), .int .i64 (-13)] w fun e w' => e = .returned (.int .u32 (iu (Sh.R x 13))) ∧ w = w' := by
  have h1 : bits .and .u64 (IntKind.u64.wrap (-13)) 31 = 19 := by decide +kernel
  have h2 : IntKind.u32.wrap (iu x * 2 ^ 19) = iu (x <<< UInt32.ofNat 19) := iu_shl x 19 (by decide)
  have h3 : iu x / 2 ^ 13 = iu (x >>> UInt32.ofNat 13) := iu_shr x 13 (by decide)
  simp only [Int.reducePow] at h2 h3
  go_enter Tryd.func38, Tryd.ntmps38
  go_wp2
  go_ret
  exact ⟨ret_u32 (iu_or _ _), rfl⟩
set_option maxHeartbeats 2000000 in
theorem turned13 (x : UInt32) (w : World) : Calls Tryd.prog 34 #[.int .u32 (iu x), .int .i64 13] w fun e w' => e = .returned (.int .u32 (iu (Sh.R x 13))) ∧ w = w' := by
  go_enter Tryd.func34, Tryd.ntmps34
  go_wp2_with (go_at_call 38; refine (rot13 x _).mono ?_; rintro e w' ⟨rfl, rfl⟩)
  go_ret
  exact ⟨rfl, rfl⟩
set_option maxHeartbeats 2000000 in
theorem rot17 (x : UInt32) (w : World) : Calls Tryd.prog 38 #[.int .u32 (iu x), .int .i64 (-17)] w fun e w' => e = .returned (.int .u32 (iu (Sh.R x 17))) ∧ w = w' := by
  have h1 : bits .and .u64 (IntKind.u64.wrap (-17)) 31 = 15 := by decide +kernel
  have h2 : IntKind.u32.wrap (iu x * 2 ^ 15) = iu (x <<< UInt32.ofNat 15) := iu_shl x 15 (by decide)
  have h3 : iu x / 2 ^ 17 = iu (x >>> UInt32.ofNat 17) := iu_shr x 17 (by decide)
  simp only [Int.reducePow] at h2 h3
  go_enter Tryd.func38, Tryd.ntmps38
  go_wp2
  go_ret
  exact ⟨ret_u32 (iu_or _ _), rfl⟩
set_option maxHeartbeats 2000000 in
theorem turned17 (x : UInt32) (w : World) : Calls Tryd.prog 34 #[.int .u32 (iu x), .int .i64 17] w fun e w' => e = .returned (.int .u32 (iu (Sh.R x 17))) ∧ w = w' := by
  go_enter Tryd.func34, Tryd.ntmps34
  go_wp2_with (go_at_call 38; refine (rot17 x _).mono ?_; rintro e w' ⟨rfl, rfl⟩)
  go_ret
  exact ⟨rfl, rfl⟩
set_option maxHeartbeats 2000000 in
theorem rot18 (x : UInt32) (w : World) : Calls Tryd.prog 38 #[.int .u32 (iu x), .int .i64 (-18)] w fun e w' => e = .returned (.int .u32 (iu (Sh.R x 18))) ∧ w = w' := by
  have h1 : bits .and .u64 (IntKind.u64.wrap (-18)) 31 = 14 := by decide +kernel
  have h2 : IntKind.u32.wrap (iu x * 2 ^ 14) = iu (x <<< UInt32.ofNat 14) := iu_shl x 14 (by decide)
  have h3 : iu x / 2 ^ 18 = iu (x >>> UInt32.ofNat 18) := iu_shr x 18 (by decide)
  simp only [Int.reducePow] at h2 h3
  go_enter Tryd.func38, Tryd.ntmps38
  go_wp2
  go_ret
  exact ⟨ret_u32 (iu_or _ _), rfl⟩
set_option maxHeartbeats 2000000 in
theorem turned18 (x : UInt32) (w : World) : Calls Tryd.prog 34 #[.int .u32 (iu x), .int .i64 18] w fun e w' => e = .returned (.int .u32 (iu (Sh.R x 18))) ∧ w = w' := by
  go_enter Tryd.func34, Tryd.ntmps34
  go_wp2_with (go_at_call 38; refine (rot18 x _).mono ?_; rintro e w' ⟨rfl, rfl⟩)
  go_ret
  exact ⟨rfl, rfl⟩
set_option maxHeartbeats 2000000 in
theorem rot19 (x : UInt32) (w : World) : Calls Tryd.prog 38 #[.int .u32 (iu x), .int .i64 (-19)] w fun e w' => e = .returned (.int .u32 (iu (Sh.R x 19))) ∧ w = w' := by
  have h1 : bits .and .u64 (IntKind.u64.wrap (-19)) 31 = 13 := by decide +kernel
  have h2 : IntKind.u32.wrap (iu x * 2 ^ 13) = iu (x <<< UInt32.ofNat 13) := iu_shl x 13 (by decide)
  have h3 : iu x / 2 ^ 19 = iu (x >>> UInt32.ofNat 19) := iu_shr x 19 (by decide)
  simp only [Int.reducePow] at h2 h3
  go_enter Tryd.func38, Tryd.ntmps38
  go_wp2
  go_ret
  exact ⟨ret_u32 (iu_or _ _), rfl⟩
set_option maxHeartbeats 2000000 in
theorem turned19 (x : UInt32) (w : World) : Calls Tryd.prog 34 #[.int .u32 (iu x), .int .i64 19] w fun e w' => e = .returned (.int .u32 (iu (Sh.R x 19))) ∧ w = w' := by
  go_enter Tryd.func34, Tryd.ntmps34
  go_wp2_with (go_at_call 38; refine (rot19 x _).mono ?_; rintro e w' ⟨rfl, rfl⟩)
  go_ret
  exact ⟨rfl, rfl⟩
set_option maxHeartbeats 2000000 in
theorem rot22 (x : UInt32) (w : World) : Calls Tryd.prog 38 #[.int .u32 (iu x), .int .i64 (-22)] w fun e w' => e = .returned (.int .u32 (iu (Sh.R x 22))) ∧ w = w' := by
  have h1 : bits .and .u64 (IntKind.u64.wrap (-22)) 31 = 10 := by decide +kernel
  have h2 : IntKind.u32.wrap (iu x * 2 ^ 10) = iu (x <<< UInt32.ofNat 10) := iu_shl x 10 (by decide)
  have h3 : iu x / 2 ^ 22 = iu (x >>> UInt32.ofNat 22) := iu_shr x 22 (by decide)
  simp only [Int.reducePow] at h2 h3
  go_enter Tryd.func38, Tryd.ntmps38
  go_wp2
  go_ret
  exact ⟨ret_u32 (iu_or _ _), rfl⟩
set_option maxHeartbeats 2000000 in
theorem turned22 (x : UInt32) (w : World) : Calls Tryd.prog 34 #[.int .u32 (iu x), .int .i64 22] w fun e w' => e = .returned (.int .u32 (iu (Sh.R x 22))) ∧ w = w' := by
  go_enter Tryd.func34, Tryd.ntmps34
  go_wp2_with (go_at_call 38; refine (rot22 x _).mono ?_; rintro e w' ⟨rfl, rfl⟩)
  go_ret
  exact ⟨rfl, rfl⟩
set_option maxHeartbeats 2000000 in
theorem rot25 (x : UInt32) (w : World) : Calls Tryd.prog 38 #[.int .u32 (iu x), .int .i64 (-25)] w fun e w' => e = .returned (.int .u32 (iu (Sh.R x 25))) ∧ w = w' := by
  have h1 : bits .and .u64 (IntKind.u64.wrap (-25)) 31 = 7 := by decide +kernel
  have h2 : IntKind.u32.wrap (iu x * 2 ^ 7) = iu (x <<< UInt32.ofNat 7) := iu_shl x 7 (by decide)
  have h3 : iu x / 2 ^ 25 = iu (x >>> UInt32.ofNat 25) := iu_shr x 25 (by decide)
  simp only [Int.reducePow] at h2 h3
  go_enter Tryd.func38, Tryd.ntmps38
  go_wp2
  go_ret
  exact ⟨ret_u32 (iu_or _ _), rfl⟩
set_option maxHeartbeats 2000000 in
theorem turned25 (x : UInt32) (w : World) : Calls Tryd.prog 34 #[.int .u32 (iu x), .int .i64 25] w fun e w' => e = .returned (.int .u32 (iu (Sh.R x 25))) ∧ w = w' := by
  go_enter Tryd.func34, Tryd.ntmps34
  go_wp2_with (go_at_call 38; refine (rot25 x _).mono ?_; rintro e w' ⟨rfl, rfl⟩)
  go_ret
  exact ⟨rfl, rfl⟩
end Go.Proofs.YtjlmhpokamdkhaaDoor
