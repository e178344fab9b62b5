/- Ledgers: two tenants compared. -/
import Derived.Test.YtegfjndlkjfepaaLgB
import Derived.Laws.StructEq
namespace Go.Proofs.Ytegfjndlkjfepaa
open Go Go.Proofs Go.RowKit Go.Shelf
set_option linter.unusedVariables false
set_option maxRecDepth 100000

def tenE (t u : Ten) : Bool := (t.n.toList == u.n.toList) && (t.k.toList == u.k.toList) && (t.r == u.r)
theorem ten_eqIn (t u : Ten) (w : World) : (Op.equalIn 10000 32 (.agg #[.string t.n, .string t.k, .int .i64 t.r]) (.agg #[.string u.n, .string u.k, .int .i64 u.r])).run Try.prog w = .ok (tenE t u) w := by
  have u3 := Try.underlying3
  have a3 := Try.isAgg3
  have z3 := Try.sizeOf3
  have u9 := Try.underlying9
  have a9 := Try.isAgg9
  have z9 := Try.sizeOf9
  have hS : Try.prog.underlying 32 = some (.struct (Try.prog.fieldsOf 32)) := by kernel_rfl
  have hp : Try.prog.stoodInHeld 32 = false := by kernel_rfl
  rw [show (10000 : Nat) = 9999 + 1 from rfl, run_equalIn_agg w 9999 32 _ _ hS hp]
  simp only [Program.fieldsOf, Try.underlying32]
  unfold tenE
  go_simp
  cases h1 : (t.n.toList == u.n.toList) <;> cases h2 : (t.k.toList == u.k.toList) <;> simp_all
  by_cases h3 : t.r = u.r <;> simp [h3]
theorem tenE_self (t : Ten) : tenE t t = true := by unfold tenE; simp
theorem ten_eql (t u : Ten) (W : World) : (binOp .eql 32 (.agg #[.string t.n, .string t.k, .int .i64 t.r]) (.agg #[.string u.n, .string u.k, .int .i64 u.r])).run Try.prog W = .ok (.bool (tenE t u)) W := by
  rw [run_eql_struct, ten_eqIn]; rfl
theorem ten_neqE (t u : Ten) (W : World) : (binOp .neq 32 (.agg #[.string t.n, .string t.k, .int .i64 t.r]) (.agg #[.string u.n, .string u.k, .int .i64 u.r])).run Try.prog W = .ok (.bool (!tenE t u)) W := by
  rw [run_neq_struct, ten_eqIn]; rfl
theorem ten_neq (t : Ten) (W : World) : (binOp .neq 32 (.agg #[.string t.n, .string t.k, .int .i64 t.r]) (.agg #[.string t.n, .string t.k, .int .i64 t.r])).run Try.prog W = .ok (.bool false) W := by
  rw [ten_neqE, tenE_self]; rfl
end Go.Proofs.Ytegfjndlkjfepaa
