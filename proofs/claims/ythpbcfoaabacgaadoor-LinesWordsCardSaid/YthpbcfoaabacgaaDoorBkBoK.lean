/- A book of tokens: it is told one, and its last call. -/
import Derived.Test.YthpbcfoaabacgaaDoorBkBoL
namespace Go.Proofs.YthpbcfoaabacgaaDoor
open Go Go.Proofs Go.RowKit Go.Shelf

attribute [local go_sem] Oper.semAt_some
set_option maxRecDepth 100000
theorem info_heldBo : (Tryd.prog.info? 67).map (fun i => (i.zero, i.size, i.bytes)) = some (some (.agg #[.slice none 0 0, .slice none 0 0, .int .i64 0]), 3, 56) := by kernel_rfl
theorem QRow.otherBo {HT : TypeId} {W : World} {B o : Nat} {v : Value} {es : List (Value × Nat)} (h : QRow HT W (B + 1) v es) (u : Value) : QRow HT (W.setCell ⟨B, o, none⟩ u) (B + 1) v es :=
  q_setCell_other h (fun e => by have := (World.ownsRow.lt h B e).1; omega) u
end Go.Proofs.YthpbcfoaabacgaaDoor
