/- Ledgers: one ledger, and what is left of it. -/
import Derived.Test.YtegfjndlkjfepaaLgB
namespace Go.Proofs.Ytegfjndlkjfepaa
open Go Go.Proofs Go.RowKit Go.Shelf
set_option linter.unusedVariables false

theorem leftV_out {ts : List Ten} {lf : List Int} {k : Int} (h : ¬ (0 ≤ k ∧ k < ts.length)) : leftV ts lf k = -1 := by unfold leftV; rw [if_neg h]
theorem left_bounds {ts : List Ten} {lf : List Int} {K : Nat} {n R : Int} (hK : K < ts.length) (hl : lf.length = ts.length) (hR : lf.getD K 0 = R) (h0 : 0 ≤ R) : 0 ≤ leftV ts (spendL ts lf (K : Int) n) (K : Int) ∧ leftV ts (spendL ts lf (K : Int) n) (K : Int) ≤ R := by
  by_cases h : spendE ts lf (K : Int) n = 0
  · rw [leftV_spend hK hl h hR]
    have := spend_zero h
    rw [hR] at this
    omega
  · rw [spendL_err h, leftV_nat hK hR]
    omega
/-- one ledger -/
structure L1 (w W : World) (P X : Nat) (own : Nat → Prop) (ts : List Ten) (lf : List Int) : Prop where
  ld : LD W P X own ts lf
  bel : Below w.heap.size w W
theorem L1.drewN {w W : World} {P X : Nat} {own : Nat → Prop} {ts : List Ten} {lf : List Int} (h : L1 w W P X own ts lf) (d : Nat) : L1 w (W.drewN d) P X own ts lf := ⟨h.ld.below (B := 0) (drewN_below W d), below_drewN h.bel d⟩
end Go.Proofs.Ytegfjndlkjfepaa
