/- Ledgers: spending bit by bit. -/
import Derived.Test.YtegfjndlkjfepaaLgD2
namespace Go.Proofs.Ytegfjndlkjfepaa
open Go Go.Proofs Go.RowKit Go.Shelf
set_option linter.unusedVariables false

theorem set_same {lf : List Int} {K : Nat} {R : Int} (h : K < lf.length) (e : lf.getD K 0 = R) : lf.set K (R - 0) = lf := by
  rw [Int.sub_zero, ← e, List.getD_eq_getElem?_getD, List.getElem?_eq_getElem h]
  exact List.set_getElem_self h
theorem spend_fits {ts : List Ten} {lf : List Int} {K : Nat} {n Z : Int} (hK : K < ts.length) (hZ : lf.getD K 0 = Z) (h0 : 0 ≤ n) (h : n ≤ Z) : spendE ts lf (K : Int) n = 0 := by
  unfold spendE
  rw [if_pos ⟨by omega, by omega, h0⟩, Int.toNat_natCast, hZ, if_neg (by omega)]
theorem spend_more {ts : List Ten} {lf : List Int} {K : Nat} {n Z : Int} (hK : K < ts.length) (hZ : lf.getD K 0 = Z) (h0 : 0 ≤ n) (h : Z < n) : spendE ts lf (K : Int) n = 3 := by
  unfold spendE
  rw [if_pos ⟨by omega, by omega, h0⟩, Int.toNat_natCast, hZ, if_pos h]
/-- a ledger, whatever is left -/
def L1e (w W : World) (P X : Nat) (own : Nat → Prop) (ts : List Ten) : Prop := ∃ lf, L1 w W P X own ts lf
section
variable {w W : World} {P X b o : Nat} {own : Nat → Prop} {ts : List Ten} {R : Int}
theorem L1e.bel (h : L1e w W P X own ts) : Below w.heap.size w W := by obtain ⟨lf, h⟩ := h; exact h.bel
theorem L1e.drew (h : L1e w W P X own ts) : L1e w W.drew P X own ts := by obtain ⟨lf, h⟩ := h; exact ⟨lf, h.ld.below (B := 0) (Below.refl _ _).drew, h.bel.drew⟩
theorem L1e.of2 (h : W.cell? ⟨b, o, none⟩ = some (.int .i64 R) ∧ L1e w W P X own ts) : L1e w W P X own ts := h.2
theorem tick_l1 (h : L1e w W P X own ts) (hX : w.heap.size ≤ X) : Calls Try.prog 15 #[.pointer (some ⟨P, 0, none⟩)] W fun e W' => e = .returned (.int .i64 0) ∧ L1 w W' P X own ts (ts.map (·.r)) := by
  obtain ⟨lf, h⟩ := h
  exact (ltick_any h.ld).mono fun e W' ⟨h1, h2, _, h4⟩ => ⟨h1, h2, h.bel.trans (h4.mono hX)⟩
end
end Go.Proofs.Ytegfjndlkjfepaa
