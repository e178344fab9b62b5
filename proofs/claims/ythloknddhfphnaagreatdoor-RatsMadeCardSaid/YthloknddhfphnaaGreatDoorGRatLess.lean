/- Fractions: what the laws' walks want besides. -/
import Derived.Test.YthloknddhfphnaaGreatDoorGRatB
import Derived.Test.YthloknddhfphnaaGreatDoorGRatCmp
set_option linter.unusedSimpArgs false
set_option linter.unusedVariables false
namespace Go.Proofs.YthloknddhfphnaaGreatDoor
open Go Go.Proofs Go.RowKit Go.Shelf Nu

theorem rcheck_yes {w : World} {p1 p2 : Option Addr} {q1 q2 : Nat} {n : Bool} {l d : List Nat} {X : Rat} (c : RCan n l d X) (l1 : l.length ≤ 80000) (l2 : d.length ≤ 80000) (h1 : Reads w (.slice p1 l.length q1) l) (h2 : Reads w (.slice p2 d.length q2) d) :
    Calls Tryz.prog 14 #[.agg #[.bool n, .slice p1 l.length q1, .slice p2 d.length q2]] w fun e w' => e = .returned (.bool true) ∧ Below w.heap.size w w' := by
  have := rcheck_any (n := n) h1 h2 c.sm.1 c.sm.2 l1 l2
  rw [c.chk] at this
  exact this

theorem Mem.less {w W : World} {bs : List (Nat × TypeId × List Value)} {rs rs' : List (Value × List Nat)} (M : Mem w bs rs W) (n : Nat) (e : rs.drop n = rs') : Mem w bs rs' W := by
  refine ⟨M.1, M.2.1, M.2.2.1, fun k v l h => M.2.2.2 (n + k) v l ?_⟩
  rw [← e, List.getElem?_drop] at h
  exact h
theorem region_cut_nssss {P : Program} {c : Code} {Q : Exit → Act → World → Prop} {a : Act} {w : World} (F : Nat → Option Addr → Nat → Option Addr → Nat → Option Addr → Nat → Option Addr → Nat → Act) (Fact : Nat → Option Addr → Nat → Option Addr → Nat → Option Addr → Nat → Option Addr → Nat → World → Prop)
    (first : c.wp P (fun e a' w' => e = .normal ∧ ∃ (b0 : Nat) (a1 : Option Addr) (c1 : Nat) (a2 : Option Addr) (c2 : Nat) (a3 : Option Addr) (c3 : Nat) (a4 : Option Addr) (c4 : Nat), a' = F b0 a1 c1 a2 c2 a3 c3 a4 c4 ∧ Fact b0 a1 c1 a2 c2 a3 c3 a4 c4 w') a w) (rest : ∀ (b0 : Nat) (a1 : Option Addr) (c1 : Nat) (a2 : Option Addr) (c2 : Nat) (a3 : Option Addr) (c3 : Nat) (a4 : Option Addr) (c4 : Nat) (w' : World), Fact b0 a1 c1 a2 c2 a3 c3 a4 c4 w' → Q .normal (F b0 a1 c1 a2 c2 a3 c3 a4 c4) w') : c.wp P Q a w :=
  Code.wp_mono (fun e a' w' h => by obtain ⟨rfl, b0, a1, c1, a2, c2, a3, c3, a4, c4, rfl, hf⟩ := h; exact rest b0 a1 c1 a2 c2 a3 c3 a4 c4 w' hf) first
theorem region_cut_nsssss {P : Program} {c : Code} {Q : Exit → Act → World → Prop} {a : Act} {w : World} (F : Nat → Option Addr → Nat → Option Addr → Nat → Option Addr → Nat → Option Addr → Nat → Option Addr → Nat → Act) (Fact : Nat → Option Addr → Nat → Option Addr → Nat → Option Addr → Nat → Option Addr → Nat → Option Addr → Nat → World → Prop)
    (first : c.wp P (fun e a' w' => e = .normal ∧ ∃ (b0 : Nat) (a1 : Option Addr) (c1 : Nat) (a2 : Option Addr) (c2 : Nat) (a3 : Option Addr) (c3 : Nat) (a4 : Option Addr) (c4 : Nat) (a5 : Option Addr) (c5 : Nat), a' = F b0 a1 c1 a2 c2 a3 c3 a4 c4 a5 c5 ∧ Fact b0 a1 c1 a2 c2 a3 c3 a4 c4 a5 c5 w') a w) (rest : ∀ (b0 : Nat) (a1 : Option Addr) (c1 : Nat) (a2 : Option Addr) (c2 : Nat) (a3 : Option Addr) (c3 : Nat) (a4 : Option Addr) (c4 : Nat) (a5 : Option Addr) (c5 : Nat) (w' : World), Fact b0 a1 c1 a2 c2 a3 c3 a4 c4 a5 c5 w' → Q .normal (F b0 a1 c1 a2 c2 a3 c3 a4 c4 a5 c5) w') : c.wp P Q a w :=
  Code.wp_mono (fun e a' w' h => by obtain ⟨rfl, b0, a1, c1, a2, c2, a3, c3, a4, c4, a5, c5, rfl, hf⟩ := h; exact rest b0 a1 c1 a2 c2 a3 c3 a4 c4 a5 c5 w' hf) first
theorem region_cut_nssssss {P : Program} {c : Code} {Q : Exit → Act → World → Prop} {a : Act} {w : World} (F : Nat → Option Addr → Nat → Option Addr → Nat → Option Addr → Nat → Option Addr → Nat → Option Addr → Nat → Option Addr → Nat → Act) (Fact : Nat → Option Addr → Nat → Option Addr → Nat → Option Addr → Nat → Option Addr → Nat → Option Addr → Nat → Option Addr → Nat → World → Prop)
    (first : c.wp P (fun e a' w' => e = .normal ∧ ∃ (b0 : Nat) (a1 : Option Addr) (c1 : Nat) (a2 : Option Addr) (c2 : Nat) (a3 : Option Addr) (c3 : Nat) (a4 : Option Addr) (c4 : Nat) (a5 : Option Addr) (c5 : Nat) (a6 : Option Addr) (c6 : Nat), a' = F b0 a1 c1 a2 c2 a3 c3 a4 c4 a5 c5 a6 c6 ∧ Fact b0 a1 c1 a2 c2 a3 c3 a4 c4 a5 c5 a6 c6 w') a w) (rest : ∀ (b0 : Nat) (a1 : Option Addr) (c1 : Nat) (a2 : Option Addr) (c2 : Nat) (a3 : Option Addr) (c3 : Nat) (a4 : Option Addr) (c4 : Nat) (a5 : Option Addr) (c5 : Nat) (a6 : Option Addr) (c6 : Nat) (w' : World), Fact b0 a1 c1 a2 c2 a3 c3 a4 c4 a5 c5 a6 c6 w' → Q .normal (F b0 a1 c1 a2 c2 a3 c3 a4 c4 a5 c5 a6 c6) w') : c.wp P Q a w :=
  Code.wp_mono (fun e a' w' h => by obtain ⟨rfl, b0, a1, c1, a2, c2, a3, c3, a4, c4, a5, c5, a6, c6, rfl, hf⟩ := h; exact rest b0 a1 c1 a2 c2 a3 c3 a4 c4 a5 c5 a6 c6 w' hf) first
end Go.Proofs.YthloknddhfphnaaGreatDoor
