/- Fractions: whole or not, the floor, the text. -/
import Derived.Test.YtimdinmhphihkaaGreatDoorGRatB
import Derived.Test.YtimdinmhphihkaaGreatDoorGMathG
set_option linter.unusedSimpArgs false
set_option linter.unusedVariables false
namespace Go.Proofs.YtimdinmhphihkaaGreatDoor
open Go Go.Proofs Go.RowKit Go.Shelf Nu

attribute [local go_sem] Oper.semAt_some

theorem field_one (b : Bool) (v : Value) (w : World) : (Instr.field 25 (.agg #[.bool b, v]) 1).run Tryz.prog w = .ok v w := by kernel_rfl
section
variable {w : World} {p1 p2 : Option Addr} {q1 q2 : Nat} {n s : Bool} {l d L D : List Nat} {X : Rat}
set_option maxRecDepth 100000 in
set_option maxHeartbeats 2000000 in
theorem r_whole (R : Bool) (hX : RIs n l d X) (e : decide (X.den = 1) = R) (l1 : l.length ≤ 40000) (l2 : d.length ≤ 40000) (h1 : Reads w (.slice p1 l.length q1) l) (h2 : Reads w (.slice p2 d.length q2) d) :
    Calls Tryz.prog 13 #[.agg #[.bool n, .slice p1 l.length q1, .slice p2 d.length q2]] w fun e w' => e = .returned (.bool R) ∧ Below w.heap.size w w' := by
  obtain ⟨s, L, D, cX⟩ := RCan.ex X
  have lX := hX.lens cX
  have M0 : Mem w [(w.heap.size, 27, [.bool n, .slice p1 l.length q1, .slice p2 d.length q2])] [(.slice p1 l.length q1, l), (.slice p2 d.length q2, d)] (w.alloc (.cells #[.bool n, .slice p1 l.length q1, .slice p2 d.length q2] 27)) := (((Mem.start w).add h2).add h1).new _ _
  have kp := partsOf_any hX cX (by omega) (by omega) (M0.get 0 rfl) (M0.get 1 rfl)
  have ko : ∀ (W : World) (a : Option Addr) (c : Nat) (g : Reads W (.slice a D.length c) D), Calls Tryz.prog 57 #[.slice a D.length c] W fun e w' => e = .returned (.bool R) ∧ Below W.heap.size W w' := fun W a c g => by
    obtain ⟨_, rfl⟩ := cX
    exact isOne_any g (by omega) R e
  clear h1 h2 hX cX lX l1 l2 e
  have ix := idx_below
  have ig := fun (b : Bool) (v : Value) (w : World) => field_one b v w
  go_enter Tryz.func13, Tryz.ntmps13
  go_wp2_with (first
    | (go_at_call 41; refine kp.mono ?_; clear kp; rintro e w1 ⟨a, c, a', c', rfl, g, g', rr⟩; have M := ((M0.up rr).add g).add g'; clear M0 g g' rr)
    | (go_at_call 57; refine (ko _ _ _ (M.get 0 rfl)).mono ?_; clear ko; rintro e w2 ⟨rfl, rr⟩; have M' := M.up rr; clear M rr))
  go_ret
  exact ⟨rfl, M'.below⟩

end
end Go.Proofs.YtimdinmhphihkaaGreatDoor
