/- Whether two fractions are the same, as the law package asks it. -/
import Derived.Test.YtgmbaamfobhceaaGreatGRatCmp
set_option linter.unusedSimpArgs false
set_option linter.unusedVariables false
set_option maxRecDepth 100000
set_option maxHeartbeats 2000000
namespace Go.Proofs.YtgmbaamfobhceaaGreat
open Go Go.Proofs Go.RowKit Go.Shelf Nu
attribute [local go_sem] Oper.semAt_some
section
variable {w : World} {p1 o1 p2 o2 : Option Addr} {q1 r1 q2 r2 : Nat} {n1 n2 : Bool} {l1 d1 l2 d2 : List Nat} {X Y : Rat}
theorem sameRat_any (R : Bool) (hX : RCan n1 l1 d1 X) (hY : RCan n2 l2 d2 Y) (e : decide (X = Y) = R) (b1 : l1.length ≤ 80000) (b2 : d1.length ≤ 80000) (b3 : l2.length ≤ 80000) (b4 : d2.length ≤ 80000) (g1 : Reads w (.slice p1 l1.length q1) l1) (g2 : Reads w (.slice o1 d1.length r1) d1) (g3 : Reads w (.slice p2 l2.length q2) l2) (g4 : Reads w (.slice o2 d2.length r2) d2) :
  Calls Tryz.prog 28 #[.agg #[.bool n1, .slice p1 l1.length q1, .slice o1 d1.length r1], .agg #[.bool n2, .slice p2 l2.length q2, .slice o2 d2.length r2]] w fun e w' => e = .returned (.bool R) ∧ Below w.heap.size w w' := by
 have hs := hX.same hY
 rw [e] at hs
 obtain ⟨B, hB⟩ : ∃ B, B = (n1 == n2 && decide (l1 = l2)) := ⟨_, rfl⟩
 obtain ⟨C, hC⟩ : ∃ C, C = decide (d1 = d2) := ⟨_, rfl⟩
 rw [← hB, ← hC] at hs
 have ki := fun (W : World) (g1 : Reads W (.slice p1 l1.length q1) l1) (g3 : Reads W (.slice p2 l2.length q2) l2) => sameInt_any (n1 := n1) (n2 := n2) g1 g3 (by omega) (by omega) hB
 have kn := fun (W : World) (g2 : Reads W (.slice o1 d1.length r1) d1) (g4 : Reads W (.slice o2 d2.length r2) d2) => sameNat_any g2 g4 (by omega) (by omega)
 rw [← hC] at kn
 have M : Mem w [(w.heap.size + 1, 44, [.bool n2, .slice p2 l2.length q2, .slice o2 d2.length r2]), (w.heap.size, 44, [.bool n1, .slice p1 l1.length q1, .slice o1 d1.length r1])] [(.slice o2 d2.length r2, d2), (.slice p2 l2.length q2, l2), (.slice o1 d1.length r1, d1), (.slice p1 l1.length q1, l1)]
   ((w.alloc (.cells #[.bool n1, .slice p1 l1.length q1, .slice o1 d1.length r1] 44)).alloc (.cells #[.bool n2, .slice p2 l2.length q2, .slice o2 d2.length r2] 44)) := by
  have M := (((((Mem.start w).add g1).add g2).add g3).add g4).new 44 [.bool n1, .slice p1 l1.length q1, .slice o1 d1.length r1] |>.new 44 [.bool n2, .slice p2 l2.length q2, .slice o2 d2.length r2]
  simpa only [World.size_alloc] using M
 clear hX hY e b1 b2 b3 b4 g1 g2 g3 g4 hB hC
 cases B with
 | false =>
  obtain rfl : R = false := by simpa using hs.symm
  clear hs kn
  go_enter Tryz.func28, Tryz.ntmps28
  go_wp2_with (go_at_call 67; refine (ki _ (M.get 3 rfl) (M.get 1 rfl)).mono ?_; clear ki; rintro e w1 ⟨rfl, rr⟩; have M' := M.up rr; clear M rr)
  go_ret
  exact ⟨rfl, M'.below⟩
 | true =>
  obtain rfl : R = C := by simpa using hs.symm
  clear hs
  go_enter Tryz.func28, Tryz.ntmps28
  go_wp2_with (first
   | (go_at_call 67; refine (ki _ (M.get 3 rfl) (M.get 1 rfl)).mono ?_; clear ki; rintro e w1 ⟨rfl, rr⟩; have M' := M.up rr; clear M rr; have z0 := M'.cell 0 rfl 2 rfl; have z1 := M'.cell 1 rfl 2 rfl)
   | (go_at_call 68; refine (kn _ (M'.get 2 rfl) (M'.get 0 rfl)).mono ?_; clear kn; rintro e w2 ⟨rfl, n, rfl⟩))
  go_ret
  exact ⟨rfl, ⟨M'.below.os, M'.below.tape, M'.below.output, M'.below.size, M'.below.block⟩⟩
end
end Go.Proofs.YtgmbaamfobhceaaGreat
