/- NatsRing: what the law's calls make. -/
import Derived.Test.YtbcipningfdgoaaAliveB
import Derived.Test.YtbcipningfdgoaaLen
namespace Go.Proofs.Ytbcipningfdgoaa
open Go Go.Proofs Go.RowKit Go.Shelf Nu

set_option maxRecDepth 100000 in
set_option maxHeartbeats 600000 in
/-- where one has more than 100 parts -/
theorem ring_far {w : World} {a1 b1 d1 : Option Addr} {na nb nc ca cb cc : Nat} (h : 100 < na ∨ 100 < nb ∨ 100 < nc) :
    Calls Try.prog 3 #[.slice a1 na ca, .slice b1 nb cb, .slice d1 nc cc] w fun e w' => e = .returned (.bool true) ∧ Below w.heap.size w w' := by
  have hcases : (100 < (na : Int)) ∨ (¬ 100 < (na : Int) ∧ 100 < (nb : Int)) ∨ (¬ 100 < (na : Int) ∧ ¬ 100 < (nb : Int) ∧ 100 < (nc : Int)) := by omega
  clear h
  rcases hcases with h1 | ⟨h1, h2⟩ | ⟨h1, h2, h3⟩
  all_goals
    go_enter Try.func3, Try.ntmps3
    go_wp2_with (first
      | (go_at_call 11; with_reducible refine (alive_any w).mono ?_; rintro e w1 ⟨rfl, r1⟩)
      | (go_at_call 11; with_reducible refine (alive_any w1).mono ?_; rintro e w2 ⟨rfl, r2⟩))
    go_ret
    exact ⟨rfl, then_below r1 r2⟩

end Go.Proofs.Ytbcipningfdgoaa
