/- .. of a division. -/
import Derived.Test.YtbcipningfdgoaaForm
import Derived.Test.YtbcipningfdgoaaDiv
namespace Go.Proofs.Ytbcipningfdgoaa
open Go Go.Proofs Go.RowKit Go.Shelf Nu

section
variable {w : World} {p1 p2 : Option Addr} {q1 q2 A B : Nat}
theorem d_div (Q R : Nat) (h1 : Reads w (.slice p1 (digs A).length q1) (digs A)) (h2 : Reads w (.slice p2 (digs B).length q2) (digs B)) (l1 : (digs A).length ≤ 100000) (l2 : (digs B).length ≤ 100000) (h0 : B ≠ 0)
    (kd : Calls Try.prog 32 #[.slice p1 (digs A).length q1, .slice p2 (digs B).length q2] w fun e w' => ∃ v1 v2, e = .returned (.tuple #[v1, v2]) ∧ Fresh w' w.heap.size v1 (digs Q) ∧ Fresh w' w.heap.size v2 (digs R) ∧ Below w.heap.size w w') :
    Calls Try.prog 16 #[.slice p1 (digs A).length q1, .slice p2 (digs B).length q2] w fun e w' => ∃ a c b d, e = .returned (.tuple #[.slice a (digs Q).length c, .slice b (digs R).length d, .int .i64 0]) ∧ Reads w' (.slice a (digs Q).length c) (digs Q) ∧ Reads w' (.slice b (digs R).length d) (digs R) ∧ Below w.heap.size w w' := by
  refine (div_of h1 h2 (by omega) (by omega) (chk_digs _) (chk_digs _) (fun e => h0 (digs_eq_nil.1 e)) kd).mono ?_
  rintro e w' ⟨v1, v2, rfl, f, g, hb⟩
  obtain ⟨a, c, rfl⟩ := f.reads.form
  obtain ⟨b, d, rfl⟩ := g.reads.form
  exact ⟨a, c, b, d, rfl, f.reads, g.reads, hb⟩
theorem d_divzero (h1 : Reads w (.slice p1 (digs A).length q1) (digs A)) (h2 : Reads w (.slice p2 (digs B).length q2) (digs B)) (l1 : (digs A).length ≤ 100000) (h0 : B = 0) :
    Calls Try.prog 16 #[.slice p1 (digs A).length q1, .slice p2 (digs B).length q2] w fun e w' => e = .returned (.tuple #[.slice none 0 0, .slice none 0 0, .int .i64 10]) ∧ Below w.heap.size w w' := by
  subst h0
  refine (div_zero (vb := .slice p2 (digs 0).length q2) h1 (by rw [digs_zero] at h2 ⊢; exact h2) (by omega) (chk_digs _)).mono ?_
  rintro e w' ⟨rfl, rfl⟩
  exact ⟨rfl, Below.refl _ _⟩
end

end Go.Proofs.Ytbcipningfdgoaa
