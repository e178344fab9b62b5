/- Whole numbers: products, of any two. -/
import Derived.Test.YtjcoaoacgcpooaaIntsForm
import Derived.Test.YtjcoaoacgcpooaaIntsMul
namespace Go.Proofs.Ytjcoaoacgcpooaa
open Go Go.Proofs Go.RowKit Go.Shelf Nu

section
variable {w : World} {v1 v2 : Value} {l1 l2 : List Nat} {n1 n2 : Bool}
theorem i_mul (Z : Int) (h1 : Reads w v1 l1) (h2 : Reads w v2 l2) (k1 : l1.length ≤ 50000) (k2 : l2.length ≤ 50000) (s1 : Sm l1) (s2 : Sm l2) (hZ : Z = zv n1 l1 * zv n2 l2) :
    Calls Try.prog 11 #[.agg #[.bool n1, v1], .agg #[.bool n2, v2]] w fun e w' => ∃ a c, e = .returned (.agg #[.bool (decide (Z < 0)), .slice a (digs Z.natAbs).length c]) ∧ Reads w' (.slice a (digs Z.natAbs).length c) (digs Z.natAbs) ∧ Below w.heap.size w w' := by
  obtain ⟨m1, p1, q1, A, e1, f1, r1, z1, t1, y1⟩ := iarg (n := n1) h1 s1
  obtain ⟨m2, p2, q2, B, e2, f2, r2, z2, t2, y2⟩ := iarg (n := n2) h2 s2
  have ko1 : ∀ W, Below w.heap.size w W → _ := fun W hW => iorZero_any (n := n1) (h1.below hW) (by omega)
  have ko2 : ∀ W, Below w.heap.size w W → _ := fun W hW => iorZero_any (n := n2) (h2.below hW) (by omega)
  rw [e1, f1] at ko1
  rw [e2, f2] at ko2
  rw [y1, y2] at hZ
  have hM : Z.natAbs = A * B := by
    rw [hZ, Int.natAbs_mul]
    congr 1
    · cases m1 <;> simp [zz]
    · cases m2 <;> simp [zz]
  have hR : decide (Z < 0) = (m1 != m2 && decide (0 < (digs Z.natAbs).length)) := by
    rw [dec_digs, hM]
    have hP : ((A * B : Nat) : Int) = (A : Int) * (B : Int) := Int.natCast_mul A B
    obtain ⟨P, hPe⟩ : ∃ P, P = A * B := ⟨_, rfl⟩
    rw [← hPe] at hP ⊢
    symm
    cases m1 <;> cases m2
    · rw [zz_f, zz_f, ← hP] at hZ; exact and_dec _ (by intro h; cases h) (by intro _; omega)
    · rw [zz_f, zz_t, Int.mul_neg, ← hP] at hZ; exact and_dec _ (by intro _; constructor <;> intro _ <;> omega) (by intro h; cases h)
    · rw [zz_t, zz_f, Int.neg_mul, ← hP] at hZ; exact and_dec _ (by intro _; constructor <;> intro _ <;> omega) (by intro h; cases h)
    · rw [zz_t, zz_t, Int.neg_mul_neg, ← hP] at hZ; exact and_dec _ (by intro h; cases h) (by intro _; omega)
  refine imul_any h1.parts h2.parts ko1 ko2 hR fun W hW => ?_
  exact d_mul Z.natAbs (r1.below hW) (r2.below hW) (by omega) (by omega) hM
end

end Go.Proofs.Ytjcoaoacgcpooaa
