/- The contracts once more, of numbers given by their digits: what a law's walk asks. -/
import Derived.Test.YtmbnojkciikobaaGreatDoorLen
namespace Go.Proofs.YtmbnojkciikobaaGreatDoor
open Go Go.Proofs Go.RowKit Go.Shelf Nu

section
variable {w : World} {p1 p2 : Option Addr} {q1 q2 A B : Nat}
theorem d_add (N : Nat) (h1 : Reads w (.slice p1 (digs A).length q1) (digs A)) (h2 : Reads w (.slice p2 (digs B).length q2) (digs B)) (l1 : (digs A).length ≤ 100000) (l2 : (digs B).length ≤ 100000) (e : N = A + B) :
    Calls Tryz.prog 10 #[.slice p1 (digs A).length q1, .slice p2 (digs B).length q2] w fun e w' => ∃ a c, e = .returned (.slice a (digs N).length c) ∧ Reads w' (.slice a (digs N).length c) (digs N) ∧ Below w.heap.size w w' :=
  add_form h1 h2 l1 l2 (sm_digs _) (sm_digs _) N (by rw [nv_digs, nv_digs, e])
theorem d_mul (N : Nat) (h1 : Reads w (.slice p1 (digs A).length q1) (digs A)) (h2 : Reads w (.slice p2 (digs B).length q2) (digs B)) (l1 : (digs A).length ≤ 100000) (l2 : (digs B).length ≤ 100000) (e : N = A * B) :
    Calls Tryz.prog 12 #[.slice p1 (digs A).length q1, .slice p2 (digs B).length q2] w fun e w' => ∃ a c, e = .returned (.slice a (digs N).length c) ∧ Reads w' (.slice a (digs N).length c) (digs N) ∧ Below w.heap.size w w' :=
  mul_form h1 h2 l1 l2 (sm_digs _) (sm_digs _) N (by rw [nv_digs, nv_digs, e])
theorem d_sub (N : Nat) (h1 : Reads w (.slice p1 (digs A).length q1) (digs A)) (h2 : Reads w (.slice p2 (digs B).length q2) (digs B)) (l1 : (digs A).length ≤ 100000) (l2 : (digs B).length ≤ 100000) (h : B ≤ A) (e : N = A - B) :
    Calls Tryz.prog 11 #[.slice p1 (digs A).length q1, .slice p2 (digs B).length q2] w fun e w' => ∃ a c, e = .returned (.tuple #[.slice a (digs N).length c, .int .i64 0]) ∧ Reads w' (.slice a (digs N).length c) (digs N) ∧ Below w.heap.size w w' := by
  subst e
  have k := sub_any h1 h2 l1 l2 (sm_digs _) (sm_digs _) (chk_digs _) (chk_digs _) (by rw [val_digs, val_digs]; exact h)
  rw [val_digs, val_digs] at k
  refine k.mono ?_
  rintro e w' ⟨v, rfl, f, hb⟩
  obtain ⟨a, c, rfl⟩ := f.reads.form
  exact ⟨a, c, rfl, f.reads, hb⟩
theorem d_subno (h1 : Reads w (.slice p1 (digs A).length q1) (digs A)) (h2 : Reads w (.slice p2 (digs B).length q2) (digs B)) (l1 : (digs A).length ≤ 100000) (l2 : (digs B).length ≤ 100000) (h : A < B) :
    Calls Tryz.prog 11 #[.slice p1 (digs A).length q1, .slice p2 (digs B).length q2] w fun e w' => e = .returned (.tuple #[.slice none 0 0, .int .i64 1]) ∧ Below w.heap.size w w' :=
  sub_bad h1 h2 l1 l2 (sm_digs _) (sm_digs _) (.inr (.inr (by rw [val_digs, val_digs]; exact h)))
theorem d_cmp (z : Int) (h1 : Reads w (.slice p1 (digs A).length q1) (digs A)) (h2 : Reads w (.slice p2 (digs B).length q2) (digs B)) (l1 : (digs A).length ≤ 100000) (l2 : (digs B).length ≤ 100000) (h : sgn A B = z) :
    Calls Tryz.prog 14 #[.slice p1 (digs A).length q1, .slice p2 (digs B).length q2] w fun e w' => e = .returned (.int .i64 z) ∧ Below w.heap.size w w' := by
  have k := cmp_any h1 h2 l1 l2 (sm_digs _) (sm_digs _)
  rwa [nv_digs, nv_digs, h] at k
theorem d_same (R : Bool) (h1 : Reads w (.slice p1 (digs A).length q1) (digs A)) (h2 : Reads w (.slice p2 (digs B).length q2) (digs B)) (l1 : (digs A).length ≤ 100000) (l2 : (digs B).length ≤ 100000) (h : decide (A = B) = R) :
    Calls Tryz.prog 16 #[.slice p1 (digs A).length q1, .slice p2 (digs B).length q2] w fun e w' => e = .returned (.bool R) ∧ Below w.heap.size w w' := by
  refine (sameNat_any h1 h2 (by omega) (by omega)).mono ?_
  rintro e w' ⟨rfl, n, rfl⟩
  have : decide (digs A = digs B) = R := by
    rw [← h]
    exact decide_eq_decide.2 ⟨digs_inj, fun e => by rw [e]⟩
  exact ⟨by rw [this], ⟨rfl, rfl, rfl, Nat.le_refl _, fun k hk => rfl⟩⟩
theorem d_check (h1 : Reads w (.slice p1 (digs A).length q1) (digs A)) (l1 : (digs A).length ≤ 100000) :
    Calls Tryz.prog 32 #[.slice p1 (digs A).length q1] w fun e w' => e = .returned (.bool true) ∧ Below w.heap.size w w' :=
  (check_form h1 (by omega) (chk_digs _)).mono fun e w' ⟨h, h'⟩ => ⟨h, h' ▸ Below.refl _ _⟩
end

end Go.Proofs.YtmbnojkciikobaaGreatDoor
