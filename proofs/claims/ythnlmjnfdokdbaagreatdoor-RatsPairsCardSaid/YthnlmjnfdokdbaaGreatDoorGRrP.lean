/- The document's answer: whole numbers as fractions want them. -/
import Derived.Test.YthnlmjnfdokdbaaGreatDoorGRatLit
import Derived.Test.YthnlmjnfdokdbaaGreatDoorGRefI
import Derived.Test.YthnlmjnfdokdbaaGreatDoorGGreatP
import Derived.Test.YthnlmjnfdokdbaaGreatDoorGGreatP
set_option linter.unusedSimpArgs false
set_option linter.unusedVariables false
namespace Go.Proofs.YthnlmjnfdokdbaaGreatDoor
open Go Go.Proofs Go.RowKit Go.Shelf Nu

attribute [local go_sem] Oper.semAt_some

section
variable {W : World} {p1 p2 : Option Addr} {q1 q2 : Nat} {s1 s2 s3 : Bool} {L1 L2 L3 : List Nat} {X Y : Int}
theorem p_add (hX : Is s1 L1 X) (hY : Is s2 L2 Y) {Z : Int} (hZ : Can s3 L3 Z) (e : Z = X + Y) (l1 : L1.length ≤ 50000) (l2 : L2.length ≤ 50000) (h1 : Reads W (.slice p1 L1.length q1) L1) (h2 : Reads W (.slice p2 L2.length q2) L2) :
  Calls Tryz.prog 69 #[.agg #[.bool s1, .slice p1 L1.length q1], .agg #[.bool s2, .slice p2 L2.length q2]] W fun e w' => ∃ a c, e = .returned (.agg #[.bool s3, .slice a L3.length c]) ∧ Reads w' (.slice a L3.length c) L3 ∧ Below W.heap.size W w' := by
 obtain ⟨rfl, rfl⟩ := hZ
 exact ri_add Z h1 h2 l1 l2 hX.1 hY.1 (by rw [hX.2, hY.2, e])
theorem p_mul (hX : Is s1 L1 X) (hY : Is s2 L2 Y) {Z : Int} (hZ : Can s3 L3 Z) (e : Z = X * Y) (l1 : L1.length ≤ 50000) (l2 : L2.length ≤ 50000) (h1 : Reads W (.slice p1 L1.length q1) L1) (h2 : Reads W (.slice p2 L2.length q2) L2) :
  Calls Tryz.prog 72 #[.agg #[.bool s1, .slice p1 L1.length q1], .agg #[.bool s2, .slice p2 L2.length q2]] W fun e w' => ∃ a c, e = .returned (.agg #[.bool s3, .slice a L3.length c]) ∧ Reads w' (.slice a L3.length c) L3 ∧ Below W.heap.size W w' := by
 obtain ⟨rfl, rfl⟩ := hZ
 exact ri_mul Z h1 h2 l1 l2 hX.1 hY.1 (by rw [hX.2, hY.2, e])
theorem p_neg (hX : Is s1 L1 X) {Z : Int} (hZ : Can s3 L3 Z) (e : Z = -X) (l1 : L1.length ≤ 50000) (h1 : Reads W (.slice p1 L1.length q1) L1) :
  Calls Tryz.prog 151 #[.agg #[.bool s1, .slice p1 L1.length q1]] W fun e w' => ∃ a c, e = .returned (.agg #[.bool s3, .slice a L3.length c]) ∧ Reads w' (.slice a L3.length c) L3 ∧ Below W.heap.size W w' := by
 obtain ⟨rfl, rfl⟩ := hZ
 exact ri_neg Z h1 l1 hX.1 (by rw [hX.2, e])
theorem p_cmp (z : Int) (hX : Is s1 L1 X) (hY : Is s2 L2 Y) (e : sgz X Y = z) (l1 : L1.length ≤ 20000) (l2 : L2.length ≤ 20000) (h1 : Reads W (.slice p1 L1.length q1) L1) (h2 : Reads W (.slice p2 L2.length q2) L2) :
  Calls Tryz.prog 64 #[.agg #[.bool s1, .slice p1 L1.length q1], .agg #[.bool s2, .slice p2 L2.length q2]] W fun e w' => e = .returned (.int .i64 z) ∧ Below W.heap.size W w' :=
 ri_cmp z h1 h2 l1 l2 hX.1 hY.1 (by rw [hX.2, hY.2, e])
theorem p_sign (z : Int) (hX : Is s1 L1 X) (e : sgz X 0 = z) (l1 : L1.length ≤ 50000) (h1 : Reads W (.slice p1 L1.length q1) L1) :
  Calls Tryz.prog 67 #[.agg #[.bool s1, .slice p1 L1.length q1]] W fun e w' => e = .returned (.int .i64 z) ∧ Below W.heap.size W w' :=
 ri_sign z h1 l1 hX.1 (by rw [hX.2, e])
theorem p_quo {Q : List Nat} {A B C : Nat} (hA : L1 = digs A) (hB : L2 = digs B) (hQ : Q = digs C) (e : A = B * C) (h0 : B ≠ 0) (l1 : L1.length ≤ 80000) (l2 : L2.length ≤ 80000) (h1 : Reads W (.slice p1 L1.length q1) L1) (h2 : Reads W (.slice p2 L2.length q2) L2) :
  Calls Tryz.prog 131 #[.slice p1 L1.length q1, .slice p2 L2.length q2] W fun e w' => ∃ a c b d, e = .returned (.tuple #[.slice a Q.length c, .slice b 0 d, .int .i64 0]) ∧ Reads w' (.slice a Q.length c) Q ∧ Below W.heap.size W w' := by
 subst hA hB hQ
 refine (rdiv_digs h1 h2 l1 l2 h0).mono ?_
 rintro _ w' ⟨v1, v2, rfl, g, g2, hb⟩
 rw [e, Nat.mul_div_cancel_left _ (Nat.pos_of_ne_zero h0)] at g
 rw [e, Nat.mul_mod_right, digs_zero] at g2
 obtain ⟨a, c, rfl⟩ := g.form
 obtain ⟨b, d, rfl⟩ := g2.form
 exact ⟨a, c, b, d, rfl, g, hb⟩
theorem p_gcd {G : List Nat} {A B : Nat} (hA : L1 = digs A) (hB : L2 = digs B) (hG : G = digs (Nat.gcd A B)) (l1 : L1.length ≤ 80000) (l2 : L2.length ≤ 80000) (h1 : Reads W (.slice p1 L1.length q1) L1) (h2 : Reads W (.slice p2 L2.length q2) L2) :
  Calls Tryz.prog 130 #[.slice p1 L1.length q1, .slice p2 L2.length q2] W fun e w' => ∃ a c, e = .returned (.slice a G.length c) ∧ Reads w' (.slice a G.length c) G ∧ Below W.heap.size W w' := by
 subst hA hB hG
 have k := rgcd_any h1 h2 l1 l2 (sm_digs _) (sm_digs _)
 rw [nv_digs, nv_digs] at k
 refine k.mono ?_
 rintro _ w' ⟨v, rfl, g, hb⟩
 obtain ⟨a, c, rfl⟩ := g.form
 exact ⟨a, c, rfl, g, hb⟩
theorem p_nmul {P : List Nat} {A B : Nat} (hA : L1 = digs A) (hB : L2 = digs B) (hP : P = digs (A * B)) (l1 : L1.length ≤ 80000) (l2 : L2.length ≤ 80000) (h1 : Reads W (.slice p1 L1.length q1) L1) (h2 : Reads W (.slice p2 L2.length q2) L2) :
  Calls Tryz.prog 70 #[.slice p1 L1.length q1, .slice p2 L2.length q2] W fun e w' => ∃ a c, e = .returned (.slice a P.length c) ∧ Reads w' (.slice a P.length c) P ∧ Below W.heap.size W w' := by
 subst hA hB hP
 have k := rmul_any h1 h2 (by omega) (by omega) (sm_digs _) (sm_digs _)
 rw [nv_digs, nv_digs] at k
 refine k.mono ?_
 rintro _ w' ⟨v, rfl, g, hb⟩
 obtain ⟨a, c, rfl⟩ := g.form
 exact ⟨a, c, rfl, g, hb⟩
end
theorem digs_single {G : Nat} (h : (digs G).length = 1) : digs G = [G] := by
 cases e : digs G with
 | nil => rw [e] at h; simp at h
 | cons x t =>
  have ht : t = [] := by rw [e] at h; simpa using h
  subst ht
  have := val_digs G
  rw [e, val_one] at this
  rw [this]

end Go.Proofs.YthnlmjnfdokdbaaGreatDoor
