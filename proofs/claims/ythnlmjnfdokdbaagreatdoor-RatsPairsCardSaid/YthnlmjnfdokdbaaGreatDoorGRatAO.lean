/- Fractions: the small calls, whose answers are the call's own. -/
import Derived.Test.YthnlmjnfdokdbaaGreatDoorGRatB
import Derived.Test.YthnlmjnfdokdbaaGreatDoorGMemO
import Derived.Test.YthnlmjnfdokdbaaGreatDoorGRatB
import Derived.Test.YthnlmjnfdokdbaaGreatDoorGRatB
set_option linter.unusedSimpArgs false
set_option linter.unusedVariables false
set_option maxRecDepth 100000
set_option maxHeartbeats 1000000
namespace Go.Proofs.YthnlmjnfdokdbaaGreatDoor
open Go Go.Proofs Go.RowKit Go.Shelf Nu

attribute [local go_sem] Oper.semAt_some

section
variable {w : World} {p1 p2 : Option Addr} {q1 q2 A B : Nat}
theorem d_quo_own (Q R : Nat) (h1 : Reads w (.slice p1 (digs A).length q1) (digs A)) (h2 : Reads w (.slice p2 (digs B).length q2) (digs B)) (l1 : (digs A).length ≤ 80000) (l2 : (digs B).length ≤ 80000) (h0 : B ≠ 0) (eQ : Q = A / B) (eR : R = A % B) :
  Calls Tryz.prog 116 #[.slice p1 (digs A).length q1, .slice p2 (digs B).length q2] w fun e w' => ∃ a c b d, e = .returned (.tuple #[.slice a (digs Q).length c, .slice b (digs R).length d, .int .i64 0]) ∧ Fresh w' w.heap.size (.slice a (digs Q).length c) (digs Q) ∧ Reads w' (.slice b (digs R).length d) (digs R) ∧ Below w.heap.size w w' := by
 subst eQ eR
 have k := divide_any h1 h2 l1 l2 (sm_digs _) (sm_digs _) (chk_digs _) (chk_digs _) (fun e => h0 (digs_eq_nil.1 e))
 rw [val_digs, val_digs] at k
 refine (div_of h1 h2 (by omega) (by omega) (chk_digs _) (chk_digs _) (fun e => h0 (digs_eq_nil.1 e)) k).mono ?_
 rintro e w' ⟨v1, v2, rfl, f, g, hb⟩
 obtain ⟨a, c, rfl⟩ := f.reads.form
 obtain ⟨b, d, rfl⟩ := g.reads.form
 exact ⟨a, c, b, d, rfl, f, g.reads, hb⟩
theorem d_gcd_own (G : Nat) (h1 : Reads w (.slice p1 (digs A).length q1) (digs A)) (h2 : Reads w (.slice p2 (digs B).length q2) (digs B)) (l1 : (digs A).length ≤ 80000) (l2 : (digs B).length ≤ 80000) (e : G = Nat.gcd A B) :
  Calls Tryz.prog 128 #[.slice p1 (digs A).length q1, .slice p2 (digs B).length q2] w fun e w' => ∃ a c, e = .returned (.slice a (digs G).length c) ∧ Fresh w' w.heap.size (.slice a (digs G).length c) (digs G) ∧ Below w.heap.size w w' := by
 refine (gcd_any h1 h2 l1 l2 (sm_digs _) (sm_digs _) G (by rw [nv_digs, nv_digs]; exact e)).mono ?_
 rintro e w' ⟨v, rfl, f, hb⟩
 obtain ⟨a, c, rfl⟩ := f.reads.form
 exact ⟨a, c, rfl, f, hb⟩
end
section
variable {W : World} {p1 p2 : Option Addr} {q1 q2 : Nat} {s1 s2 s3 : Bool} {L1 L2 L3 : List Nat} {X Y : Int}
theorem q_add_own (hX : Is s1 L1 X) (hY : Is s2 L2 Y) {Z : Int} (hZ : Can s3 L3 Z) (e : Z = X + Y) (l1 : L1.length ≤ 50000) (l2 : L2.length ≤ 50000) (h1 : Reads W (.slice p1 L1.length q1) L1) (h2 : Reads W (.slice p2 L2.length q2) L2) :
  Calls Tryz.prog 50 #[.agg #[.bool s1, .slice p1 L1.length q1], .agg #[.bool s2, .slice p2 L2.length q2]] W fun e w' => ∃ a c, e = .returned (.agg #[.bool s3, .slice a L3.length c]) ∧ Fresh w' W.heap.size (.slice a L3.length c) L3 ∧ Below W.heap.size W w' := by
 obtain ⟨rfl, rfl⟩ := hZ
 exact i_add_own Z h1 h2 l1 l2 hX.1 hY.1 (by rw [hX.2, hY.2, e])
theorem q_sub_own (hX : Is s1 L1 X) (hY : Is s2 L2 Y) {Z : Int} (hZ : Can s3 L3 Z) (e : Z = X - Y) (l1 : L1.length ≤ 50000) (l2 : L2.length ≤ 50000) (h1 : Reads W (.slice p1 L1.length q1) L1) (h2 : Reads W (.slice p2 L2.length q2) L2) :
  Calls Tryz.prog 51 #[.agg #[.bool s1, .slice p1 L1.length q1], .agg #[.bool s2, .slice p2 L2.length q2]] W fun e w' => ∃ a c, e = .returned (.agg #[.bool s3, .slice a L3.length c]) ∧ Fresh w' W.heap.size (.slice a L3.length c) L3 ∧ Below W.heap.size W w' := by
 obtain ⟨rfl, rfl⟩ := hZ
 exact i_sub_own Z h1 h2 l1 l2 hX.1 hY.1 (by rw [hX.2, hY.2, e])
theorem q_mul_own (hX : Is s1 L1 X) (hY : Is s2 L2 Y) {Z : Int} (hZ : Can s3 L3 Z) (e : Z = X * Y) (l1 : L1.length ≤ 50000) (l2 : L2.length ≤ 50000) (h1 : Reads W (.slice p1 L1.length q1) L1) (h2 : Reads W (.slice p2 L2.length q2) L2) :
  Calls Tryz.prog 54 #[.agg #[.bool s1, .slice p1 L1.length q1], .agg #[.bool s2, .slice p2 L2.length q2]] W fun e w' => ∃ a c, e = .returned (.agg #[.bool s3, .slice a L3.length c]) ∧ Fresh w' W.heap.size (.slice a L3.length c) L3 ∧ Below W.heap.size W w' := by
 obtain ⟨rfl, rfl⟩ := hZ
 exact i_mul_own Z h1 h2 l1 l2 hX.1 hY.1 (by rw [hX.2, hY.2, e])
end
section
variable {w : World} {p1 p2 : Option Addr} {q1 q2 : Nat} {s1 s2 : Bool} {L1 L2 L3 : List Nat}
theorem common_own {A B : Nat} (hA : L1 = digs A) (hB : L2 = digs B) (hG : L3 = digs (Nat.gcd A B)) (l1 : L1.length ≤ 80000) (l2 : L2.length ≤ 80000) (h1 : Reads w (.slice p1 L1.length q1) L1) (h2 : Reads w (.slice p2 L2.length q2) L2) :
  Calls Tryz.prog 53 #[.agg #[.bool s1, .slice p1 L1.length q1], .agg #[.bool s2, .slice p2 L2.length q2]] w fun e w' => ∃ a c, e = .returned (.agg #[.bool false, .slice a L3.length c]) ∧ Fresh w' w.heap.size (.slice a L3.length c) L3 ∧ Below w.heap.size w w' := by
 have kg : ∀ W, Below w.heap.size w W → Calls Tryz.prog 128 #[.slice p1 L1.length q1, .slice p2 L2.length q2] W fun e w' => ∃ a c, e = .returned (.slice a L3.length c) ∧ Fresh w' W.heap.size (.slice a L3.length c) L3 ∧ Below W.heap.size W w' :=
  fun W hW => by subst hA hB hG; exact d_gcd_own _ (h1.below hW) (h2.below hW) l1 l2 rfl
 have M0 : Mem w [(w.heap.size + 1 + 1, 25, [.bool false, .slice none 0 0]), (w.heap.size + 1, 25, [.bool s2, .slice p2 L2.length q2]), (w.heap.size, 25, [.bool s1, .slice p1 L1.length q1])] []
   (((w.alloc (.cells #[.bool s1, .slice p1 L1.length q1] 25)).alloc (.cells #[.bool s2, .slice p2 L2.length q2] 25)).alloc (.cells #[.bool false, .slice none 0 0] 25)) := by
  have M := (((Mem.start w).new 25 [.bool s1, .slice p1 L1.length q1]).new 25 [.bool s2, .slice p2 L2.length q2]).new 25 [.bool false, .slice none 0 0]
  simpa only [World.size_alloc] using M
 have M0 := MemO.of (n := 0) M0
 clear h1 h2 hA hB hG l1 l2
 go_enter Tryz.func53, Tryz.ntmps53
 go_wp2_with (go_at_call 128; refine (kg _ M0.below).mono ?_; clear kg; rintro e w1 ⟨a, c, rfl, g, rr⟩; have M := M0.upadd rr g; clear M0 g rr; have z0 := M.cell 0 rfl 0 rfl; have z1 := M.cell 0 rfl 1 rfl; have z2 := M.fr 0 rfl 0; have z3 := M.fr 0 rfl 1)
 have M' := (M.put 0 rfl rfl 0 (.bool false)).put 0 rfl rfl 1 (.slice a L3.length c)
 refine ret_boxN rfl rfl (M'.box 0 rfl) Tryz.underlying25 size_int rfl ?_
 exact ⟨a, c, rfl, M'.own 0 rfl, M'.below⟩
theorem over_own {X T : Int} {G : Nat} (hX : Can s1 L1 X) (hG : L2 = digs G) (hT : Can s1 L3 T) (e : X = G * T) (h0 : G ≠ 0) (l1 : L1.length ≤ 80000) (l2 : L2.length ≤ 80000) (h1 : Reads w (.slice p1 L1.length q1) L1) (h2 : Reads w (.slice p2 L2.length q2) L2) :
  Calls Tryz.prog 55 #[.agg #[.bool s1, .slice p1 L1.length q1], .agg #[.bool s2, .slice p2 L2.length q2]] w fun e w' => ∃ a c, e = .returned (.agg #[.bool s1, .slice a L3.length c]) ∧ Fresh w' w.heap.size (.slice a L3.length c) L3 ∧ Below w.heap.size w w' := by
 have kg : ∀ W, Below w.heap.size w W → Calls Tryz.prog 116 #[.slice p1 L1.length q1, .slice p2 L2.length q2] W fun e w' => ∃ a c b d, e = .returned (.tuple #[.slice a L3.length c, .slice b 0 d, .int .i64 0]) ∧ Fresh w' W.heap.size (.slice a L3.length c) L3 ∧ Below W.heap.size W w' := by
  intro W hW
  have eA : X.natAbs = G * T.natAbs := by rw [e, Int.natAbs_mul]; rfl
  obtain ⟨_, rfl⟩ := hX
  obtain ⟨_, rfl⟩ := hT
  subst hG
  refine (d_quo_own T.natAbs 0 (h1.below hW) (h2.below hW) l1 l2 h0 (by rw [eA, Nat.mul_div_cancel_left _ (by omega)]) (by rw [eA, Nat.mul_mod_right])).mono ?_
  rintro e w' ⟨a, c, b, d, rfl, g, _, rr⟩
  exact ⟨a, c, b, d, by rw [digs_zero]; rfl, g, rr⟩
 have M0 : Mem w [(w.heap.size + 1 + 1, 25, [.bool false, .slice none 0 0]), (w.heap.size + 1, 25, [.bool s2, .slice p2 L2.length q2]), (w.heap.size, 25, [.bool s1, .slice p1 L1.length q1])] []
   (((w.alloc (.cells #[.bool s1, .slice p1 L1.length q1] 25)).alloc (.cells #[.bool s2, .slice p2 L2.length q2] 25)).alloc (.cells #[.bool false, .slice none 0 0] 25)) := by
  have M := (((Mem.start w).new 25 [.bool s1, .slice p1 L1.length q1]).new 25 [.bool s2, .slice p2 L2.length q2]).new 25 [.bool false, .slice none 0 0]
  simpa only [World.size_alloc] using M
 have M0 := MemO.of (n := 0) M0
 clear h1 h2 hX hT hG l1 l2 e h0
 go_enter Tryz.func55, Tryz.ntmps55
 go_wp2_with (go_at_call 116; refine (kg _ M0.below).mono ?_; clear kg; rintro e w1 ⟨a, c, b, d, rfl, g, rr⟩; have M := M0.upadd rr g; clear M0 g rr; have z0 := M.cell 0 rfl 0 rfl; have z1 := M.cell 0 rfl 1 rfl; have z2 := M.fr 0 rfl 0; have z3 := M.fr 0 rfl 1; have z4 := M.cell 2 rfl 0 rfl)
 have M' := (M.put 0 rfl rfl 0 (.bool s1)).put 0 rfl rfl 1 (.slice a L3.length c)
 refine ret_boxN rfl rfl (M'.box 0 rfl) Tryz.underlying25 size_int rfl ?_
 exact ⟨a, c, rfl, M'.own 0 rfl, M'.below⟩
end
section
variable {w : World} {s : Bool} {L D : List Nat}
end

end Go.Proofs.YthnlmjnfdokdbaaGreatDoor
