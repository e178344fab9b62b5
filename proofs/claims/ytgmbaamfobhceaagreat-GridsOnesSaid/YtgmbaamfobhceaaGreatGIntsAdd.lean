/- Whole numbers: sums. -/
import Derived.Deep.DeepCutAuto
import Derived.Deep.RegionHeld3
import Derived.Test.YtgmbaamfobhceaaGreatGIntsBox
set_option linter.unusedSimpArgs false
set_option linter.unusedVariables false
set_option maxRecDepth 100000
set_option maxHeartbeats 8000000
namespace Go.Proofs.YtgmbaamfobhceaaGreat
open Go Go.Proofs Go.RowKit Go.Shelf Nu
attribute [local go_sem] Oper.semAt_some
theorem iadd_any {w : World} {b0 : Nat} {n1 n2 m1 m2 R : Bool} {v1 v2 : Value} {p1 p2 : Option Addr} {k1 q1' k2 q2' M F : Nat} {L : List Nat} (f1 : ∃ a n c, v1 = .slice a n c) (f2 : ∃ a n c, v2 = .slice a n c)
  (ko1 : ∀ W, Below w.heap.size w W → Calls Tryz.prog 134 #[.agg #[.bool n1, v1]] W fun e w' => e = .returned (.agg #[.bool m1, .slice p1 k1 q1']) ∧ Below W.heap.size W w')
  (ko2 : ∀ W, Below w.heap.size w W → Calls Tryz.prog 134 #[.agg #[.bool n2, v2]] W fun e w' => e = .returned (.agg #[.bool m2, .slice p2 k2 q2']) ∧ Below W.heap.size W w')
  (hF : F = 165 ∨ F = 166)
  (ka : ∀ W, Calls Tryz.prog 141 #[.agg #[.bool m1, .slice p1 k1 q1'], .bool m2] W fun e w' => e = .returned (.func (.func F) #[.agg #[.bool m1, .slice p1 k1 q1']] #[]) ∧ Below W.heap.size W w')
  (kf : ∀ W, Below w.heap.size w W → Calls Tryz.prog F #[.agg #[.bool m1, .slice p1 k1 q1'], .slice p2 k2 q2'] W fun e w' => ∃ a c, e = .returned (.agg #[.bool R, .slice a M c]) ∧ Fresh w' b0 (.slice a M c) L ∧ Below W.heap.size W w') :
  Calls Tryz.prog 104 #[.agg #[.bool n1, v1], .agg #[.bool n2, v2]] w fun e w' => ∃ a c, e = .returned (.agg #[.bool R, .slice a M c]) ∧ Fresh w' b0 (.slice a M c) L ∧ Below w.heap.size w w' := by
 obtain ⟨s1, t1, c1, rfl⟩ := f1
 obtain ⟨s2, t2, c2, rfl⟩ := f2
 have K0 : BoxS w.heap.size 42 n1 s1 t1 c1 n2 s2 t2 c2 true (((w.alloc (.cells #[.bool n1, .slice s1 t1 c1] 42)).alloc (.cells #[.bool n2, .slice s2 t2 c2] 42)).alloc (.cells #[.bool false, .slice none 0 0] 42)).drew := by
  refine ⟨(((Box2.new w _ _ _).alloc _).alloc _).drew, ((Box2.new1 w _ _ _ _).alloc _).drew, fun _ => ?_, by simp⟩
  have := Box2.new1 (w.alloc (.cells #[.bool n1, .slice s1 t1 c1] 42)) (.cells #[.bool n2, .slice s2 t2 c2] 42) 42 (.bool false) (.slice none 0 0)
  rw [World.size_alloc] at this
  exact this
 have h0 : Below w.heap.size w (((w.alloc (.cells #[.bool n1, .slice s1 t1 c1] 42)).alloc (.cells #[.bool n2, .slice s2 t2 c2] 42)).alloc (.cells #[.bool false, .slice none 0 0] 42)) := (((Below.refl _ _).alloc (Nat.le_refl _) _).alloc (by simp) _).alloc (by simp; omega) _
 go_enter Tryz.func104, Tryz.ntmps104
 go_upto_region 1 with fail
 go_cut [5, 6] (fun x y wx => ∃ sx sy, x = .pointer (some ⟨sx, 0, none⟩) ∧ y = .pointer (some ⟨sy, 0, none⟩) ∧ Box2 wx sx 144 (.bool m1) (.slice p1 k1 q1') ∧ Box2 wx sy 144 (.bool m2) (.slice p2 k2 q2') ∧ Box2 wx (w.heap.size + 1 + 1) 42 (.bool false) (.slice none 0 0) ∧ Below w.heap.size w wx)
 case first =>
  refine wp_region_held (S := fun W => W.cell? ⟨w.heap.size, 0, none⟩ = some (.bool n1) ∧ W.cell? ⟨w.heap.size, 1, none⟩ = some (.slice s1 t1 c1) ∧ W.cell? ⟨w.heap.size + 1, 0, none⟩ = some (.bool n2) ∧ W.cell? ⟨w.heap.size + 1, 1, none⟩ = some (.slice s2 t2 c2)) (by kernel_rfl) ?_
  change wpAnyH _ _ _ _ _ _ _ _ (((w.alloc (.cells #[.bool n1, .slice s1 t1 c1] 42)).alloc (.cells #[.bool n2, .slice s2 t2 c2] 42)).alloc (.cells #[.bool false, .slice none 0 0] 42)).drew
  obtain ⟨W0, hW0⟩ : ∃ W0, W0 = (((w.alloc (.cells #[.bool n1, .slice s1 t1 c1] 42)).alloc (.cells #[.bool n2, .slice s2 t2 c2] 42)).alloc (.cells #[.bool false, .slice none 0 0] 42)).drew := ⟨_, rfl⟩
  have K := K0
  have h := h0.drew
  clear K0 h0
  rw [← hW0] at K h ⊢
  clear hW0
  have hS0 := bsC K
  refine wtp 0 (.agg #[.bool n1, .slice s1 t1 c1]) rfl (fun _ _ _ h => h) (Or.inl ⟨by rfl, fun W3 hS => by obtain ⟨hS1, hS2, hS3, hS4⟩ := hS; go_simp⟩) hS0 ?_
  refine wtp 2 (.agg #[.bool n2, .slice s2 t2 c2]) rfl (fun _ _ _ h => h) (Or.inl ⟨by rfl, fun W3 hS => by obtain ⟨hS1, hS2, hS3, hS4⟩ := hS; go_simp⟩) hS0 ?_
  clear hS0
  refine three_op 1 4 5 ?_ ?_ ?_
  · refine wpOp_intro rfl (fun K1 hK => ?_)
    go_simp
    refine (ko1 _ h).mono ?_
    rintro e v1_1 ⟨rfl, r1⟩
    have K' := K.below r1; have h' := then_below h r1; clear K h; have K := K'; have h := h'; clear K' h'
    refine hK _ _ ⟨bsC K, ?_⟩
    clear hK K1 r1
    refine three_op 3 4 5 ?_ ?_ ?_
    · refine wpOp_intro rfl (fun K2 hK => ?_)
      go_simp
      refine (ko2 _ h).mono ?_
      rintro e v2_3 ⟨rfl, r2⟩
      have K' := K.below r2; have h' := then_below h r2; clear K h; have K := K'; have h := h'; clear K' h'
      refine hK _ _ ⟨bsC K, ?_⟩
      clear hK K2 r2
      refine two_op 4 5 ?_ ?_
      · refine wpOp_intro rfl (fun K3 hK => ?_)
        go_simp
        have hn3 := K.lt
        have b3 := h.size
        obtain ⟨v3_4, hV, K', h', X'⟩ : ∃ V, V = v2_3.alloc (.cells #[.bool false, .slice none 0 0] 144) ∧ BoxS w.heap.size 42 n1 s1 t1 c1 n2 s2 t2 c2 true V ∧ Below w.heap.size w V ∧ Box2 V v2_3.heap.size 144 (.bool false) (.slice none 0 0) := ⟨_, rfl, K.alloc _, h.alloc h.size _, Box2.new _ _ _ _⟩
        rw [← hV]
        clear K h hV; have K := K'; have h := h'; have X := X'; clear K' h' X'
        have hxs : w.heap.size + 1 + 1 < v2_3.heap.size := hn3
        refine hK _ _ ⟨bsC K, ?_⟩
        clear hK K3
        refine one_op 5 rfl (fun K4 hK => ?_)
        go_simp
        have hn4 := K.lt
        have b4 := h.size
        obtain ⟨v4_5, hV, K', h', Y', Z'⟩ : ∃ V, V = v3_4.alloc (.cells #[.bool false, .slice none 0 0] 144) ∧ BoxS w.heap.size 42 n1 s1 t1 c1 n2 s2 t2 c2 true V ∧ Below w.heap.size w V ∧ Box2 V v3_4.heap.size 144 (.bool false) (.slice none 0 0) ∧ Box2 V v2_3.heap.size 144 (.bool false) (.slice none 0 0) := ⟨_, rfl, K.alloc _, h.alloc h.size _, Box2.new _ _ _ _, X.alloc _⟩
        have hne4 := X.lt
        rw [← hV]
        clear K h X hV; have K := K'; have h := h'; have Y := Y'; clear K' h' Y'
        have X := Z'; clear Z'
        have hys : w.heap.size + 1 + 1 < v3_4.heap.size := hn4
        have hxy : v2_3.heap.size ≠ v3_4.heap.size := by omega
        refine hK _ _ ⟨bsC K, ?_⟩
        clear hK K4
        have q0 := X.c0; have q1 := X.c1; have q2 := X.fr 0; have q3 := X.fr 1
        refine one_op 6 rfl (fun K5 hK => ?_)
        go_simp
        have X6 := (X.set0 (.bool m1)).set1 (.slice p1 k1 q1')
        have Y6 := (Y.other (o := 0) (Ne.symm hxy) (.bool m1)).other (o := 1) (Ne.symm hxy) (.slice p1 k1 q1')
        have K6 := (K.other (o := 0) hxs (.bool m1)).other (o := 1) hxs (.slice p1 k1 q1')
        have h6 := below_sets h (by omega) (.bool m1) (.slice p1 k1 q1') (B := v2_3.heap.size)
        refine hK _ _ ⟨bsC K6, ?_⟩
        clear hK K5 q0 q1 q2 q3
        have q0 := Y6.c0; have q1 := Y6.c1; have q2 := Y6.fr 0; have q3 := Y6.fr 1
        refine one_op 7 rfl (fun K7 hK => ?_)
        go_simp
        have X7 := (X6.other (o := 0) hxy (.bool m2)).other (o := 1) hxy (.slice p2 k2 q2')
        have Y7 := (Y6.set0 (.bool m2)).set1 (.slice p2 k2 q2')
        have K7' := (K6.other (o := 0) hys (.bool m2)).other (o := 1) hys (.slice p2 k2 q2')
        have h7 := below_sets h6 (by omega) (.bool m2) (.slice p2 k2 q2') (B := v3_4.heap.size)
        refine hK _ _ ⟨bsC K7', ?_⟩
        clear hK K7
        refine wdn ?_
        go_wp2_with fail; go_meet; exact ⟨_, _, rfl, rfl, X7, Y7, K7'.2.2.1 rfl, h7⟩
      · refine wpOp_intro rfl (fun K3 hK => ?_)
        go_simp
        have hn3 := K.lt
        have b3 := h.size
        obtain ⟨v3_5, hV, K', h', Y'⟩ : ∃ V, V = v2_3.alloc (.cells #[.bool false, .slice none 0 0] 144) ∧ BoxS w.heap.size 42 n1 s1 t1 c1 n2 s2 t2 c2 true V ∧ Below w.heap.size w V ∧ Box2 V v2_3.heap.size 144 (.bool false) (.slice none 0 0) := ⟨_, rfl, K.alloc _, h.alloc h.size _, Box2.new _ _ _ _⟩
        rw [← hV]
        clear K h hV; have K := K'; have h := h'; have Y := Y'; clear K' h' Y'
        have hys : w.heap.size + 1 + 1 < v2_3.heap.size := hn3
        refine hK _ _ ⟨bsC K, ?_⟩
        clear hK K3
        refine one_op 4 rfl (fun K5 hK => ?_)
        go_simp
        have hn5 := K.lt
        have b5 := h.size
        obtain ⟨v5_4, hV, K', h', X', Z'⟩ : ∃ V, V = v3_5.alloc (.cells #[.bool false, .slice none 0 0] 144) ∧ BoxS w.heap.size 42 n1 s1 t1 c1 n2 s2 t2 c2 true V ∧ Below w.heap.size w V ∧ Box2 V v3_5.heap.size 144 (.bool false) (.slice none 0 0) ∧ Box2 V v2_3.heap.size 144 (.bool false) (.slice none 0 0) := ⟨_, rfl, K.alloc _, h.alloc h.size _, Box2.new _ _ _ _, Y.alloc _⟩
        have hne5 := Y.lt
        rw [← hV]
        clear K h Y hV; have K := K'; have h := h'; have X := X'; clear K' h' X'
        have Y := Z'; clear Z'
        have hxs : w.heap.size + 1 + 1 < v3_5.heap.size := hn5
        have hxy : v3_5.heap.size ≠ v2_3.heap.size := by omega
        refine hK _ _ ⟨bsC K, ?_⟩
        clear hK K5
        have q0 := X.c0; have q1 := X.c1; have q2 := X.fr 0; have q3 := X.fr 1
        refine one_op 6 rfl (fun K5 hK => ?_)
        go_simp
        have X6 := (X.set0 (.bool m1)).set1 (.slice p1 k1 q1')
        have Y6 := (Y.other (o := 0) (Ne.symm hxy) (.bool m1)).other (o := 1) (Ne.symm hxy) (.slice p1 k1 q1')
        have K6 := (K.other (o := 0) hxs (.bool m1)).other (o := 1) hxs (.slice p1 k1 q1')
        have h6 := below_sets h (by omega) (.bool m1) (.slice p1 k1 q1') (B := v3_5.heap.size)
        refine hK _ _ ⟨bsC K6, ?_⟩
        clear hK K5 q0 q1 q2 q3
        have q0 := Y6.c0; have q1 := Y6.c1; have q2 := Y6.fr 0; have q3 := Y6.fr 1
        refine one_op 7 rfl (fun K7 hK => ?_)
        go_simp
        have X7 := (X6.other (o := 0) hxy (.bool m2)).other (o := 1) hxy (.slice p2 k2 q2')
        have Y7 := (Y6.set0 (.bool m2)).set1 (.slice p2 k2 q2')
        have K7' := (K6.other (o := 0) hys (.bool m2)).other (o := 1) hys (.slice p2 k2 q2')
        have h7 := below_sets h6 (by omega) (.bool m2) (.slice p2 k2 q2') (B := v2_3.heap.size)
        refine hK _ _ ⟨bsC K7', ?_⟩
        clear hK K7
        refine wdn ?_
        go_wp2_with fail; go_meet; exact ⟨_, _, rfl, rfl, X7, Y7, K7'.2.2.1 rfl, h7⟩
    · refine wpOp_intro rfl (fun K2 hK => ?_)
      go_simp
      have hn2 := K.lt
      have b2 := h.size
      obtain ⟨v2_4, hV, K', h', X'⟩ : ∃ V, V = v1_1.alloc (.cells #[.bool false, .slice none 0 0] 144) ∧ BoxS w.heap.size 42 n1 s1 t1 c1 n2 s2 t2 c2 true V ∧ Below w.heap.size w V ∧ Box2 V v1_1.heap.size 144 (.bool false) (.slice none 0 0) := ⟨_, rfl, K.alloc _, h.alloc h.size _, Box2.new _ _ _ _⟩
      rw [← hV]
      clear K h hV; have K := K'; have h := h'; have X := X'; clear K' h' X'
      have hxs : w.heap.size + 1 + 1 < v1_1.heap.size := hn2
      refine hK _ _ ⟨bsC K, ?_⟩
      clear hK K2
      refine two_op 3 5 ?_ ?_
      · refine wpOp_intro rfl (fun K6 hK => ?_)
        go_simp
        refine (ko2 _ h).mono ?_
        rintro e v6_3 ⟨rfl, r6⟩
        have K' := K.below r6; have h' := then_below h r6; clear K h; have K := K'; have h := h'; clear K' h'
        have X' := X.below r6; clear X; have X := X'; clear X'
        refine hK _ _ ⟨bsC K, ?_⟩
        clear hK K6 r6
        refine one_op 5 rfl (fun K7 hK => ?_)
        go_simp
        have hn7 := K.lt
        have b7 := h.size
        obtain ⟨v7_5, hV, K', h', Y', Z'⟩ : ∃ V, V = v6_3.alloc (.cells #[.bool false, .slice none 0 0] 144) ∧ BoxS w.heap.size 42 n1 s1 t1 c1 n2 s2 t2 c2 true V ∧ Below w.heap.size w V ∧ Box2 V v6_3.heap.size 144 (.bool false) (.slice none 0 0) ∧ Box2 V v1_1.heap.size 144 (.bool false) (.slice none 0 0) := ⟨_, rfl, K.alloc _, h.alloc h.size _, Box2.new _ _ _ _, X.alloc _⟩
        have hne7 := X.lt
        rw [← hV]
        clear K h X hV; have K := K'; have h := h'; have Y := Y'; clear K' h' Y'
        have X := Z'; clear Z'
        have hys : w.heap.size + 1 + 1 < v6_3.heap.size := hn7
        have hxy : v1_1.heap.size ≠ v6_3.heap.size := by omega
        refine hK _ _ ⟨bsC K, ?_⟩
        clear hK K7
        have q0 := X.c0; have q1 := X.c1; have q2 := X.fr 0; have q3 := X.fr 1
        refine one_op 6 rfl (fun K5 hK => ?_)
        go_simp
        have X6 := (X.set0 (.bool m1)).set1 (.slice p1 k1 q1')
        have Y6 := (Y.other (o := 0) (Ne.symm hxy) (.bool m1)).other (o := 1) (Ne.symm hxy) (.slice p1 k1 q1')
        have K6 := (K.other (o := 0) hxs (.bool m1)).other (o := 1) hxs (.slice p1 k1 q1')
        have h6 := below_sets h (by omega) (.bool m1) (.slice p1 k1 q1') (B := v1_1.heap.size)
        refine hK _ _ ⟨bsC K6, ?_⟩
        clear hK K5 q0 q1 q2 q3
        have q0 := Y6.c0; have q1 := Y6.c1; have q2 := Y6.fr 0; have q3 := Y6.fr 1
        refine one_op 7 rfl (fun K7 hK => ?_)
        go_simp
        have X7 := (X6.other (o := 0) hxy (.bool m2)).other (o := 1) hxy (.slice p2 k2 q2')
        have Y7 := (Y6.set0 (.bool m2)).set1 (.slice p2 k2 q2')
        have K7' := (K6.other (o := 0) hys (.bool m2)).other (o := 1) hys (.slice p2 k2 q2')
        have h7 := below_sets h6 (by omega) (.bool m2) (.slice p2 k2 q2') (B := v6_3.heap.size)
        refine hK _ _ ⟨bsC K7', ?_⟩
        clear hK K7
        refine wdn ?_
        go_wp2_with fail; go_meet; exact ⟨_, _, rfl, rfl, X7, Y7, K7'.2.2.1 rfl, h7⟩
      · refine wpOp_intro rfl (fun K6 hK => ?_)
        go_simp
        have hn6 := K.lt
        have b6 := h.size
        obtain ⟨v6_5, hV, K', h', Y', Z'⟩ : ∃ V, V = v2_4.alloc (.cells #[.bool false, .slice none 0 0] 144) ∧ BoxS w.heap.size 42 n1 s1 t1 c1 n2 s2 t2 c2 true V ∧ Below w.heap.size w V ∧ Box2 V v2_4.heap.size 144 (.bool false) (.slice none 0 0) ∧ Box2 V v1_1.heap.size 144 (.bool false) (.slice none 0 0) := ⟨_, rfl, K.alloc _, h.alloc h.size _, Box2.new _ _ _ _, X.alloc _⟩
        have hne6 := X.lt
        rw [← hV]
        clear K h X hV; have K := K'; have h := h'; have Y := Y'; clear K' h' Y'
        have X := Z'; clear Z'
        have hys : w.heap.size + 1 + 1 < v2_4.heap.size := hn6
        have hxy : v1_1.heap.size ≠ v2_4.heap.size := by omega
        refine hK _ _ ⟨bsC K, ?_⟩
        clear hK K6
        refine one_op 3 rfl (fun K8 hK => ?_)
        go_simp
        refine (ko2 _ h).mono ?_
        rintro e v8_3 ⟨rfl, r8⟩
        have K' := K.below r8; have h' := then_below h r8; clear K h; have K := K'; have h := h'; clear K' h'
        have X' := X.below r8; clear X; have X := X'; clear X'
        have Y' := Y.below r8; clear Y; have Y := Y'; clear Y'
        refine hK _ _ ⟨bsC K, ?_⟩
        clear hK K8 r8
        have q0 := X.c0; have q1 := X.c1; have q2 := X.fr 0; have q3 := X.fr 1
        refine one_op 6 rfl (fun K5 hK => ?_)
        go_simp
        have X6 := (X.set0 (.bool m1)).set1 (.slice p1 k1 q1')
        have Y6 := (Y.other (o := 0) (Ne.symm hxy) (.bool m1)).other (o := 1) (Ne.symm hxy) (.slice p1 k1 q1')
        have K6 := (K.other (o := 0) hxs (.bool m1)).other (o := 1) hxs (.slice p1 k1 q1')
        have h6 := below_sets h (by omega) (.bool m1) (.slice p1 k1 q1') (B := v1_1.heap.size)
        refine hK _ _ ⟨bsC K6, ?_⟩
        clear hK K5 q0 q1 q2 q3
        have q0 := Y6.c0; have q1 := Y6.c1; have q2 := Y6.fr 0; have q3 := Y6.fr 1
        refine one_op 7 rfl (fun K7 hK => ?_)
        go_simp
        have X7 := (X6.other (o := 0) hxy (.bool m2)).other (o := 1) hxy (.slice p2 k2 q2')
        have Y7 := (Y6.set0 (.bool m2)).set1 (.slice p2 k2 q2')
        have K7' := (K6.other (o := 0) hys (.bool m2)).other (o := 1) hys (.slice p2 k2 q2')
        have h7 := below_sets h6 (by omega) (.bool m2) (.slice p2 k2 q2') (B := v2_4.heap.size)
        refine hK _ _ ⟨bsC K7', ?_⟩
        clear hK K7
        refine wdn ?_
        go_wp2_with fail; go_meet; exact ⟨_, _, rfl, rfl, X7, Y7, K7'.2.2.1 rfl, h7⟩
    · refine wpOp_intro rfl (fun K2 hK => ?_)
      go_simp
      have hn2 := K.lt
      have b2 := h.size
      obtain ⟨v2_5, hV, K', h', Y'⟩ : ∃ V, V = v1_1.alloc (.cells #[.bool false, .slice none 0 0] 144) ∧ BoxS w.heap.size 42 n1 s1 t1 c1 n2 s2 t2 c2 true V ∧ Below w.heap.size w V ∧ Box2 V v1_1.heap.size 144 (.bool false) (.slice none 0 0) := ⟨_, rfl, K.alloc _, h.alloc h.size _, Box2.new _ _ _ _⟩
      rw [← hV]
      clear K h hV; have K := K'; have h := h'; have Y := Y'; clear K' h' Y'
      have hys : w.heap.size + 1 + 1 < v1_1.heap.size := hn2
      refine hK _ _ ⟨bsC K, ?_⟩
      clear hK K2
      refine two_op 3 4 ?_ ?_
      · refine wpOp_intro rfl (fun K9 hK => ?_)
        go_simp
        refine (ko2 _ h).mono ?_
        rintro e v9_3 ⟨rfl, r9⟩
        have K' := K.below r9; have h' := then_below h r9; clear K h; have K := K'; have h := h'; clear K' h'
        have Y' := Y.below r9; clear Y; have Y := Y'; clear Y'
        refine hK _ _ ⟨bsC K, ?_⟩
        clear hK K9 r9
        refine one_op 4 rfl (fun K10 hK => ?_)
        go_simp
        have hn10 := K.lt
        have b10 := h.size
        obtain ⟨v10_4, hV, K', h', X', Z'⟩ : ∃ V, V = v9_3.alloc (.cells #[.bool false, .slice none 0 0] 144) ∧ BoxS w.heap.size 42 n1 s1 t1 c1 n2 s2 t2 c2 true V ∧ Below w.heap.size w V ∧ Box2 V v9_3.heap.size 144 (.bool false) (.slice none 0 0) ∧ Box2 V v1_1.heap.size 144 (.bool false) (.slice none 0 0) := ⟨_, rfl, K.alloc _, h.alloc h.size _, Box2.new _ _ _ _, Y.alloc _⟩
        have hne10 := Y.lt
        rw [← hV]
        clear K h Y hV; have K := K'; have h := h'; have X := X'; clear K' h' X'
        have Y := Z'; clear Z'
        have hxs : w.heap.size + 1 + 1 < v9_3.heap.size := hn10
        have hxy : v9_3.heap.size ≠ v1_1.heap.size := by omega
        refine hK _ _ ⟨bsC K, ?_⟩
        clear hK K10
        have q0 := X.c0; have q1 := X.c1; have q2 := X.fr 0; have q3 := X.fr 1
        refine one_op 6 rfl (fun K5 hK => ?_)
        go_simp
        have X6 := (X.set0 (.bool m1)).set1 (.slice p1 k1 q1')
        have Y6 := (Y.other (o := 0) (Ne.symm hxy) (.bool m1)).other (o := 1) (Ne.symm hxy) (.slice p1 k1 q1')
        have K6 := (K.other (o := 0) hxs (.bool m1)).other (o := 1) hxs (.slice p1 k1 q1')
        have h6 := below_sets h (by omega) (.bool m1) (.slice p1 k1 q1') (B := v9_3.heap.size)
        refine hK _ _ ⟨bsC K6, ?_⟩
        clear hK K5 q0 q1 q2 q3
        have q0 := Y6.c0; have q1 := Y6.c1; have q2 := Y6.fr 0; have q3 := Y6.fr 1
        refine one_op 7 rfl (fun K7 hK => ?_)
        go_simp
        have X7 := (X6.other (o := 0) hxy (.bool m2)).other (o := 1) hxy (.slice p2 k2 q2')
        have Y7 := (Y6.set0 (.bool m2)).set1 (.slice p2 k2 q2')
        have K7' := (K6.other (o := 0) hys (.bool m2)).other (o := 1) hys (.slice p2 k2 q2')
        have h7 := below_sets h6 (by omega) (.bool m2) (.slice p2 k2 q2') (B := v1_1.heap.size)
        refine hK _ _ ⟨bsC K7', ?_⟩
        clear hK K7
        refine wdn ?_
        go_wp2_with fail; go_meet; exact ⟨_, _, rfl, rfl, X7, Y7, K7'.2.2.1 rfl, h7⟩
      · refine wpOp_intro rfl (fun K9 hK => ?_)
        go_simp
        have hn9 := K.lt
        have b9 := h.size
        obtain ⟨v9_4, hV, K', h', X', Z'⟩ : ∃ V, V = v2_5.alloc (.cells #[.bool false, .slice none 0 0] 144) ∧ BoxS w.heap.size 42 n1 s1 t1 c1 n2 s2 t2 c2 true V ∧ Below w.heap.size w V ∧ Box2 V v2_5.heap.size 144 (.bool false) (.slice none 0 0) ∧ Box2 V v1_1.heap.size 144 (.bool false) (.slice none 0 0) := ⟨_, rfl, K.alloc _, h.alloc h.size _, Box2.new _ _ _ _, Y.alloc _⟩
        have hne9 := Y.lt
        rw [← hV]
        clear K h Y hV; have K := K'; have h := h'; have X := X'; clear K' h' X'
        have Y := Z'; clear Z'
        have hxs : w.heap.size + 1 + 1 < v2_5.heap.size := hn9
        have hxy : v2_5.heap.size ≠ v1_1.heap.size := by omega
        refine hK _ _ ⟨bsC K, ?_⟩
        clear hK K9
        refine one_op 3 rfl (fun K11 hK => ?_)
        go_simp
        refine (ko2 _ h).mono ?_
        rintro e v11_3 ⟨rfl, r11⟩
        have K' := K.below r11; have h' := then_below h r11; clear K h; have K := K'; have h := h'; clear K' h'
        have X' := X.below r11; clear X; have X := X'; clear X'
        have Y' := Y.below r11; clear Y; have Y := Y'; clear Y'
        refine hK _ _ ⟨bsC K, ?_⟩
        clear hK K11 r11
        have q0 := X.c0; have q1 := X.c1; have q2 := X.fr 0; have q3 := X.fr 1
        refine one_op 6 rfl (fun K5 hK => ?_)
        go_simp
        have X6 := (X.set0 (.bool m1)).set1 (.slice p1 k1 q1')
        have Y6 := (Y.other (o := 0) (Ne.symm hxy) (.bool m1)).other (o := 1) (Ne.symm hxy) (.slice p1 k1 q1')
        have K6 := (K.other (o := 0) hxs (.bool m1)).other (o := 1) hxs (.slice p1 k1 q1')
        have h6 := below_sets h (by omega) (.bool m1) (.slice p1 k1 q1') (B := v2_5.heap.size)
        refine hK _ _ ⟨bsC K6, ?_⟩
        clear hK K5 q0 q1 q2 q3
        have q0 := Y6.c0; have q1 := Y6.c1; have q2 := Y6.fr 0; have q3 := Y6.fr 1
        refine one_op 7 rfl (fun K7 hK => ?_)
        go_simp
        have X7 := (X6.other (o := 0) hxy (.bool m2)).other (o := 1) hxy (.slice p2 k2 q2')
        have Y7 := (Y6.set0 (.bool m2)).set1 (.slice p2 k2 q2')
        have K7' := (K6.other (o := 0) hys (.bool m2)).other (o := 1) hys (.slice p2 k2 q2')
        have h7 := below_sets h6 (by omega) (.bool m2) (.slice p2 k2 q2') (B := v1_1.heap.size)
        refine hK _ _ ⟨bsC K7', ?_⟩
        clear hK K7
        refine wdn ?_
        go_wp2_with fail; go_meet; exact ⟨_, _, rfl, rfl, X7, Y7, K7'.2.2.1 rfl, h7⟩
  · refine wpOp_intro rfl (fun K1 hK => ?_)
    go_simp
    have hn1 := K.lt
    have b1 := h.size
    obtain ⟨v1_4, hV, K', h', X'⟩ : ∃ V, V = W0.alloc (.cells #[.bool false, .slice none 0 0] 144) ∧ BoxS w.heap.size 42 n1 s1 t1 c1 n2 s2 t2 c2 true V ∧ Below w.heap.size w V ∧ Box2 V W0.heap.size 144 (.bool false) (.slice none 0 0) := ⟨_, rfl, K.alloc _, h.alloc h.size _, Box2.new _ _ _ _⟩
    rw [← hV]
    clear K h hV; have K := K'; have h := h'; have X := X'; clear K' h' X'
    have hxs : w.heap.size + 1 + 1 < W0.heap.size := hn1
    refine hK _ _ ⟨bsC K, ?_⟩
    clear hK K1
    refine two_op 1 5 ?_ ?_
    · refine wpOp_intro rfl (fun K12 hK => ?_)
      go_simp
      refine (ko1 _ h).mono ?_
      rintro e v12_1 ⟨rfl, r12⟩
      have K' := K.below r12; have h' := then_below h r12; clear K h; have K := K'; have h := h'; clear K' h'
      have X' := X.below r12; clear X; have X := X'; clear X'
      refine hK _ _ ⟨bsC K, ?_⟩
      clear hK K12 r12
      refine two_op 3 5 ?_ ?_
      · refine wpOp_intro rfl (fun K13 hK => ?_)
        go_simp
        refine (ko2 _ h).mono ?_
        rintro e v13_3 ⟨rfl, r13⟩
        have K' := K.below r13; have h' := then_below h r13; clear K h; have K := K'; have h := h'; clear K' h'
        have X' := X.below r13; clear X; have X := X'; clear X'
        refine hK _ _ ⟨bsC K, ?_⟩
        clear hK K13 r13
        refine one_op 5 rfl (fun K14 hK => ?_)
        go_simp
        have hn14 := K.lt
        have b14 := h.size
        obtain ⟨v14_5, hV, K', h', Y', Z'⟩ : ∃ V, V = v13_3.alloc (.cells #[.bool false, .slice none 0 0] 144) ∧ BoxS w.heap.size 42 n1 s1 t1 c1 n2 s2 t2 c2 true V ∧ Below w.heap.size w V ∧ Box2 V v13_3.heap.size 144 (.bool false) (.slice none 0 0) ∧ Box2 V W0.heap.size 144 (.bool false) (.slice none 0 0) := ⟨_, rfl, K.alloc _, h.alloc h.size _, Box2.new _ _ _ _, X.alloc _⟩
        have hne14 := X.lt
        rw [← hV]
        clear K h X hV; have K := K'; have h := h'; have Y := Y'; clear K' h' Y'
        have X := Z'; clear Z'
        have hys : w.heap.size + 1 + 1 < v13_3.heap.size := hn14
        have hxy : W0.heap.size ≠ v13_3.heap.size := by omega
        refine hK _ _ ⟨bsC K, ?_⟩
        clear hK K14
        have q0 := X.c0; have q1 := X.c1; have q2 := X.fr 0; have q3 := X.fr 1
        refine one_op 6 rfl (fun K5 hK => ?_)
        go_simp
        have X6 := (X.set0 (.bool m1)).set1 (.slice p1 k1 q1')
        have Y6 := (Y.other (o := 0) (Ne.symm hxy) (.bool m1)).other (o := 1) (Ne.symm hxy) (.slice p1 k1 q1')
        have K6 := (K.other (o := 0) hxs (.bool m1)).other (o := 1) hxs (.slice p1 k1 q1')
        have h6 := below_sets h (by omega) (.bool m1) (.slice p1 k1 q1') (B := W0.heap.size)
        refine hK _ _ ⟨bsC K6, ?_⟩
        clear hK K5 q0 q1 q2 q3
        have q0 := Y6.c0; have q1 := Y6.c1; have q2 := Y6.fr 0; have q3 := Y6.fr 1
        refine one_op 7 rfl (fun K7 hK => ?_)
        go_simp
        have X7 := (X6.other (o := 0) hxy (.bool m2)).other (o := 1) hxy (.slice p2 k2 q2')
        have Y7 := (Y6.set0 (.bool m2)).set1 (.slice p2 k2 q2')
        have K7' := (K6.other (o := 0) hys (.bool m2)).other (o := 1) hys (.slice p2 k2 q2')
        have h7 := below_sets h6 (by omega) (.bool m2) (.slice p2 k2 q2') (B := v13_3.heap.size)
        refine hK _ _ ⟨bsC K7', ?_⟩
        clear hK K7
        refine wdn ?_
        go_wp2_with fail; go_meet; exact ⟨_, _, rfl, rfl, X7, Y7, K7'.2.2.1 rfl, h7⟩
      · refine wpOp_intro rfl (fun K13 hK => ?_)
        go_simp
        have hn13 := K.lt
        have b13 := h.size
        obtain ⟨v13_5, hV, K', h', Y', Z'⟩ : ∃ V, V = v12_1.alloc (.cells #[.bool false, .slice none 0 0] 144) ∧ BoxS w.heap.size 42 n1 s1 t1 c1 n2 s2 t2 c2 true V ∧ Below w.heap.size w V ∧ Box2 V v12_1.heap.size 144 (.bool false) (.slice none 0 0) ∧ Box2 V W0.heap.size 144 (.bool false) (.slice none 0 0) := ⟨_, rfl, K.alloc _, h.alloc h.size _, Box2.new _ _ _ _, X.alloc _⟩
        have hne13 := X.lt
        rw [← hV]
        clear K h X hV; have K := K'; have h := h'; have Y := Y'; clear K' h' Y'
        have X := Z'; clear Z'
        have hys : w.heap.size + 1 + 1 < v12_1.heap.size := hn13
        have hxy : W0.heap.size ≠ v12_1.heap.size := by omega
        refine hK _ _ ⟨bsC K, ?_⟩
        clear hK K13
        refine one_op 3 rfl (fun K15 hK => ?_)
        go_simp
        refine (ko2 _ h).mono ?_
        rintro e v15_3 ⟨rfl, r15⟩
        have K' := K.below r15; have h' := then_below h r15; clear K h; have K := K'; have h := h'; clear K' h'
        have X' := X.below r15; clear X; have X := X'; clear X'
        have Y' := Y.below r15; clear Y; have Y := Y'; clear Y'
        refine hK _ _ ⟨bsC K, ?_⟩
        clear hK K15 r15
        have q0 := X.c0; have q1 := X.c1; have q2 := X.fr 0; have q3 := X.fr 1
        refine one_op 6 rfl (fun K5 hK => ?_)
        go_simp
        have X6 := (X.set0 (.bool m1)).set1 (.slice p1 k1 q1')
        have Y6 := (Y.other (o := 0) (Ne.symm hxy) (.bool m1)).other (o := 1) (Ne.symm hxy) (.slice p1 k1 q1')
        have K6 := (K.other (o := 0) hxs (.bool m1)).other (o := 1) hxs (.slice p1 k1 q1')
        have h6 := below_sets h (by omega) (.bool m1) (.slice p1 k1 q1') (B := W0.heap.size)
        refine hK _ _ ⟨bsC K6, ?_⟩
        clear hK K5 q0 q1 q2 q3
        have q0 := Y6.c0; have q1 := Y6.c1; have q2 := Y6.fr 0; have q3 := Y6.fr 1
        refine one_op 7 rfl (fun K7 hK => ?_)
        go_simp
        have X7 := (X6.other (o := 0) hxy (.bool m2)).other (o := 1) hxy (.slice p2 k2 q2')
        have Y7 := (Y6.set0 (.bool m2)).set1 (.slice p2 k2 q2')
        have K7' := (K6.other (o := 0) hys (.bool m2)).other (o := 1) hys (.slice p2 k2 q2')
        have h7 := below_sets h6 (by omega) (.bool m2) (.slice p2 k2 q2') (B := v12_1.heap.size)
        refine hK _ _ ⟨bsC K7', ?_⟩
        clear hK K7
        refine wdn ?_
        go_wp2_with fail; go_meet; exact ⟨_, _, rfl, rfl, X7, Y7, K7'.2.2.1 rfl, h7⟩
    · refine wpOp_intro rfl (fun K12 hK => ?_)
      go_simp
      have hn12 := K.lt
      have b12 := h.size
      obtain ⟨v12_5, hV, K', h', Y', Z'⟩ : ∃ V, V = v1_4.alloc (.cells #[.bool false, .slice none 0 0] 144) ∧ BoxS w.heap.size 42 n1 s1 t1 c1 n2 s2 t2 c2 true V ∧ Below w.heap.size w V ∧ Box2 V v1_4.heap.size 144 (.bool false) (.slice none 0 0) ∧ Box2 V W0.heap.size 144 (.bool false) (.slice none 0 0) := ⟨_, rfl, K.alloc _, h.alloc h.size _, Box2.new _ _ _ _, X.alloc _⟩
      have hne12 := X.lt
      rw [← hV]
      clear K h X hV; have K := K'; have h := h'; have Y := Y'; clear K' h' Y'
      have X := Z'; clear Z'
      have hys : w.heap.size + 1 + 1 < v1_4.heap.size := hn12
      have hxy : W0.heap.size ≠ v1_4.heap.size := by omega
      refine hK _ _ ⟨bsC K, ?_⟩
      clear hK K12
      refine one_op 1 rfl (fun K16 hK => ?_)
      go_simp
      refine (ko1 _ h).mono ?_
      rintro e v16_1 ⟨rfl, r16⟩
      have K' := K.below r16; have h' := then_below h r16; clear K h; have K := K'; have h := h'; clear K' h'
      have X' := X.below r16; clear X; have X := X'; clear X'
      have Y' := Y.below r16; clear Y; have Y := Y'; clear Y'
      refine hK _ _ ⟨bsC K, ?_⟩
      clear hK K16 r16
      refine one_op 3 rfl (fun K17 hK => ?_)
      go_simp
      refine (ko2 _ h).mono ?_
      rintro e v17_3 ⟨rfl, r17⟩
      have K' := K.below r17; have h' := then_below h r17; clear K h; have K := K'; have h := h'; clear K' h'
      have X' := X.below r17; clear X; have X := X'; clear X'
      have Y' := Y.below r17; clear Y; have Y := Y'; clear Y'
      refine hK _ _ ⟨bsC K, ?_⟩
      clear hK K17 r17
      have q0 := X.c0; have q1 := X.c1; have q2 := X.fr 0; have q3 := X.fr 1
      refine one_op 6 rfl (fun K5 hK => ?_)
      go_simp
      have X6 := (X.set0 (.bool m1)).set1 (.slice p1 k1 q1')
      have Y6 := (Y.other (o := 0) (Ne.symm hxy) (.bool m1)).other (o := 1) (Ne.symm hxy) (.slice p1 k1 q1')
      have K6 := (K.other (o := 0) hxs (.bool m1)).other (o := 1) hxs (.slice p1 k1 q1')
      have h6 := below_sets h (by omega) (.bool m1) (.slice p1 k1 q1') (B := W0.heap.size)
      refine hK _ _ ⟨bsC K6, ?_⟩
      clear hK K5 q0 q1 q2 q3
      have q0 := Y6.c0; have q1 := Y6.c1; have q2 := Y6.fr 0; have q3 := Y6.fr 1
      refine one_op 7 rfl (fun K7 hK => ?_)
      go_simp
      have X7 := (X6.other (o := 0) hxy (.bool m2)).other (o := 1) hxy (.slice p2 k2 q2')
      have Y7 := (Y6.set0 (.bool m2)).set1 (.slice p2 k2 q2')
      have K7' := (K6.other (o := 0) hys (.bool m2)).other (o := 1) hys (.slice p2 k2 q2')
      have h7 := below_sets h6 (by omega) (.bool m2) (.slice p2 k2 q2') (B := v1_4.heap.size)
      refine hK _ _ ⟨bsC K7', ?_⟩
      clear hK K7
      refine wdn ?_
      go_wp2_with fail; go_meet; exact ⟨_, _, rfl, rfl, X7, Y7, K7'.2.2.1 rfl, h7⟩
  · refine wpOp_intro rfl (fun K1 hK => ?_)
    go_simp
    have hn1 := K.lt
    have b1 := h.size
    obtain ⟨v1_5, hV, K', h', Y'⟩ : ∃ V, V = W0.alloc (.cells #[.bool false, .slice none 0 0] 144) ∧ BoxS w.heap.size 42 n1 s1 t1 c1 n2 s2 t2 c2 true V ∧ Below w.heap.size w V ∧ Box2 V W0.heap.size 144 (.bool false) (.slice none 0 0) := ⟨_, rfl, K.alloc _, h.alloc h.size _, Box2.new _ _ _ _⟩
    rw [← hV]
    clear K h hV; have K := K'; have h := h'; have Y := Y'; clear K' h' Y'
    have hys : w.heap.size + 1 + 1 < W0.heap.size := hn1
    refine hK _ _ ⟨bsC K, ?_⟩
    clear hK K1
    refine two_op 1 4 ?_ ?_
    · refine wpOp_intro rfl (fun K18 hK => ?_)
      go_simp
      refine (ko1 _ h).mono ?_
      rintro e v18_1 ⟨rfl, r18⟩
      have K' := K.below r18; have h' := then_below h r18; clear K h; have K := K'; have h := h'; clear K' h'
      have Y' := Y.below r18; clear Y; have Y := Y'; clear Y'
      refine hK _ _ ⟨bsC K, ?_⟩
      clear hK K18 r18
      refine two_op 3 4 ?_ ?_
      · refine wpOp_intro rfl (fun K19 hK => ?_)
        go_simp
        refine (ko2 _ h).mono ?_
        rintro e v19_3 ⟨rfl, r19⟩
        have K' := K.below r19; have h' := then_below h r19; clear K h; have K := K'; have h := h'; clear K' h'
        have Y' := Y.below r19; clear Y; have Y := Y'; clear Y'
        refine hK _ _ ⟨bsC K, ?_⟩
        clear hK K19 r19
        refine one_op 4 rfl (fun K20 hK => ?_)
        go_simp
        have hn20 := K.lt
        have b20 := h.size
        obtain ⟨v20_4, hV, K', h', X', Z'⟩ : ∃ V, V = v19_3.alloc (.cells #[.bool false, .slice none 0 0] 144) ∧ BoxS w.heap.size 42 n1 s1 t1 c1 n2 s2 t2 c2 true V ∧ Below w.heap.size w V ∧ Box2 V v19_3.heap.size 144 (.bool false) (.slice none 0 0) ∧ Box2 V W0.heap.size 144 (.bool false) (.slice none 0 0) := ⟨_, rfl, K.alloc _, h.alloc h.size _, Box2.new _ _ _ _, Y.alloc _⟩
        have hne20 := Y.lt
        rw [← hV]
        clear K h Y hV; have K := K'; have h := h'; have X := X'; clear K' h' X'
        have Y := Z'; clear Z'
        have hxs : w.heap.size + 1 + 1 < v19_3.heap.size := hn20
        have hxy : v19_3.heap.size ≠ W0.heap.size := by omega
        refine hK _ _ ⟨bsC K, ?_⟩
        clear hK K20
        have q0 := X.c0; have q1 := X.c1; have q2 := X.fr 0; have q3 := X.fr 1
        refine one_op 6 rfl (fun K5 hK => ?_)
        go_simp
        have X6 := (X.set0 (.bool m1)).set1 (.slice p1 k1 q1')
        have Y6 := (Y.other (o := 0) (Ne.symm hxy) (.bool m1)).other (o := 1) (Ne.symm hxy) (.slice p1 k1 q1')
        have K6 := (K.other (o := 0) hxs (.bool m1)).other (o := 1) hxs (.slice p1 k1 q1')
        have h6 := below_sets h (by omega) (.bool m1) (.slice p1 k1 q1') (B := v19_3.heap.size)
        refine hK _ _ ⟨bsC K6, ?_⟩
        clear hK K5 q0 q1 q2 q3
        have q0 := Y6.c0; have q1 := Y6.c1; have q2 := Y6.fr 0; have q3 := Y6.fr 1
        refine one_op 7 rfl (fun K7 hK => ?_)
        go_simp
        have X7 := (X6.other (o := 0) hxy (.bool m2)).other (o := 1) hxy (.slice p2 k2 q2')
        have Y7 := (Y6.set0 (.bool m2)).set1 (.slice p2 k2 q2')
        have K7' := (K6.other (o := 0) hys (.bool m2)).other (o := 1) hys (.slice p2 k2 q2')
        have h7 := below_sets h6 (by omega) (.bool m2) (.slice p2 k2 q2') (B := W0.heap.size)
        refine hK _ _ ⟨bsC K7', ?_⟩
        clear hK K7
        refine wdn ?_
        go_wp2_with fail; go_meet; exact ⟨_, _, rfl, rfl, X7, Y7, K7'.2.2.1 rfl, h7⟩
      · refine wpOp_intro rfl (fun K19 hK => ?_)
        go_simp
        have hn19 := K.lt
        have b19 := h.size
        obtain ⟨v19_4, hV, K', h', X', Z'⟩ : ∃ V, V = v18_1.alloc (.cells #[.bool false, .slice none 0 0] 144) ∧ BoxS w.heap.size 42 n1 s1 t1 c1 n2 s2 t2 c2 true V ∧ Below w.heap.size w V ∧ Box2 V v18_1.heap.size 144 (.bool false) (.slice none 0 0) ∧ Box2 V W0.heap.size 144 (.bool false) (.slice none 0 0) := ⟨_, rfl, K.alloc _, h.alloc h.size _, Box2.new _ _ _ _, Y.alloc _⟩
        have hne19 := Y.lt
        rw [← hV]
        clear K h Y hV; have K := K'; have h := h'; have X := X'; clear K' h' X'
        have Y := Z'; clear Z'
        have hxs : w.heap.size + 1 + 1 < v18_1.heap.size := hn19
        have hxy : v18_1.heap.size ≠ W0.heap.size := by omega
        refine hK _ _ ⟨bsC K, ?_⟩
        clear hK K19
        refine one_op 3 rfl (fun K21 hK => ?_)
        go_simp
        refine (ko2 _ h).mono ?_
        rintro e v21_3 ⟨rfl, r21⟩
        have K' := K.below r21; have h' := then_below h r21; clear K h; have K := K'; have h := h'; clear K' h'
        have X' := X.below r21; clear X; have X := X'; clear X'
        have Y' := Y.below r21; clear Y; have Y := Y'; clear Y'
        refine hK _ _ ⟨bsC K, ?_⟩
        clear hK K21 r21
        have q0 := X.c0; have q1 := X.c1; have q2 := X.fr 0; have q3 := X.fr 1
        refine one_op 6 rfl (fun K5 hK => ?_)
        go_simp
        have X6 := (X.set0 (.bool m1)).set1 (.slice p1 k1 q1')
        have Y6 := (Y.other (o := 0) (Ne.symm hxy) (.bool m1)).other (o := 1) (Ne.symm hxy) (.slice p1 k1 q1')
        have K6 := (K.other (o := 0) hxs (.bool m1)).other (o := 1) hxs (.slice p1 k1 q1')
        have h6 := below_sets h (by omega) (.bool m1) (.slice p1 k1 q1') (B := v18_1.heap.size)
        refine hK _ _ ⟨bsC K6, ?_⟩
        clear hK K5 q0 q1 q2 q3
        have q0 := Y6.c0; have q1 := Y6.c1; have q2 := Y6.fr 0; have q3 := Y6.fr 1
        refine one_op 7 rfl (fun K7 hK => ?_)
        go_simp
        have X7 := (X6.other (o := 0) hxy (.bool m2)).other (o := 1) hxy (.slice p2 k2 q2')
        have Y7 := (Y6.set0 (.bool m2)).set1 (.slice p2 k2 q2')
        have K7' := (K6.other (o := 0) hys (.bool m2)).other (o := 1) hys (.slice p2 k2 q2')
        have h7 := below_sets h6 (by omega) (.bool m2) (.slice p2 k2 q2') (B := W0.heap.size)
        refine hK _ _ ⟨bsC K7', ?_⟩
        clear hK K7
        refine wdn ?_
        go_wp2_with fail; go_meet; exact ⟨_, _, rfl, rfl, X7, Y7, K7'.2.2.1 rfl, h7⟩
    · refine wpOp_intro rfl (fun K18 hK => ?_)
      go_simp
      have hn18 := K.lt
      have b18 := h.size
      obtain ⟨v18_4, hV, K', h', X', Z'⟩ : ∃ V, V = v1_5.alloc (.cells #[.bool false, .slice none 0 0] 144) ∧ BoxS w.heap.size 42 n1 s1 t1 c1 n2 s2 t2 c2 true V ∧ Below w.heap.size w V ∧ Box2 V v1_5.heap.size 144 (.bool false) (.slice none 0 0) ∧ Box2 V W0.heap.size 144 (.bool false) (.slice none 0 0) := ⟨_, rfl, K.alloc _, h.alloc h.size _, Box2.new _ _ _ _, Y.alloc _⟩
      have hne18 := Y.lt
      rw [← hV]
      clear K h Y hV; have K := K'; have h := h'; have X := X'; clear K' h' X'
      have Y := Z'; clear Z'
      have hxs : w.heap.size + 1 + 1 < v1_5.heap.size := hn18
      have hxy : v1_5.heap.size ≠ W0.heap.size := by omega
      refine hK _ _ ⟨bsC K, ?_⟩
      clear hK K18
      refine one_op 1 rfl (fun K22 hK => ?_)
      go_simp
      refine (ko1 _ h).mono ?_
      rintro e v22_1 ⟨rfl, r22⟩
      have K' := K.below r22; have h' := then_below h r22; clear K h; have K := K'; have h := h'; clear K' h'
      have X' := X.below r22; clear X; have X := X'; clear X'
      have Y' := Y.below r22; clear Y; have Y := Y'; clear Y'
      refine hK _ _ ⟨bsC K, ?_⟩
      clear hK K22 r22
      refine one_op 3 rfl (fun K23 hK => ?_)
      go_simp
      refine (ko2 _ h).mono ?_
      rintro e v23_3 ⟨rfl, r23⟩
      have K' := K.below r23; have h' := then_below h r23; clear K h; have K := K'; have h := h'; clear K' h'
      have X' := X.below r23; clear X; have X := X'; clear X'
      have Y' := Y.below r23; clear Y; have Y := Y'; clear Y'
      refine hK _ _ ⟨bsC K, ?_⟩
      clear hK K23 r23
      have q0 := X.c0; have q1 := X.c1; have q2 := X.fr 0; have q3 := X.fr 1
      refine one_op 6 rfl (fun K5 hK => ?_)
      go_simp
      have X6 := (X.set0 (.bool m1)).set1 (.slice p1 k1 q1')
      have Y6 := (Y.other (o := 0) (Ne.symm hxy) (.bool m1)).other (o := 1) (Ne.symm hxy) (.slice p1 k1 q1')
      have K6 := (K.other (o := 0) hxs (.bool m1)).other (o := 1) hxs (.slice p1 k1 q1')
      have h6 := below_sets h (by omega) (.bool m1) (.slice p1 k1 q1') (B := v1_5.heap.size)
      refine hK _ _ ⟨bsC K6, ?_⟩
      clear hK K5 q0 q1 q2 q3
      have q0 := Y6.c0; have q1 := Y6.c1; have q2 := Y6.fr 0; have q3 := Y6.fr 1
      refine one_op 7 rfl (fun K7 hK => ?_)
      go_simp
      have X7 := (X6.other (o := 0) hxy (.bool m2)).other (o := 1) hxy (.slice p2 k2 q2')
      have Y7 := (Y6.set0 (.bool m2)).set1 (.slice p2 k2 q2')
      have K7' := (K6.other (o := 0) hys (.bool m2)).other (o := 1) hys (.slice p2 k2 q2')
      have h7 := below_sets h6 (by omega) (.bool m2) (.slice p2 k2 q2') (B := W0.heap.size)
      refine hK _ _ ⟨bsC K7', ?_⟩
      clear hK K7
      refine wdn ?_
      go_wp2_with fail; go_meet; exact ⟨_, _, rfl, rfl, X7, Y7, K7'.2.2.1 rfl, h7⟩
 case rest =>
  obtain ⟨sx, sy, rfl, rfl, X, Y, Z, h⟩ := hcut
  clear K0 h0 ko1 ko2
  have xl := X.lt
  have yl := Y.lt
  have x0 := X.drew.c0; have x1 := X.drew.c1; have y0 := Y.drew.c0; have y1 := Y.drew.c1
  have h1 := h.drew
  rcases hF with rfl | rfl
  · go_wp2
    go_region_with (first
      | (go_at_call 141; refine (ka _).mono ?_; clear ka; rintro e w1 ⟨rfl, r1⟩; have Y1 := Y.drew.below r1; have Z1 := Z.drew.below r1; have z0 := Y1.c0; have z1 := Y1.c1; have h2 := then_below h1 r1)
      | (go_at_call 165; refine (kf _ h2).mono ?_; clear kf; rintro e w2 ⟨a, c, rfl, g, r2⟩; have Z2 := Z1.below r2; have z2 := Z2.c0; have z3 := Z2.c1; have z4 := Z2.fr 0; have z5 := Z2.fr 1; have h3 := then_below h2 r2))
    all_goals
      go_wp2
      refine ret_box2 rfl rfl ((Z2.set0 _).set1 _) Tryz.underlying42 size_int rfl ?_
      exact ⟨a, c, rfl, g.sets Z2, below_sets h3 (by omega) _ _⟩
  · go_wp2
    go_region_with (first
      | (go_at_call 141; refine (ka _).mono ?_; clear ka; rintro e w1 ⟨rfl, r1⟩; have Y1 := Y.drew.below r1; have Z1 := Z.drew.below r1; have z0 := Y1.c0; have z1 := Y1.c1; have h2 := then_below h1 r1)
      | (go_at_call 166; refine (kf _ h2).mono ?_; clear kf; rintro e w2 ⟨a, c, rfl, g, r2⟩; have Z2 := Z1.below r2; have z2 := Z2.c0; have z3 := Z2.c1; have z4 := Z2.fr 0; have z5 := Z2.fr 1; have h3 := then_below h2 r2))
    all_goals
      go_wp2
      refine ret_box2 rfl rfl ((Z2.set0 _).set1 _) Tryz.underlying42 size_int rfl ?_
      exact ⟨a, c, rfl, g.sets Z2, below_sets h3 (by omega) _ _⟩
end Go.Proofs.YtgmbaamfobhceaaGreat
