/- Whole numbers: farther, back, sums. -/
import Derived.OneCell
import Derived.Test.YtgmbaamfobhceaaGreatGInts
set_option linter.unusedSimpArgs false
set_option linter.unusedVariables false
set_option maxHeartbeats 2000000
namespace Go.Proofs.YtgmbaamfobhceaaGreat
open Go Go.Proofs Go.RowKit Go.Shelf Nu
attribute [local go_sem] Oper.semAt_some
theorem dec_digs (N : Nat) : decide (0 < (digs N).length) = decide (0 < N) := by
 rcases Nat.eq_zero_or_pos N with rfl | h
 · simp [digs_zero]
 · have := digs_len_pos (n := N) (by omega)
   simp [h, this]
theorem Reads.box2 {W : World} {B o n c : Nat} {t : TypeId} {b : Bool} {a : Option Addr} {v : Value} {l : List Nat} (h : Reads W v l) (hB : Box2 W B t (.bool b) (.slice a n c)) (x : Value) : Reads (W.setCell ⟨B, o, none⟩ x) v l := by
 rcases h with h | ⟨b', off, cap, rfl, hb', hc, hl⟩ | h
 rotate_right
 · exact .inr (.inr h)
 · exact .inl h
 · refine .inr (.inl ⟨b', off, cap, rfl, by simpa using hb', hc, fun j hj => ?_⟩)
   have hne : b' ≠ B := by
    rintro rfl
    have h1 := hl j hj
    unfold World.cell? at h1
    rw [show W.heap[b']? = _ from hB] at h1
    match hk : off + j with
    | 0 => rw [hk] at h1; simp at h1
    | 1 => rw [hk] at h1; simp at h1
    | k + 2 => rw [hk] at h1; simp at h1
   exact (World.cell?_of_block (w := W) (Below.heap_setCell W ⟨B, o, none⟩ x b' hne)).trans (hl j hj)
theorem Reads.sets {W : World} {B n c : Nat} {t : TypeId} {b b2 : Bool} {a a2 : Option Addr} {n2 c2 : Nat} {v : Value} {l : List Nat} (h : Reads W v l) (hB : Box2 W B t (.bool b) (.slice a n c)) : Reads ((W.setCell ⟨B, 0, none⟩ (.bool b2)).setCell ⟨B, 1, none⟩ (.slice a2 n2 c2)) v l :=
 (h.box2 hB (.bool b2)).box2 (hB.set0 _) (.slice a2 n2 c2)
theorem Fresh.box2 {W : World} {B o n c base : Nat} {b : Bool} {a : Option Addr} {v : Value} {l : List Nat} (h : Fresh W base v l) (hB : Box2 W B 42 (.bool b) (.slice a n c)) (x : Value) : Fresh (W.setCell ⟨B, o, none⟩ x) base v l := by
 refine ownsRow_setCell_other h (fun e => ?_) x
 rcases h.2 with ⟨rfl, _⟩ | ⟨g, cap, cur, rfl, _, hg, _⟩
 · cases e
 · obtain rfl : g = B := by simpa [Value.ownBlock] using e
   have h2 : W.heap[g]? = some (.cells #[.bool b, .slice a n c] 42 (0, 0)) := hB
   rw [hg] at h2
   simp at h2
theorem Fresh.sets {W : World} {B n c base : Nat} {b b2 : Bool} {a a2 : Option Addr} {n2 c2 : Nat} {v : Value} {l : List Nat} (h : Fresh W base v l) (hB : Box2 W B 42 (.bool b) (.slice a n c)) : Fresh ((W.setCell ⟨B, 0, none⟩ (.bool b2)).setCell ⟨B, 1, none⟩ (.slice a2 n2 c2)) base v l :=
 Fresh.box2 (Fresh.box2 h hB (.bool b2)) (hB.set0 _) (.slice a2 n2 c2)
section
variable {w : World} {p1 p2 : Option Addr} {q1 q2 A B : Nat}
theorem fd_add (b0 N : Nat) (h1 : Reads w (.slice p1 (digs A).length q1) (digs A)) (h2 : Reads w (.slice p2 (digs B).length q2) (digs B)) (l1 : (digs A).length ≤ 100000) (l2 : (digs B).length ≤ 100000) (e : N = A + B) (hb : b0 ≤ w.heap.size) :
  Calls Tryz.prog 190 #[.slice p1 (digs A).length q1, .slice p2 (digs B).length q2] w fun e w' => ∃ a c, e = .returned (.slice a (digs N).length c) ∧ Fresh w' b0 (.slice a (digs N).length c) (digs N) ∧ Below w.heap.size w w' := by
 have k := add_any h1 h2 l1 l2 (sm_digs _) (sm_digs _)
 rw [nv_digs, nv_digs, ← e] at k
 refine k.mono ?_
 rintro e w' ⟨v, rfl, f, hB⟩
 obtain ⟨a, c, rfl⟩ := f.reads.form
 exact ⟨a, c, rfl, f.mono hb, hB⟩
theorem fd_mul (b0 N : Nat) (h1 : Reads w (.slice p1 (digs A).length q1) (digs A)) (h2 : Reads w (.slice p2 (digs B).length q2) (digs B)) (l1 : (digs A).length ≤ 100000) (l2 : (digs B).length ≤ 100000) (e : N = A * B) (hb : b0 ≤ w.heap.size) :
  Calls Tryz.prog 135 #[.slice p1 (digs A).length q1, .slice p2 (digs B).length q2] w fun e w' => ∃ a c, e = .returned (.slice a (digs N).length c) ∧ Fresh w' b0 (.slice a (digs N).length c) (digs N) ∧ Below w.heap.size w w' := by
 have k := mul_any h1 h2 l1 l2 (sm_digs _) (sm_digs _)
 rw [nv_digs, nv_digs, ← e] at k
 refine k.mono ?_
 rintro e w' ⟨v, rfl, f, hB⟩
 obtain ⟨a, c, rfl⟩ := f.reads.form
 exact ⟨a, c, rfl, f.mono hb, hB⟩
theorem fd_sub (b0 N : Nat) (h1 : Reads w (.slice p1 (digs A).length q1) (digs A)) (h2 : Reads w (.slice p2 (digs B).length q2) (digs B)) (l1 : (digs A).length ≤ 100000) (l2 : (digs B).length ≤ 100000) (h : B ≤ A) (e : N = A - B) (hb : b0 ≤ w.heap.size) :
  Calls Tryz.prog 191 #[.slice p1 (digs A).length q1, .slice p2 (digs B).length q2] w fun e w' => ∃ a c, e = .returned (.tuple #[.slice a (digs N).length c, .int .i64 0]) ∧ Fresh w' b0 (.slice a (digs N).length c) (digs N) ∧ Below w.heap.size w w' := by
 subst e
 have k := sub_any h1 h2 l1 l2 (sm_digs _) (sm_digs _) (chk_digs _) (chk_digs _) (by rw [val_digs, val_digs]; exact h)
 rw [val_digs, val_digs] at k
 refine k.mono ?_
 rintro e w' ⟨v, rfl, f, hB⟩
 obtain ⟨a, c, rfl⟩ := f.reads.form
 exact ⟨a, c, rfl, f.mono hb, hB⟩
end
section
variable {w : World} {p1 p2 : Option Addr} {q1 q2 A B : Nat}
theorem farther_any (n : Bool) (N : Nat) (h1 : Reads w (.slice p1 (digs A).length q1) (digs A)) (h2 : Reads w (.slice p2 (digs B).length q2) (digs B)) (l1 : (digs A).length ≤ 100000) (l2 : (digs B).length ≤ 100000) (e : N = A + B) :
  Calls Tryz.prog 165 #[.agg #[.bool n, .slice p1 (digs A).length q1], .slice p2 (digs B).length q2] w fun e w' => ∃ a c, e = .returned (.agg #[.bool (n && decide (0 < N)), .slice a (digs N).length c]) ∧ Fresh w' w.heap.size (.slice a (digs N).length c) (digs N) ∧ Below w.heap.size w w' := by
 have ka : ∀ W, Below w.heap.size w W → _ := fun W hW => fd_add (w := W) w.heap.size N (h1.below hW) (h2.below hW) l1 l2 e hW.size
 have ks := fun W a c => signed_any n a (digs N).length c W
 rw [dec_digs] at ks
 have B1 := ((Box2.new w 144 (.bool n) (.slice p1 (digs A).length q1)).alloc (.cells #[.bool false, .slice none 0 0] 42))
 have B2 := Box2.new1 w (.cells #[.bool n, .slice p1 (digs A).length q1] 144) 42 (.bool false) (.slice none 0 0)
 have hb0 : Below w.heap.size w ((w.alloc (.cells #[.bool n, .slice p1 (digs A).length q1] 144)).alloc (.cells #[.bool false, .slice none 0 0] 42)) := ((Below.refl _ _).alloc (Nat.le_refl _) _).alloc (by simp) _
 clear h1 h2 e l1 l2
 go_enter Tryz.func165, Tryz.ntmps165
 go_wp2
 have h0 := hb0.drew
 go_region_with (first
  | (go_at_call 190; refine (ka _ h0).mono ?_; rintro e w1 ⟨a, c, rfl, g, r1⟩; have C1 := B1.drew.below r1; have C2 := B2.drew.below r1; have q0 := C1.c0; have q1' := C1.c1)
  | (go_at_call 117; refine (ks _ _ _).mono ?_; rintro e w2 ⟨rfl, r2⟩; have D2 := C2.below r2; have q2' := D2.c0; have q3 := D2.c1; have q4 := D2.fr 0; have q5 := D2.fr 1))
 all_goals
  go_wp2
  refine ret_box2 rfl rfl ((D2.set0 _).set1 _) Tryz.underlying42 size_int rfl ?_
  exact ⟨a, c, rfl, (g.below r2).sets D2, below_sets (then_below (then_below h0 r1) r2) (by omega) _ _⟩
theorem back_ge (n : Bool) (N : Nat) (h1 : Reads w (.slice p1 (digs A).length q1) (digs A)) (h2 : Reads w (.slice p2 (digs B).length q2) (digs B)) (l1 : (digs A).length ≤ 100000) (l2 : (digs B).length ≤ 100000) (hle : B ≤ A) (e : N = A - B) :
  Calls Tryz.prog 166 #[.agg #[.bool n, .slice p1 (digs A).length q1], .slice p2 (digs B).length q2] w fun e w' => ∃ a c, e = .returned (.agg #[.bool (n && decide (0 < N)), .slice a (digs N).length c]) ∧ Fresh w' w.heap.size (.slice a (digs N).length c) (digs N) ∧ Below w.heap.size w w' := by
 have ka : ∀ W, Below w.heap.size w W → _ := fun W hW => fd_sub (w := W) w.heap.size N (h1.below hW) (h2.below hW) l1 l2 hle e hW.size
 have ks := fun W a c => signed_any n a (digs N).length c W
 rw [dec_digs] at ks
 have B1 := ((Box2.new w 144 (.bool n) (.slice p1 (digs A).length q1)).alloc (.cells #[.bool false, .slice none 0 0] 42))
 have B2 := Box2.new1 w (.cells #[.bool n, .slice p1 (digs A).length q1] 144) 42 (.bool false) (.slice none 0 0)
 have h0 : Below w.heap.size w ((w.alloc (.cells #[.bool n, .slice p1 (digs A).length q1] 144)).alloc (.cells #[.bool false, .slice none 0 0] 42)) := ((Below.refl _ _).alloc (Nat.le_refl _) _).alloc (by simp) _
 clear h1 h2 e l1 l2 hle
 go_enter Tryz.func166, Tryz.ntmps166
 go_wp2_with (first
  | (go_at_call 191; refine (ka _ h0).mono ?_; rintro e w1 ⟨a, c, rfl, g, r1⟩; have C1 := B1.below r1; have C2 := B2.below r1; have q0 := C1.c0; have q1' := C1.c1)
  | (go_at_call 117; refine (ks _ _ _).mono ?_; rintro e w2 ⟨rfl, r2⟩; have D2 := C2.below r2; have q2' := D2.c0; have q3 := D2.c1; have q4 := D2.fr 0; have q5 := D2.fr 1))
 refine ret_box2 rfl rfl ((D2.set0 _).set1 _) Tryz.underlying42 size_int rfl ?_
 exact ⟨a, c, rfl, (g.below r2).sets D2, below_sets (then_below (then_below h0 r1) r2) (by omega) _ _⟩
theorem back_lt (n : Bool) (N : Nat) (h1 : Reads w (.slice p1 (digs A).length q1) (digs A)) (h2 : Reads w (.slice p2 (digs B).length q2) (digs B)) (l1 : (digs A).length ≤ 100000) (l2 : (digs B).length ≤ 100000) (hlt : A < B) (e : N = B - A) :
  Calls Tryz.prog 166 #[.agg #[.bool n, .slice p1 (digs A).length q1], .slice p2 (digs B).length q2] w fun e w' => ∃ a c, e = .returned (.agg #[.bool (!n && decide (0 < N)), .slice a (digs N).length c]) ∧ Fresh w' w.heap.size (.slice a (digs N).length c) (digs N) ∧ Below w.heap.size w w' := by
 have ka : ∀ W, Below w.heap.size w W → _ := fun W hW => d_subno (w := W) (h1.below hW) (h2.below hW) l1 l2 hlt
 have kb : ∀ W, Below w.heap.size w W → _ := fun W hW => fd_sub (w := W) w.heap.size N (h2.below hW) (h1.below hW) l2 l1 (Nat.le_of_lt hlt) e hW.size
 have ks := fun W a c => signed_any (!n) a (digs N).length c W
 rw [dec_digs] at ks
 have B1 := ((Box2.new w 144 (.bool n) (.slice p1 (digs A).length q1)).alloc (.cells #[.bool false, .slice none 0 0] 42))
 have B2 := Box2.new1 w (.cells #[.bool n, .slice p1 (digs A).length q1] 144) 42 (.bool false) (.slice none 0 0)
 have h0 : Below w.heap.size w ((w.alloc (.cells #[.bool n, .slice p1 (digs A).length q1] 144)).alloc (.cells #[.bool false, .slice none 0 0] 42)) := ((Below.refl _ _).alloc (Nat.le_refl _) _).alloc (by simp) _
 clear h1 h2 e l1 l2 hlt
 go_enter Tryz.func166, Tryz.ntmps166
 go_wp2_with (first
  | (go_at_call 191; with_reducible refine (ka _ h0).mono ?_; rintro e w1 ⟨rfl, r1⟩; have C1 := B1.below r1; have C2 := B2.below r1; have q0 := C1.c0; have q1' := C1.c1; have h01 := then_below h0 r1)
  | (go_at_call 191; with_reducible refine (kb _ h01).mono ?_; rintro e w2 ⟨a, c, rfl, g, r2⟩; have D1 := C1.below r2; have D2 := C2.below r2; have q2' := D1.c0)
  | (go_at_call 117; refine (ks _ _ _).mono ?_; rintro e w3 ⟨rfl, r3⟩; have E2 := D2.below r3; have q6 := E2.c0; have q3 := E2.c1; have q4 := E2.fr 0; have q5 := E2.fr 1))
 refine ret_box2 rfl rfl ((E2.set0 _).set1 _) Tryz.underlying42 size_int rfl ?_
 exact ⟨a, c, rfl, (g.below r3).sets E2, below_sets (then_below (then_below h01 r2) r3) (by omega) _ _⟩
end
end Go.Proofs.YtgmbaamfobhceaaGreat
