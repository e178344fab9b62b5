/- Whole numbers: farther, back, sums. -/
import Derived.OneCell
import Derived.Test.YtimdinmhphihkaaGreatDoorGInts
namespace Go.Proofs.YtimdinmhphihkaaGreatDoor
open Go Go.Proofs Go.RowKit Go.Shelf Nu

attribute [local go_sem] Oper.semAt_some

theorem dec_digs (N : Nat) : decide (0 < (digs N).length) = decide (0 < N) := by
  rcases Nat.eq_zero_or_pos N with rfl | h
  · simp [digs_zero]
  · have := digs_len_pos (n := N) (by omega)
    simp [h, this]

theorem Reads.box2 {W : World} {B o n c : Nat} {t : TypeId} {b : Bool} {a : Option Addr} {v : Value} {l : List Nat} (h : Reads W v l) (hB : Box2 W B t (.bool b) (.slice a n c)) (x : Value) : Reads (W.setCell ⟨B, o, none⟩ x) v l := by
  rcases h with h | ⟨b', off, cap, rfl, hb', hc, hl⟩ | h
  rotate_right
  · exact .inr (.inr h)
  · exact .inl h
  · refine .inr (.inl ⟨b', off, cap, rfl, by simpa using hb', hc, fun j hj => ?_⟩)
    have hne : b' ≠ B := by
      rintro rfl
      have h1 := hl j hj
      unfold World.cell? at h1
      rw [show W.heap[b']? = _ from hB] at h1
      match hk : off + j with
      | 0 => rw [hk] at h1; simp at h1
      | 1 => rw [hk] at h1; simp at h1
      | k + 2 => rw [hk] at h1; simp at h1
    exact (World.cell?_of_block (w := W) (Below.heap_setCell W ⟨B, o, none⟩ x b' hne)).trans (hl j hj)
theorem Reads.sets {W : World} {B n c : Nat} {t : TypeId} {b b2 : Bool} {a a2 : Option Addr} {n2 c2 : Nat} {v : Value} {l : List Nat} (h : Reads W v l) (hB : Box2 W B t (.bool b) (.slice a n c)) : Reads ((W.setCell ⟨B, 0, none⟩ (.bool b2)).setCell ⟨B, 1, none⟩ (.slice a2 n2 c2)) v l :=
  (h.box2 hB (.bool b2)).box2 (hB.set0 _) (.slice a2 n2 c2)

theorem Fresh.box2 {W : World} {B o n c base : Nat} {b : Bool} {a : Option Addr} {v : Value} {l : List Nat} (h : Fresh W base v l) (hB : Box2 W B 25 (.bool b) (.slice a n c)) (x : Value) : Fresh (W.setCell ⟨B, o, none⟩ x) base v l := by
  refine ownsRow_setCell_other h (fun e => ?_) x
  rcases h.2 with ⟨rfl, _⟩ | ⟨g, cap, cur, rfl, _, hg, _⟩
  · cases e
  · obtain rfl : g = B := by simpa [Value.ownBlock] using e
    have h2 : W.heap[g]? = some (.cells #[.bool b, .slice a n c] 25 (0, 0)) := hB
    rw [hg] at h2
    simp at h2
theorem Fresh.sets {W : World} {B n c base : Nat} {b b2 : Bool} {a a2 : Option Addr} {n2 c2 : Nat} {v : Value} {l : List Nat} (h : Fresh W base v l) (hB : Box2 W B 25 (.bool b) (.slice a n c)) : Fresh ((W.setCell ⟨B, 0, none⟩ (.bool b2)).setCell ⟨B, 1, none⟩ (.slice a2 n2 c2)) base v l :=
  Fresh.box2 (Fresh.box2 h hB (.bool b2)) (hB.set0 _) (.slice a2 n2 c2)

section
variable {w : World} {p1 p2 : Option Addr} {q1 q2 A B : Nat}
end

section
variable {w : World} {p1 p2 : Option Addr} {q1 q2 A B : Nat}
end

end Go.Proofs.YtimdinmhphihkaaGreatDoor
