/- Lines: the document's reader. -/
import Derived.Test.YthpbcfoaabacgaaGreatDoorLnB
namespace Go.Proofs.YthpbcfoaabacgaaGreatDoor
open Go Go.Proofs Go.RowKit Go.Shelf

attribute [local go_sem] Oper.semAt_some
set_option maxRecDepth 100000
/-- the document's reader at P: what is left of what came -/
structure DR (W : World) (P base : Nat) (rb : Value) (cur : List UInt8) : Prop where
  box : W.heap[P]? = some (.cells #[rb] 60 (0, 0))
  row : W.ownsRow base 5 1 rb cur.length (bcells cur)
  ne : rb.ownBlock ≠ some P
theorem rnew_any (W : World) : Calls Tryz.prog 6 #[] W fun e w' => e = .returned (.pointer (some ⟨W.heap.size, 0, none⟩)) ∧ (∀ base, DR w' W.heap.size base (.slice none 0 0) []) ∧ Below W.heap.size W w' := by
  go_enter Tryz.func6, Tryz.ntmps6
  go_wp2
  go_ret
  exact ⟨rfl, fun base => ⟨q_new W _, World.ownsRow_nil _ base _ 1, by simp [Value.ownBlock]⟩, (Below.refl _ _).alloc (Nat.le_refl _) _⟩
theorem rleft_any {W : World} {P base : Nat} {rb : Value} {cur : List UInt8} (h : DR W P base rb cur) : Calls Tryz.prog 13 #[.pointer (some ⟨P, 0, none⟩)] W fun e w' => e = .returned (.int .i64 (min cur.length 70002 : Nat)) ∧ W = w' := by
  obtain ⟨a, c, e, hc, _⟩ := own_rdc h.row
  have c0 : W.cell? ⟨P, 0, none⟩ = some rb := by rw [cell_of_row W P 0 _ _ _ h.box]; rfl
  have hlt : P < W.heap.size := (Array.getElem?_eq_some_iff.1 h.box).1
  obtain ⟨N, hN⟩ : ∃ N, N = cur.length := ⟨_, rfl⟩
  rw [e, ← hN] at c0
  rw [← hN]
  clear h e hc hN
  by_cases h7 : N ≤ 70002
  · rw [Nat.min_eq_left h7]
    have h8 : (N : Int) ≤ 70002 := by omega
    have h9 : ¬ (70002 : Int) < (N : Int) := by omega
    have h10 : min (N : Int) 70002 = (N : Int) := by omega
    go_enter Tryz.func13, Tryz.ntmps13
    go_wp2
    all_goals
      first
        | (go_ret; exact ⟨rfl, rfl⟩)
        | (go_ret; exact ⟨by simp [h10], rfl⟩)
        | omega
  · rw [Nat.min_eq_right (by omega)]
    have h8 : (70002 : Int) < (N : Int) := by omega
    have h9 : ¬ (N : Int) ≤ 70002 := by omega
    have h10 : min (N : Int) 70002 = 70002 := by omega
    go_enter Tryz.func13, Tryz.ntmps13
    go_wp2
    all_goals
      first
        | (go_ret; exact ⟨rfl, rfl⟩)
        | (go_ret; exact ⟨by simp [h10], rfl⟩)
        | omega
end Go.Proofs.YthpbcfoaabacgaaGreatDoor
