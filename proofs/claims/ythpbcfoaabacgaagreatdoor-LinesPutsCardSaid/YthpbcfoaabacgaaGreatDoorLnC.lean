/- Lines: the program's reader, as laws see it: its contracts. -/
import Derived.Test.YthpbcfoaabacgaaGreatDoorLnCe
namespace Go.Proofs.YthpbcfoaabacgaaGreatDoor
open Go Go.Proofs Go.RowKit Go.Shelf
set_option linter.unusedVariables false
set_option linter.unusedSimpArgs false
set_option linter.unnecessarySimpa false

attribute [local go_sem] Oper.semAt_some
set_option maxRecDepth 100000
def PRd (W : World) (P base : Nat) (own : Nat → Prop) (cur : List UInt8) : Prop := ∃ kb, PR W P base kb cur ∧ base ≤ P ∧ own = fun b => b = P ∨ kb.ownBlock = some b
section
variable {W W' : World} {P base : Nat} {own : Nat → Prop} {cur : List UInt8}
theorem PRd.lt (h : PRd W P base own cur) {b : Nat} (hb : own b) : base ≤ b ∧ b < W.heap.size := by
  obtain ⟨kb, h, hp, rfl⟩ := h
  rcases hb with rfl | hb
  · exact ⟨hp, (Array.getElem?_eq_some_iff.1 h.box).1⟩
  · exact World.ownsRow.lt h.row b hb
theorem PRd.keep (h : PRd W P base own cur) (hs : W.heap.size ≤ W'.heap.size) (hk : ∀ b, own b → W'.heap[b]? = W.heap[b]?) : PRd W' P base own cur := by
  obtain ⟨kb, h, hp, rfl⟩ := h
  refine ⟨kb, ⟨by rw [hk P (.inl rfl)]; exact h.box, ⟨h.row.1, ?_⟩, h.ne⟩, hp, rfl⟩
  rcases h.row.2 with h2 | ⟨g, cap, cu, e2, hb', hg, hr⟩
  · exact .inl h2
  · refine .inr ⟨g, cap, cu, e2, hb', ?_, hr⟩
    rw [hk g (.inr (by rw [e2]; rfl))]
    exact hg
end
/-- what a call of Put leaves: the reader R, its own blocks, what is told -/
def PutAns (R : World → Nat → Nat → (Nat → Prop) → List UInt8 → Prop) (W : World) (P base : Nat) (own : Nat → Prop) (cur l : List UInt8) (vl vb : Value) (own' : Nat → Prop) (W' : World) : Prop :=
  R W' P base own' (Ln.lgo cur l).2 ∧ SFresh W' W.heap.size vl ((Ln.lgo cur l).1.map (·.1)) ∧ BFresh W' W.heap.size vb ((Ln.lgo cur l).1.map (·.2)) ∧ Below base W W' ∧
    (∀ b, b < W.heap.size → ¬ own b → W'.heap[b]? = W.heap[b]?) ∧ (∀ b, own' b → own b ∨ W.heap.size ≤ b) ∧ (∀ g, vl.ownBlock = some g → ¬ own' g ∧ vb.ownBlock ≠ some g) ∧ ∀ g, vb.ownBlock = some g → ¬ own' g
set_option maxHeartbeats 4000000 in
theorem pnew_any (W : World) : Calls Tryz.prog 5 #[] W fun e W' => ∃ P, e = .returned (.pointer (some ⟨P, 0, none⟩)) ∧ (∃ own, (∀ b, own b → W.heap.size ≤ b) ∧ ∀ base, base ≤ W.heap.size → PRd W' P base own []) ∧ Below W.heap.size W W' := by
  go_enter Tryz.func5, Tryz.ntmps5
  go_wp2
  go_ret
  refine ⟨W.heap.size, rfl, ⟨fun b => b = W.heap.size ∨ (Value.slice none 0 0).ownBlock = some b, fun b hb => ?_, fun base hb => ⟨.slice none 0 0, ⟨heap_alloc_new W _, World.ownsRow_nil _ base _ 1, by simp [Value.ownBlock]⟩, hb, rfl⟩⟩, (Below.refl _ _).alloc (Nat.le_refl _) _⟩
  rcases hb with rfl | hb
  · exact Nat.le_refl _
  · cases hb
theorem pput_any {W : World} {P base : Nat} {own : Nat → Prop} {cur l : List UInt8} {v : Value} (h : PRd W P base own cur) (hv : ∀ W', W.heap.size ≤ W'.heap.size → (∀ b, b < W.heap.size → ¬ own b → W'.heap[b]? = W.heap[b]?) → RdC W' v l.length (bcells l)) (hl : l.length ≤ 1000000) (hc : cur.length ≤ 1000000) :
    Calls Tryz.prog 8 #[.pointer (some ⟨P, 0, none⟩), v] W fun e W' => ∃ vl vb own', e = .returned (.tuple #[vl, vb, .int .i64 0]) ∧ PutAns PRd W P base own cur l vl vb own' W' := by
  obtain ⟨kb, h, hp, rfl⟩ := h
  refine (pput_q h hp (fun W' hW => hv W' hW.1 hW.2) hl hc).mono ?_
  rintro e W' ⟨vl, vb, kb', rfl, q⟩
  refine ⟨vl, vb, fun b => b = P ∨ kb'.ownBlock = some b, rfl, ⟨kb', q.rd, hp, rfl⟩, q.tl, q.tb, q.lo, q.kp.2, fun b hb => ?_, fun g e => ⟨fun hb => ?_, fun e2 => q.n2 g e e2⟩, fun g e hb => ?_⟩
  · rcases hb with rfl | hb
    · exact .inl (.inl rfl)
    · rcases q.rk b hb with h1 | h1
      · exact .inl (.inr h1)
      · exact .inr h1
  · rcases hb with rfl | hb
    · have := (World.ownsRow.lt q.tl g e).1; have := q.pw; omega
    · exact q.n1 g e hb
  · rcases hb with rfl | hb
    · have := (World.ownsRow.lt q.tb g e).1; have := q.pw; omega
    · exact q.n3 g e hb
set_option maxHeartbeats 4000000 in
theorem pleft_any {W : World} {P base : Nat} {own : Nat → Prop} {cur : List UInt8} (h : PRd W P base own cur) : Calls Tryz.prog 12 #[.pointer (some ⟨P, 0, none⟩)] W fun e W' => e = .returned (.int .i64 (min cur.length 70002 : Nat)) ∧ W = W' := by
  obtain ⟨kb, h, _, _⟩ := h
  have hP := h.lt
  have c1 := h.c1
  have hrow := h.row
  rw [show min cur.length 70002 = (cur.take 70002).length by rw [List.length_take]; omega]
  obtain ⟨K, hK⟩ : ∃ K, K = (cur.take 70002).length := ⟨_, rfl⟩
  rw [← hK] at hrow ⊢
  obtain ⟨a, c, rfl⟩ := lform_row hrow
  clear hrow hK h
  go_enter Tryz.func12, Tryz.ntmps12
  go_wp2
  go_ret
  exact ⟨rfl, rfl⟩
end Go.Proofs.YthpbcfoaabacgaaGreatDoor
