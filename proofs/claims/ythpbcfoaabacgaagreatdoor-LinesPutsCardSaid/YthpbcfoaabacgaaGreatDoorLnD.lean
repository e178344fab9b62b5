/- Lines: what is held over calls of a reader: rows that are not its own. -/
import Derived.Test.YthpbcfoaabacgaaGreatDoorLnC
import Derived.Deep.LoopGhost
namespace Go.Proofs.YthpbcfoaabacgaaGreatDoor
open Go Go.Proofs Go.RowKit Go.Shelf
set_option linter.unusedVariables false
set_option linter.unusedSimpArgs false
set_option linter.unnecessarySimpa false

attribute [local go_sem] Oper.semAt_some
/-- v lies in no block of own's -/
def Far (own : Nat → Prop) (v : Value) : Prop := ∀ b off sp n c, v = .slice (some ⟨b, off, sp⟩) n c → 0 < n → ¬ own b
structure Held (W : World) (v : Value) (n : Nat) (xs : List Value) (own : Nat → Prop) : Prop where
  rd : RdC W v n xs
  far : Far own v
theorem rdc_keep {W W' : World} {v : Value} {n : Nat} {xs : List Value} (h : RdC W v n xs) (hs : W.heap.size ≤ W'.heap.size) (hk : ∀ b off sp c, v = .slice (some ⟨b, off, sp⟩) n c → 0 < n → b < W.heap.size → W'.heap[b]? = W.heap[b]?) : RdC W' v n xs := by
  obtain ⟨a, c, rfl, hc, h⟩ := h
  refine ⟨a, c, rfl, hc, fun h0 => ?_⟩
  obtain ⟨b, off, rfl, hb, hx⟩ := h h0
  refine ⟨b, off, rfl, Nat.lt_of_lt_of_le hb hs, fun o u hu => ?_⟩
  have e := hk b off none c rfl h0 hb
  rw [← hx o u hu]
  unfold World.cell?
  rw [e]
theorem Held.below {W W' : World} {v : Value} {n : Nat} {xs : List Value} {own : Nat → Prop} (h : Held W v n xs own) (hb : Below W.heap.size W W') : Held W' v n xs own := ⟨h.rd.below hb, h.far⟩
section
variable {W W' : World} {P base : Nat} {own own' : Nat → Prop} {cur l : List UInt8} {vl vb v : Value} {n : Nat} {xs : List Value}
theorem PRd.below (h : PRd W P base own cur) (hb : Below W.heap.size W W') : PRd W' P base own cur := h.keep hb.size (fun b hb2 => hb.block b (h.lt hb2).2)
theorem PutAns.held (A : PutAns PRd W P base own cur l vl vb own' W') (hsz : W.heap.size ≤ W'.heap.size) (h : Held W v n xs own) : Held W' v n xs own' := by
  obtain ⟨_, _, _, _, hk, ho, _, _⟩ := A
  refine ⟨rdc_keep h.rd hsz (fun b off sp c e h0 hb => hk b hb (h.far b off sp n c e h0)), fun b off sp m c e h0 hb => ?_⟩
  obtain ⟨a, c', e2, _, h2⟩ := h.rd
  rw [e2] at e
  cases e
  obtain ⟨b', off', e3, hlt, _⟩ := h2 h0
  cases e3
  rcases ho b hb with h3 | h3
  · exact h.far b off none n _ e2 h0 h3
  · omega
theorem PutAns.size (A : PutAns PRd W P base own cur l vl vb own' W') : W.heap.size ≤ W'.heap.size := A.2.2.2.1.size
theorem held_own {e size : Nat} (h : W.ownsRow base e size v n xs) (hf : ∀ g, v.ownBlock = some g → ¬ own g) : Held W v n xs own := by
  refine ⟨own_rdc h, fun b off sp m c e h0 hb => ?_⟩
  subst e
  obtain ⟨a, c', e2, _, _⟩ := own_rdc h
  cases e2
  rcases own_form h with ⟨h1, _⟩ | ⟨g, h1, _⟩
  · cases h1
  · cases h1
    exact hf b rfl hb
theorem PutAns.texts (A : PutAns PRd W P base own cur l vl vb own' W') (ws : List (List UInt8)) (h : (Ln.lgo cur l).1.map (·.1) = ws) : Held W' vl ws.length (scells ws) own' := by
  subst h
  exact held_own A.2.1 (fun g e => (A.2.2.2.2.2.2.1 g e).1)
theorem PutAns.truths (A : PutAns PRd W P base own cur l vl vb own' W') (bs : List Bool) (h : (Ln.lgo cur l).1.map (·.2) = bs) : Held W' vb bs.length (bs.map tcellB) own' := by
  subst h
  exact held_own A.2.2.1 (fun g e => A.2.2.2.2.2.2.2 g e)
theorem PutAns.rd (A : PutAns PRd W P base own cur l vl vb own' W') (c : List UInt8) (h : (Ln.lgo cur l).2 = c) : PRd W' P base own' c := by subst h; exact A.1
theorem PutAns.low (A : PutAns PRd W P base own cur l vl vb own' W') : Below base W W' := A.2.2.2.1
theorem Held.form (h : Held W v n xs own) : ∃ a c, v = .slice a n c := by obtain ⟨a, c, e, _⟩ := h.rd; exact ⟨a, c, e⟩
end
/-- bytes that are laid anew, ahead of a call of Put -/
theorem lit_keep {W : World} {own : Nat → Prop} {P base : Nat} {cur : List UInt8} (fr : Nat × Nat) (h : PRd W P base own cur) {l : List UInt8} {cs : Array Value} (hcs : cs = (bcells l).toArray) {m : Nat} (hm : m = l.length) :
    ∀ W', (W.alloc (.cells cs 5 fr)).heap.size ≤ W'.heap.size → (∀ b, b < (W.alloc (.cells cs 5 fr)).heap.size → ¬ own b → W'.heap[b]? = (W.alloc (.cells cs 5 fr)).heap[b]?) → RdC W' (.slice (some ⟨W.heap.size, 0, none⟩) m m) l.length (bcells l) := by
  intro W' hs hk
  subst hm hcs
  have e0 : (W.alloc (.cells (bcells l).toArray 5 fr)).heap[W.heap.size]? = some (.cells (bcells l).toArray 5 fr) := q_new W _
  refine ⟨_, _, rfl, Nat.le_refl _, fun h0 => ⟨W.heap.size, 0, rfl, by rw [World.size_alloc] at hs; omega, fun o u hu => ?_⟩⟩
  have e1 := hk W.heap.size (by rw [World.size_alloc]; omega) (fun hb => by have := (h.lt hb).2; omega)
  rw [e0] at e1
  rw [cell_of_row W' W.heap.size _ _ _ _ e1, Nat.zero_add]
  simpa using hu
theorem lit_rdc (W : World) {t : TypeId} {xs : List Value} {cs : Array Value} (hcs : cs = xs.toArray) {m : Nat} (hm : m = xs.length) : RdC (W.alloc (.cells cs t)) (.slice (some ⟨W.heap.size, 0, none⟩) m m) m xs := by
  subst hm hcs
  have e0 : (W.alloc (.cells xs.toArray t)).heap[W.heap.size]? = some (.cells xs.toArray t (0, 0)) := q_new W _
  refine ⟨_, _, rfl, Nat.le_refl _, fun h0 => ⟨W.heap.size, 0, rfl, by rw [World.size_alloc]; omega, fun o u hu => ?_⟩⟩
  rw [cell_of_row _ W.heap.size _ _ _ _ e0, Nat.zero_add]
  simpa using hu
theorem alloc_below (W : World) (o : Obj) : Below W.heap.size W (W.alloc o) := (Below.refl _ _).alloc (Nat.le_refl _) o
theorem pleft_at {W : World} {P base : Nat} {own : Nat → Prop} {cur : List UInt8} (h : PRd W P base own cur) (z : Int) (hz : z = ((min cur.length 70002 : Nat) : Int)) : Calls Tryz.prog 12 #[.pointer (some ⟨P, 0, none⟩)] W fun e W' => e = .returned (.int .i64 z) ∧ Below W.heap.size W W' := by
  subst hz
  refine (pleft_any h).mono ?_
  rintro e w' ⟨rfl, rfl⟩
  exact ⟨rfl, Below.refl _ _⟩
theorem conv_mark (W : World) (c : Array Value) (n k m : Nat) (hm : c.size = m) : (convert 42 42 (.slice (some ⟨W.heap.size, 0, none⟩) n k)).run Tryz.prog (W.alloc (.cells c 5)) = .ok (.slice (some ⟨W.heap.size, 0, none⟩) n k) (W.alloc (.cells c 5 (m, m + 1))) := by
  subst hm
  have hsh : (W.alloc (.cells c 5)).shape? W.heap.size = some (5, c.size) := by
    simp [World.shape?, World.alloc, -World.alloc_eq]
  have hfz : (W.alloc (.cells c 5)).freeze ⟨W.heap.size, c.size, none⟩ 1 = W.alloc (.cells c 5 (c.size, c.size + 1)) := by
    simp only [World.freeze, World.alloc]
    rw [if_neg (by decide)]
    congr 1
    apply Array.ext_getElem?
    intro i
    rw [Array.getElem?_modify]
    by_cases h : W.heap.size = i
    · subst h; simp
    · have h' : ¬ i = W.heap.size := fun e => h e.symm
      simp [h, h', Array.getElem?_push]
  simp [convert, run_underlying Tryz.underlying42, run_underlying Tryz.underlying5, markStringish, hsh, hfz, Result.andThen]
end Go.Proofs.YthpbcfoaabacgaaGreatDoor
