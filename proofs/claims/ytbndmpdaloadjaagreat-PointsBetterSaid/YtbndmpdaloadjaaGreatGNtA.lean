/- Copies of rows of fractions: what they are, and what changes of other kinds of blocks leave. -/
import Derived.Test.YtbndmpdaloadjaaGreatGRTv
import Derived.Test.YtbndmpdaloadjaaGreatGVecW
set_option linter.unusedSimpArgs false
set_option linter.unusedVariables false
namespace Go.Proofs.YtbndmpdaloadjaaGreat
open Go Go.Proofs Go.RowKit Go.Shelf Nu

/-- no block is changed but such as hold cells of type t -/
def Off (t : TypeId) (W W' : World) : Prop := W.heap.size ≤ W'.heap.size ∧ ∀ (g : Nat) (cur : Array Value) (u : TypeId) (fr : Nat × Nat), u ≠ t → W.heap[g]? = some (.cells cur u fr) → W'.heap[g]? = some (.cells cur u fr)
section
variable {t u : TypeId} {W W' V : World} {B n k : Nat} {v : Value} {xs : List Value}
theorem Off.refl (t : TypeId) (W : World) : Off t W W := ⟨Nat.le_refl _, fun _ _ _ _ _ e => e⟩
theorem Off.trans (h : Off t W W') (h' : Off t W' V) : Off t W V := ⟨Nat.le_trans h.1 h'.1, fun g cur u fr hu e => h'.2 g cur u fr hu (h.2 g cur u fr hu e)⟩
theorem Off.of_below (h : Below W.heap.size W W') : Off t W W' := ⟨h.size, fun g _ _ _ _ e => (h.block g (Array.getElem?_eq_some_iff.1 e).1).trans e⟩
theorem Off.alloc (W : World) (o : Obj) : Off t W (W.alloc o) := Off.of_below ((Below.refl _ _).alloc (Nat.le_refl _) o)
theorem Off.of_grown (ho : W.ownsRow B t k v n xs) (hg : W.grownBy W' v.ownBlock) : Off t W W' := by
 refine ⟨hg.size, fun g cur u fr hu e => ?_⟩
 refine (hg.block g (Array.getElem?_eq_some_iff.1 e).1 fun e1 => ?_).trans e
 rcases ho.2 with ⟨rfl, _⟩ | ⟨g', cap, cur', rfl, _, hgb, _⟩
 · cases e1
 · have e2 : g = g' := by simpa [Value.ownBlock] using e1
   subst e2
   rw [hgb] at e
   cases e
   exact hu rfl
theorem Off.put {b : Nat} {cs : Array Value} (h : BoxN W b t cs) (o : Nat) (x : Value) : Off t W (W.setCell ⟨b, o, none⟩ x) := by
 refine ⟨by simp, fun g cur u fr hu e => ?_⟩
 have hne : g ≠ b := by
  rintro rfl
  have h1 := (show W.heap[g]? = _ from h).symm.trans e
  cases h1
  exact hu rfl
 exact (Below.heap_setCell W ⟨b, o, none⟩ x g hne).trans e
theorem own_off (h : W.ownsRow B u k v n xs) (ho : Off t W W') (hu : u ≠ t) : W'.ownsRow B u k v n xs := by
 refine ⟨h.1, ?_⟩
 rcases h.2 with h | ⟨g, cap, cur, e, hB, hg, r⟩
 · exact .inl h
 · exact .inr ⟨g, cap, cur, e, hB, ho.2 g _ _ _ hu hg, r⟩
theorem own_le (h : W.ownsRow B u k v n xs) {B' : Nat} (hb : B' ≤ B) : W.ownsRow B' u k v n xs := by
 refine ⟨h.1, ?_⟩
 rcases h.2 with h | ⟨g, cap, cur, e, hB, r⟩
 · exact .inl h
 · exact .inr ⟨g, cap, cur, e, Nat.le_trans hb hB, r⟩
end
section
variable {W W' : World} {B g c : Nat}
theorem Tw.off {l : List Nat} {t : TypeId} (h : Tw W B g c l) (ho : Off t W W') (ht : 66 ≠ t) : Tw W' B g c l := own_off h ho ht
/-- a fraction's parts are copies -/
def ZTw (W : World) (B : Nat) (z : Zr) : Prop := ∃ g1 c1 g2 c2, z.2.1 = (some ⟨g1, 0, none⟩, c1) ∧ z.2.2 = (some ⟨g2, 0, none⟩, c2) ∧ Tw W B g1 c1 z.1.2.1 ∧ Tw W B g2 c2 z.1.2.2
theorem ZTw.off {z : Zr} {t : TypeId} (h : ZTw W B z) (ho : Off t W W') (ht : 66 ≠ t) : ZTw W' B z := by
 obtain ⟨g1, c1, g2, c2, e1, e2, h1, h2⟩ := h
 exact ⟨g1, c1, g2, c2, e1, e2, h1.off ho ht, h2.off ho ht⟩
theorem ZTw.below {z : Zr} (h : ZTw W B z) (hb : Below W.heap.size W W') : ZTw W' B z := by
 obtain ⟨g1, c1, g2, c2, e1, e2, h1, h2⟩ := h
 exact ⟨g1, c1, g2, c2, e1, e2, h1.below hb, h2.below hb⟩
theorem ZTw.mono {z : Zr} {B' : Nat} (h : ZTw W B z) (hb : B' ≤ B) : ZTw W B' z := by
 obtain ⟨g1, c1, g2, c2, e1, e2, h1, h2⟩ := h
 exact ⟨g1, c1, g2, c2, e1, e2, h1.mono hb, h2.mono hb⟩
theorem ZTw.zin {z : Zr} (h : ZTw W B z) : ZIn W z := by
 obtain ⟨g1, c1, g2, c2, e1, e2, h1, h2⟩ := h
 obtain ⟨q, a, b⟩ := z
 simp only at e1 e2 h1 h2
 subst e1; subst e2
 exact ⟨h1.fresh.reads, h2.fresh.reads⟩
/-- the mark behind a row of fractions: where its one part lies -/
def zmark (y : Sl) : Zr := ((false, [], [77]), (none, 0), y)
/-- a copy of a row, with a mark behind -/
def TwR (W : World) (B g c : Nat) (qs : List Qr) : Prop := ∃ (zs : List Zr) (y : Sl), zs.map (·.1) = qs ∧ W.ownsRow B 32 3 (.slice (some ⟨g, 0, none⟩) (qs.length + 1) c) (qs.length + 1) (zcells (zs ++ [zmark y])) ∧ (∀ z ∈ zs, ZTw W B z) ∧ Fresh W B (.slice y.1 1 y.2) [77]
theorem TwR.off {qs : List Qr} {t : TypeId} (h : TwR W B g c qs) (ho : Off t W W') (ht : 66 ≠ t ∧ 32 ≠ t) : TwR W' B g c qs := by
 obtain ⟨zs, y, h1, h2, h3, h4⟩ := h
 exact ⟨zs, y, h1, own_off h2 ho ht.2, fun z hz => (h3 z hz).off ho ht.1, own_off h4 ho ht.1⟩
theorem TwR.below {qs : List Qr} (h : TwR W B g c qs) (hb : Below W.heap.size W W') : TwR W' B g c qs := by
 obtain ⟨zs, y, h1, h2, h3, h4⟩ := h
 exact ⟨zs, y, h1, own_below h2 hb, fun z hz => (h3 z hz).below hb, Fresh.below h4 hb⟩
theorem TwR.mono {qs : List Qr} {B' : Nat} (h : TwR W B g c qs) (hb : B' ≤ B) : TwR W B' g c qs := by
 obtain ⟨zs, y, h1, h2, h3, h4⟩ := h
 exact ⟨zs, y, h1, own_le h2 hb, fun z hz => (h3 z hz).mono hb, Fresh.mono h4 hb⟩
theorem TwR.cap {qs : List Qr} (h : TwR W B g c qs) : qs.length + 1 ≤ c ∧ B ≤ g ∧ g < W.heap.size := by
 obtain ⟨zs, y, h1, h2, h3, h4⟩ := h
 rcases h2.2 with ⟨e, _⟩ | ⟨g', cap, cur, e, hB, hg, hn, _⟩
 · cases e
 · cases e
   exact ⟨hn, hB, (Array.getElem?_eq_some_iff.1 hg).1⟩
theorem TwR.at {qs : List Qr} (h : TwR W B g c qs) {j : Nat} {q : Qr} (hq : qs[j]? = some q) : ∃ g1 c1 g2 c2, W.cell? ⟨g, j * 3, none⟩ = some (.bool q.1) ∧ W.cell? ⟨g, j * 3 + 1, none⟩ = some (.slice (some ⟨g1, 0, none⟩) q.2.1.length c1) ∧ W.cell? ⟨g, j * 3 + 2, none⟩ = some (.slice (some ⟨g2, 0, none⟩) q.2.2.length c2) ∧ Tw W B g1 c1 q.2.1 ∧ Tw W B g2 c2 q.2.2 := by
 obtain ⟨zs, y, h1, h2, h3, h4⟩ := h
 have hj := (List.getElem?_eq_some_iff.1 hq).1
 have hl : zs.length = qs.length := by rw [← h1, List.length_map]
 obtain ⟨z, hz, e⟩ : ∃ z, zs[j]? = some z ∧ z.1 = q := by rw [← h1] at hq; simpa [List.getElem?_map] using hq
 have key : ∀ i, i < 3 → W.cell? ⟨g, j * 3 + i, none⟩ = (zcell z)[i]? := fun i hi => by
  rw [World.ownsRow.cellAt h2 (j * 3 + i) (by omega), zcells_at _ j z (by rw [List.getElem?_append_left (by omega)]; exact hz) i hi]
 obtain ⟨g1, c1, g2, c2, e1, e2, k1, k2⟩ := h3 z (List.mem_of_getElem? hz)
 obtain ⟨q', a, b⟩ := z
 simp only at e e1 e2 k1 k2
 subst e; subst e1; subst e2
 exact ⟨g1, c1, g2, c2, key 0 (by omega), key 1 (by omega), key 2 (by omega), k1, k2⟩
theorem TwR.mark {qs : List Qr} (h : TwR W B g c qs) : ∃ y : Sl, W.cell? ⟨g, qs.length * 3, none⟩ = some (.bool false) ∧ W.cell? ⟨g, qs.length * 3 + 1, none⟩ = some (.slice none 0 0) ∧ W.cell? ⟨g, qs.length * 3 + 2, none⟩ = some (.slice y.1 1 y.2) ∧ Reads W (.slice y.1 1 y.2) [77] := by
 obtain ⟨zs, y, h1, h2, h3, h4⟩ := h
 have hl : zs.length = qs.length := by rw [← h1, List.length_map]
 have key : ∀ i, i < 3 → W.cell? ⟨g, qs.length * 3 + i, none⟩ = (zcell (zmark y))[i]? := fun i hi => by
  rw [World.ownsRow.cellAt h2 (qs.length * 3 + i) (by omega), zcells_at _ qs.length (zmark y) (by rw [List.getElem?_append_right (by omega), hl]; simp) i hi]
 exact ⟨y, key 0 (by omega), key 1 (by omega), key 2 (by omega), h4.reads⟩
theorem TwR.vreads {qs : List Qr} (h : TwR W B g c qs) : VReads W (.slice (some ⟨g, 0, none⟩) qs.length c) qs := by
 have hc := h.cap
 refine .inr (.inl ⟨g, 0, c, rfl, hc.2.2, by omega, fun j q hq => ?_⟩)
 obtain ⟨g1, c1, g2, c2, k0, k1, k2, t1, t2⟩ := h.at hq
 rw [Nat.zero_add]
 exact ⟨_, c1, _, c2, k0, k1, k2, t1.fresh.reads, t2.fresh.reads⟩
end
theorem fresh_lit (W : World) (x : Nat) : Fresh (W.alloc (.cells #[.int .u32 (x : Int)] 66)) W.heap.size (.slice (some ⟨W.heap.size, 0, none⟩) 1 1) [x] :=
 ⟨rfl, .inr ⟨W.heap.size, 1, _, rfl, Nat.le_refl _, World.alloc_heap_new W _, Nat.le_refl _, small_max (by decide), rfl, rfl⟩⟩
end Go.Proofs.YtbndmpdaloadjaaGreat
