/- Models as they are handed over; lists of structs copied. -/
import Derived.Test.YtbndmpdaloadjaaGreatGNtU
set_option linter.unusedSimpArgs false
set_option linter.unusedVariables false
namespace Go.Proofs.YtbndmpdaloadjaaGreat
open Go Go.Proofs Go.RowKit Go.Shelf Nu
set_option linter.unusedVariables false
set_option linter.unusedSimpArgs false
set_option maxRecDepth 100000

attribute [local go_sem] Oper.semAt_some


/-- a var, a row, a model: what they read as -/
structure Vr where
  name : ByteArray
  whole : Bool
  hasLow : Bool
  low : Qr
  hasHigh : Bool
  high : Qr
instance : Inhabited Vr := ⟨⟨ByteArray.empty, false, false, default, false, default⟩⟩
structure Rw where
  coef : List Qr
  kind : Int
  right : Qr
instance : Inhabited Rw := ⟨⟨[], 0, default⟩⟩
structure MV where
  most : Bool
  vars : List Vr
  goal : List Qr
  rows : List Rw
/-- a fraction's three cells from o on -/
def VarAt (W : World) (b o : Nat) (x : Vr) : Prop := W.cell? ⟨b, o, none⟩ = some (.string x.name) ∧ W.cell? ⟨b, o + 1, none⟩ = some (.bool x.whole) ∧ W.cell? ⟨b, o + 2, none⟩ = some (.bool x.hasLow) ∧ QAt W b (o + 3) x.low ∧ W.cell? ⟨b, o + 6, none⟩ = some (.bool x.hasHigh) ∧ QAt W b (o + 7) x.high
def RowAt (W : World) (b o : Nat) (x : Rw) : Prop := (∃ u, W.cell? ⟨b, o, none⟩ = some u ∧ VReads W u x.coef) ∧ W.cell? ⟨b, o + 1, none⟩ = some (.int .u8 x.kind) ∧ QAt W b (o + 2) x.right
abbrev VarsR (W : World) (v : Value) (l : List Vr) : Prop := LRd 10 VarAt W v l
abbrev RowsR (W : World) (v : Value) (l : List Rw) : Prop := LRd 5 RowAt W v l
theorem VarAt.below {W W' : World} {b o : Nat} {x : Vr} (h : VarAt W b o x) (hl : b < W.heap.size) (hb : Below W.heap.size W W') : VarAt W' b o x :=
  ⟨(hb.cell (p := ⟨b, o, none⟩) hl).trans h.1, (hb.cell (p := ⟨b, o + 1, none⟩) hl).trans h.2.1, (hb.cell (p := ⟨b, o + 2, none⟩) hl).trans h.2.2.1, h.2.2.2.1.below hl hb, (hb.cell (p := ⟨b, o + 6, none⟩) hl).trans h.2.2.2.2.1, h.2.2.2.2.2.below hl hb⟩
theorem RowAt.below {W W' : World} {b o : Nat} {x : Rw} (h : RowAt W b o x) (hl : b < W.heap.size) (hb : Below W.heap.size W W') : RowAt W' b o x := by
  obtain ⟨⟨u, h1, h2⟩, h3, h4⟩ := h
  exact ⟨⟨u, (hb.cell (p := ⟨b, o, none⟩) hl).trans h1, h2.below hb⟩, (hb.cell (p := ⟨b, o + 1, none⟩) hl).trans h3, h4.below hl hb⟩
theorem VarsR.below {W W' : World} {v : Value} {l : List Vr} (h : VarsR W v l) (hb : Below W.heap.size W W') : VarsR W' v l := LRd.below (fun _ _ _ h1 h2 => VarAt.below h2 h1 hb) h hb
theorem RowsR.below {W W' : World} {v : Value} {l : List Rw} (h : RowsR W v l) (hb : Below W.heap.size W W') : RowsR W' v l := LRd.below (fun _ _ _ h1 h2 => RowAt.below h2 h1 hb) h hb

/-- a fraction's three cells, its parts copies -/
def qtw (q : Qr) (g1 c1 g2 c2 : Nat) : List Value := [.bool q.1, .slice (some ⟨g1, 0, none⟩) q.2.1.length c1, .slice (some ⟨g2, 0, none⟩) q.2.2.length c2]
def TVar (W : World) (B : Nat) (cs : List Value) (x : Vr) : Prop := ∃ g1 c1 g2 c2 g3 c3 g4 c4, cs = [.string x.name, .bool x.whole, .bool x.hasLow, .bool x.low.1, .slice (some ⟨g1, 0, none⟩) x.low.2.1.length c1, .slice (some ⟨g2, 0, none⟩) x.low.2.2.length c2, .bool x.hasHigh, .bool x.high.1, .slice (some ⟨g3, 0, none⟩) x.high.2.1.length c3, .slice (some ⟨g4, 0, none⟩) x.high.2.2.length c4] ∧ Tw W B g1 c1 x.low.2.1 ∧ Tw W B g2 c2 x.low.2.2 ∧ Tw W B g3 c3 x.high.2.1 ∧ Tw W B g4 c4 x.high.2.2
def TRow (W : World) (B : Nat) (cs : List Value) (x : Rw) : Prop := ∃ g0 c0 g1 c1 g2 c2, cs = [.slice (some ⟨g0, 0, none⟩) x.coef.length c0, .int .u8 x.kind, .bool x.right.1, .slice (some ⟨g1, 0, none⟩) x.right.2.1.length c1, .slice (some ⟨g2, 0, none⟩) x.right.2.2.length c2] ∧ TwR W B g0 c0 x.coef ∧ Tw W B g1 c1 x.right.2.1 ∧ Tw W B g2 c2 x.right.2.2
section
variable {W W' : World} {B B' : Nat} {cs : List Value}
theorem TVar.off {x : Vr} {t : TypeId} (h : TVar W B cs x) (ho : Off t W W') (ht : 66 ≠ t) : TVar W' B cs x := by
  obtain ⟨g1, c1, g2, c2, g3, c3, g4, c4, e, h1, h2, h3, h4⟩ := h
  exact ⟨g1, c1, g2, c2, g3, c3, g4, c4, e, h1.off ho ht, h2.off ho ht, h3.off ho ht, h4.off ho ht⟩
theorem TVar.below {x : Vr} (h : TVar W B cs x) (hb : Below W.heap.size W W') : TVar W' B cs x := by
  obtain ⟨g1, c1, g2, c2, g3, c3, g4, c4, e, h1, h2, h3, h4⟩ := h
  exact ⟨g1, c1, g2, c2, g3, c3, g4, c4, e, h1.below hb, h2.below hb, h3.below hb, h4.below hb⟩
theorem TVar.mono {x : Vr} (h : TVar W B cs x) (hb : B' ≤ B) : TVar W B' cs x := by
  obtain ⟨g1, c1, g2, c2, g3, c3, g4, c4, e, h1, h2, h3, h4⟩ := h
  exact ⟨g1, c1, g2, c2, g3, c3, g4, c4, e, h1.mono hb, h2.mono hb, h3.mono hb, h4.mono hb⟩
theorem TVar.len {x : Vr} (h : TVar W B cs x) : cs.length = 10 := by
  obtain ⟨g1, c1, g2, c2, g3, c3, g4, c4, rfl, _⟩ := h; rfl
theorem TRow.off {x : Rw} {t : TypeId} (h : TRow W B cs x) (ho : Off t W W') (ht : 66 ≠ t ∧ 32 ≠ t) : TRow W' B cs x := by
  obtain ⟨g0, c0, g1, c1, g2, c2, e, h0, h1, h2⟩ := h
  exact ⟨g0, c0, g1, c1, g2, c2, e, h0.off ho ht, h1.off ho ht.1, h2.off ho ht.1⟩
theorem TRow.below {x : Rw} (h : TRow W B cs x) (hb : Below W.heap.size W W') : TRow W' B cs x := by
  obtain ⟨g0, c0, g1, c1, g2, c2, e, h0, h1, h2⟩ := h
  exact ⟨g0, c0, g1, c1, g2, c2, e, h0.below hb, h1.below hb, h2.below hb⟩
theorem TRow.mono {x : Rw} (h : TRow W B cs x) (hb : B' ≤ B) : TRow W B' cs x := by
  obtain ⟨g0, c0, g1, c1, g2, c2, e, h0, h1, h2⟩ := h
  exact ⟨g0, c0, g1, c1, g2, c2, e, h0.mono hb, h1.mono hb, h2.mono hb⟩
theorem TRow.len {x : Rw} (h : TRow W B cs x) : cs.length = 5 := by
  obtain ⟨g0, c0, g1, c1, g2, c2, rfl, _⟩ := h; rfl
end
/-- a copy of a list of structs, with a mark behind -/
def TwL {α : Type} (k : Nat) (t : TypeId) (TEl : World → Nat → List Value → α → Prop) (mark : List Value) (W : World) (B g c : Nat) (l : List α) : Prop :=
  ∃ css : List (List Value), css.length = l.length ∧ (∀ cs ∈ css, cs.length = k) ∧ W.ownsRow B t k (.slice (some ⟨g, 0, none⟩) (l.length + 1) c) (l.length + 1) (css ++ [mark]).flatten ∧ ∀ (j : Nat) (x : α) (cs : List Value), l[j]? = some x → css[j]? = some cs → TEl W B cs x
theorem flat_at {k : Nat} : ∀ {css : List (List Value)} (_ : ∀ cs ∈ css, cs.length = k) {j : Nat} {cs : List Value} (_ : css[j]? = some cs) (i : Nat) (_ : i < k), css.flatten[j * k + i]? = cs[i]?
  | [], _, j, cs, h, i, hi => by simp at h
  | y :: t, hk, 0, cs, h, i, hi => by
    simp at h; subst h
    rw [Nat.zero_mul, Nat.zero_add, List.flatten_cons, List.getElem?_append_left (by rw [hk _ (by simp)]; exact hi)]
  | y :: t, hk, j + 1, cs, h, i, hi => by
    have hy := hk y (by simp)
    have e : (j + 1) * k + i - y.length = j * k + i := by rw [hy, Nat.succ_mul]; omega
    rw [List.flatten_cons, List.getElem?_append_right (by rw [hy, Nat.succ_mul]; omega), e]
    exact flat_at (fun cs hc => hk cs (by simp [hc])) (by simpa using h) i hi
section
variable {α : Type} {k : Nat} {t : TypeId} {TEl : World → Nat → List Value → α → Prop} {mark : List Value} {W W' : World} {B g c : Nat} {l : List α}
theorem TwL.below (h : TwL k t TEl mark W B g c l) (hb : Below W.heap.size W W') (he : ∀ cs x, TEl W B cs x → TEl W' B cs x) : TwL k t TEl mark W' B g c l := by
  obtain ⟨css, h1, h2, h3, h4⟩ := h
  exact ⟨css, h1, h2, own_below h3 hb, fun j x cs hx hc => he _ _ (h4 j x cs hx hc)⟩
theorem TwL.off {u : TypeId} (h : TwL k t TEl mark W B g c l) (ho : Off u W W') (ht : t ≠ u) (he : ∀ cs x, TEl W B cs x → TEl W' B cs x) : TwL k t TEl mark W' B g c l := by
  obtain ⟨css, h1, h2, h3, h4⟩ := h
  exact ⟨css, h1, h2, own_off h3 ho ht, fun j x cs hx hc => he _ _ (h4 j x cs hx hc)⟩
theorem TwL.mono {B' : Nat} (h : TwL k t TEl mark W B g c l) (hb : B' ≤ B) (he : ∀ cs x, TEl W B cs x → TEl W B' cs x) : TwL k t TEl mark W B' g c l := by
  obtain ⟨css, h1, h2, h3, h4⟩ := h
  exact ⟨css, h1, h2, own_le h3 hb, fun j x cs hx hc => he _ _ (h4 j x cs hx hc)⟩
theorem TwL.cap (h : TwL k t TEl mark W B g c l) : l.length + 1 ≤ c ∧ B ≤ g ∧ g < W.heap.size := by
  obtain ⟨css, h1, h2, h3, h4⟩ := h
  rcases h3.2 with ⟨e, _⟩ | ⟨g', cap, cur, e, hB, hg, hn, _⟩
  · cases e
  · cases e
    exact ⟨hn, hB, (Array.getElem?_eq_some_iff.1 hg).1⟩
theorem TwL.at (hm : mark.length = k) (h : TwL k t TEl mark W B g c l) {j : Nat} {x : α} (hx : l[j]? = some x) : ∃ cs : List Value, cs.length = k ∧ TEl W B cs x ∧ ∀ i v, cs[i]? = some v → W.cell? ⟨g, j * k + i, none⟩ = some v := by
  obtain ⟨css, h1, h2, h3, h4⟩ := h
  have hj := (List.getElem?_eq_some_iff.1 hx).1
  have hc : css[j]? = some css[j] := List.getElem?_eq_getElem (by omega)
  have hk : ∀ cs ∈ css ++ [mark], cs.length = k := fun cs hc => by
    rcases List.mem_append.1 hc with hc | hc
    · exact h2 cs hc
    · obtain rfl := List.mem_singleton.1 hc; exact hm
  refine ⟨css[j], h2 _ (List.getElem_mem _), h4 j x _ hx hc, fun i v hv => ?_⟩
  have hi : i < k := by have := (List.getElem?_eq_some_iff.1 hv).1; rwa [h2 _ (List.getElem_mem _)] at this
  have hlt : j * k + i < (l.length + 1) * k := by
    have : (j + 1) * k ≤ (l.length + 1) * k := Nat.mul_le_mul_right _ (by omega)
    rw [Nat.succ_mul] at this; omega
  rw [World.ownsRow.cellAt h3 (j * k + i) hlt, flat_at hk (by rw [List.getElem?_append_left (by omega)]; exact hc) i hi]
  exact hv
theorem TwL.markAt (hm : mark.length = k) (h : TwL k t TEl mark W B g c l) {i : Nat} {v : Value} (hv : mark[i]? = some v) : W.cell? ⟨g, l.length * k + i, none⟩ = some v := by
  obtain ⟨css, h1, h2, h3, h4⟩ := h
  have hk : ∀ cs ∈ css ++ [mark], cs.length = k := fun cs hc => by
    rcases List.mem_append.1 hc with hc | hc
    · exact h2 cs hc
    · obtain rfl := List.mem_singleton.1 hc; exact hm
  have hi : i < k := by have := (List.getElem?_eq_some_iff.1 hv).1; omega
  rw [World.ownsRow.cellAt h3 (l.length * k + i) (by rw [Nat.succ_mul]; omega), flat_at hk (cs := mark) (by rw [List.getElem?_append_right (by omega), h1]; simp) i hi]
  exact hv
end
end Go.Proofs.YtbndmpdaloadjaaGreat
