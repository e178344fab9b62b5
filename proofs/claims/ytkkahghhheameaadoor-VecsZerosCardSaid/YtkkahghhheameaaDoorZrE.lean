/- Rows of 0: what stays of them, what they tell the book. -/
import Derived.Test.YtkkahghhheameaaDoorZrD
namespace Go.Proofs.YtkkahghhheameaaDoor
open Go Go.Proofs Go.RowKit Go.Shelf

attribute [local go_sem] Oper.semAt_some
set_option maxRecDepth 100000
set_option linter.unusedVariables false
/-- a row of 0 of its own: all its memory lies from base on, below top -/
structure ZR (W : World) (base top : Nat) (a : Option Addr) (n c : Nat) (ds : List Nat) : Prop where
  len : ds.length = n
  row : W.ownsRow base 47 3 (.slice a n c) n (ds.flatMap zmark)
  own : ∀ g, (Value.slice a n c).ownBlock = some g → g < top
  den : ∀ d ∈ ds, base ≤ d ∧ d < top ∧ One2 W d ∧ (Value.slice a n c).ownBlock ≠ some d
  dup : ds.Nodup
section
variable {W W' : World} {base top : Nat} {a : Option Addr} {n c : Nat} {ds : List Nat}
theorem ZR.below (h : ZR W base top a n c ds) (b : Below top W W') : ZR W' base top a n c ds := by
  refine ⟨h.len, ⟨h.row.1, ?_⟩, h.own, fun d hd => ?_, h.dup⟩
  · rcases h.row.2 with h' | ⟨g, cap, cur, e1, hb, hg, hr⟩
    · exact .inl h'
    · exact .inr ⟨g, cap, cur, e1, hb, (b.block g (h.own g (by rw [e1]; rfl))).trans hg, hr⟩
  · obtain ⟨h1, h2, h3, h4⟩ := h.den d hd
    exact ⟨h1, h2, (b.block d h2).trans h3, h4⟩
theorem zmarks_at (ds : List Nat) (k : Nat) (hk : k < ds.length) : (ds.flatMap zmark)[k * 3]? = some (.bool false) ∧ (ds.flatMap zmark)[k * 3 + 1]? = some (.slice none 0 0) ∧ (ds.flatMap zmark)[k * 3 + 2]? = some (.slice (some ⟨ds.getD k 0, 0, none⟩) 1 2) := by
  have key : ∀ (l : List Nat) (j : Nat) (b : Nat), l[j]? = some b → ∀ i, i < 3 → (l.flatMap zmark)[j * 3 + i]? = (zmark b)[i]? := by
    intro l
    induction l with
    | nil => intro j b h; simp at h
    | cons y t ih =>
      intro j b h i hi
      rw [List.flatMap_cons]
      cases j with
      | zero =>
        simp at h; subst h
        rw [Nat.zero_mul, Nat.zero_add, List.getElem?_append_left (by exact hi)]
      | succ j =>
        rw [List.getElem?_append_right (by show 3 ≤ _; omega)]
        have e : (j + 1) * 3 + i - (zmark y).length = j * 3 + i := by show (j + 1) * 3 + i - 3 = _; omega
        rw [e]
        exact ih j b (by simpa using h) i hi
  have hb : ds[k]? = some (ds.getD k 0) := by rw [List.getD_eq_getElem?_getD, List.getElem?_eq_getElem hk]; rfl
  exact ⟨key ds k _ hb 0 (by omega), key ds k _ hb 1 (by omega), key ds k _ hb 2 (by omega)⟩
theorem dmarks_at (es : List (Nat × Nat × Nat)) (k : Nat) (hk : k < es.length) : (es.flatMap dmark)[k * 3]? = some (.bool false) ∧ (es.flatMap dmark)[k * 3 + 1]? = some (.slice (some ⟨(es.getD k (0, 0, 0)).2.1, 0, none⟩) 0 (es.getD k (0, 0, 0)).2.2) ∧ (es.flatMap dmark)[k * 3 + 2]? = some (.slice (some ⟨(es.getD k (0, 0, 0)).1, 0, none⟩) 1 1) := by
  have key : ∀ (l : List (Nat × Nat × Nat)) (j : Nat) (b : Nat × Nat × Nat), l[j]? = some b → ∀ i, i < 3 → (l.flatMap dmark)[j * 3 + i]? = (dmark b)[i]? := by
    intro l
    induction l with
    | nil => intro j b h; simp at h
    | cons y t ih =>
      intro j b h i hi
      rw [List.flatMap_cons]
      cases j with
      | zero =>
        simp at h; subst h
        rw [Nat.zero_mul, Nat.zero_add, List.getElem?_append_left (by exact hi)]
      | succ j =>
        rw [List.getElem?_append_right (by show 3 ≤ _; omega)]
        have e : (j + 1) * 3 + i - (dmark y).length = j * 3 + i := by show (j + 1) * 3 + i - 3 = _; omega
        rw [e]
        exact ih j b (by simpa using h) i hi
  have hb : es[k]? = some (es.getD k (0, 0, 0)) := by rw [List.getD_eq_getElem?_getD, List.getElem?_eq_getElem hk]; rfl
  exact ⟨key es k _ hb 0 (by omega), key es k _ hb 1 (by omega), key es k _ hb 2 (by omega)⟩
theorem getD_mem {α : Type} (l : List α) (k : Nat) (d : α) (h : k < l.length) : l.getD k d ∈ l := by
  rw [List.getD_eq_getElem?_getD, List.getElem?_eq_getElem h]; exact List.getElem_mem h
theorem ZR.rowZ (h : ZR W base top a n c ds) : RowZ W a n c (fun _ => none) (fun _ => 0) (fun k => ds.getD k 0) (fun _ => 2) := by
  intro h0
  obtain ⟨a', c', e, hc, hr⟩ := own_rdc h.row
  simp only [Value.slice.injEq] at e
  obtain ⟨rfl, _, rfl⟩ := e
  obtain ⟨b, off, rfl, hb, hcell⟩ := hr h0
  refine ⟨b, off, rfl, hc, hb, fun k hk => ?_⟩
  have hk' : k < ds.length := by rw [h.len]; exact hk
  obtain ⟨z0, z1, z2⟩ := zmarks_at ds k hk'
  have hd := h.den _ (getD_mem ds k 0 hk')
  refine ⟨⟨hcell _ _ z0, by rw [Nat.add_assoc]; exact hcell _ _ z1, by rw [Nat.add_assoc]; exact hcell _ _ z2⟩, (Array.getElem?_eq_some_iff.1 hd.2.2.1).1, by show 1 ≤ 2; omega, cell_of hd.2.2.1 0 _ rfl⟩
theorem dRowZ {es : List (Nat × Nat × Nat)} (hl : es.length = n) (hr0 : W.ownsRow base 47 3 (.slice a n c) n (es.flatMap dmark)) (hd : ∀ d ∈ es, base ≤ d.1 ∧ One1 W d.1 ∧ (Value.slice a n c).ownBlock ≠ some d.1) :
    RowZ W a n c (fun k => some ⟨(es.getD k (0, 0, 0)).2.1, 0, none⟩) (fun k => (es.getD k (0, 0, 0)).2.2) (fun k => (es.getD k (0, 0, 0)).1) (fun _ => 1) := by
  intro h0
  obtain ⟨a', c', e, hc, hr⟩ := own_rdc hr0
  simp only [Value.slice.injEq] at e
  obtain ⟨rfl, _, rfl⟩ := e
  obtain ⟨b, off, rfl, hb, hcell⟩ := hr h0
  refine ⟨b, off, rfl, hc, hb, fun k hk => ?_⟩
  have hk' : k < es.length := by rw [hl]; exact hk
  obtain ⟨z0, z1, z2⟩ := dmarks_at es k hk'
  have hd := hd _ (getD_mem es k (0, 0, 0) hk')
  refine ⟨⟨hcell _ _ z0, by rw [Nat.add_assoc]; exact hcell _ _ z1, by rw [Nat.add_assoc]; exact hcell _ _ z2⟩, (Array.getElem?_eq_some_iff.1 hd.2.1).1, by show 1 ≤ 1; omega, cell_of hd.2.1 0 _ rfl⟩
/-- what such a row tells -/
def zx : Nat → Value := fun _ => .slice none 0 0
def zy (ds : List Nat) : Nat → Value := fun k => .slice (some ⟨ds.getD k 0, 0, none⟩) 1 2
theorem ZR.rowR (h : ZR W base top a n c ds) {bad : Nat → Prop} (hb : ∀ g, g < top → ¬ bad g) : RowR W a n c (fun _ => false) (fun _ => none) (fun k => some ⟨ds.getD k 0, 0, none⟩) (fun _ => 0) (fun _ => 0) (fun _ => 1) (fun _ => 2) bad := by
  intro h0
  obtain ⟨b, off, rfl, hc, hl, hk⟩ := h.rowZ h0
  exact ⟨b, off, rfl, hc, hl, hb b (h.own b rfl), fun k h1 => (hk k h1).1⟩
theorem told_in {x y : Nat → Value} {n : Nat} : ∀ {k : Nat} {e : Value × Nat}, e ∈ tolds x y n k → (∃ j, j < k ∧ (e.1 = x j ∨ e.1 = y j)) ∧ e.2 ≤ n + 2 * k
  | 0, e, h => by cases h
  | k + 1, e, h => by
    rcases List.mem_append.1 h with h | h
    · obtain ⟨⟨j, hj, h1⟩, h2⟩ := told_in h
      exact ⟨⟨j, by omega, h1⟩, by omega⟩
    · rcases List.mem_cons.1 h with rfl | h
      · exact ⟨⟨k, by omega, .inl rfl⟩, by simp; omega⟩
      · obtain rfl := List.mem_singleton.1 h
        exact ⟨⟨k, by omega, .inr rfl⟩, by simp; omega⟩
theorem told_pw {x y : Nat → Value} {n : Nat} (hx : ∀ j, (x j).ownBlock = none) : ∀ (k : Nat), (∀ i j, i < j → j < k → (y i).ownBlock ≠ (y j).ownBlock) → (tolds x y n k).Pairwise fun e f => e.1.ownBlock = none ∨ e.1.ownBlock ≠ f.1.ownBlock
  | 0, _ => List.Pairwise.nil
  | k + 1, hy => by
    rw [tolds, List.pairwise_append]
    refine ⟨told_pw hx k (fun i j h1 h2 => hy i j h1 (by omega)), ?_, fun e he f hf => ?_⟩
    · refine List.pairwise_cons.2 ⟨fun f _ => .inl (hx k), List.pairwise_singleton _ _⟩
    · obtain ⟨⟨j, hj, h1⟩, _⟩ := told_in he
      rcases h1 with h1 | h1
      · exact .inl (by rw [h1]; exact hx j)
      · by_cases hn : (y j).ownBlock = none
        · exact .inl (by rw [h1]; exact hn)
        · refine .inr ?_
          rw [h1]
          rcases List.mem_cons.1 hf with rfl | hf
          · intro e2
            exact hn (e2.trans (hx k))
          · obtain rfl := List.mem_singleton.1 hf
            exact hy j k hj (by omega)
theorem nodup_getD {ds : List Nat} (h : ds.Nodup) {i j : Nat} (hij : i < j) (hj : j < ds.length) : ds.getD i 0 ≠ ds.getD j 0 := by
  rw [List.getD_eq_getElem?_getD, List.getD_eq_getElem?_getD, List.getElem?_eq_getElem hj, List.getElem?_eq_getElem (by omega)]
  exact List.pairwise_iff_getElem.1 h i j (by omega) hj hij
theorem ZR.pw (h : ZR W base top a n c ds) (m : Nat) : (tolds zx (zy ds) m n).Pairwise fun e f => e.1.ownBlock = none ∨ e.1.ownBlock ≠ f.1.ownBlock :=
  told_pw (fun _ => rfl) n fun i j h1 h2 e => nodup_getD h.dup h1 (by rw [h.len]; exact h2) (by simpa [zy, Value.ownBlock] using e)
/-- each list that it tells: empty, or a fraction's lower part -/
theorem ZR.told (h : ZR W base top a n c ds) {m : Nat} {e : Value × Nat} (he : e ∈ tolds zx (zy ds) m n) : e.2 ≤ m + 2 * n ∧ (e.1 = .slice none 0 0 ∨ ∃ d ∈ ds, e.1 = .slice (some ⟨d, 0, none⟩) 1 2) := by
  obtain ⟨⟨j, hj, h1⟩, h2⟩ := told_in he
  refine ⟨h2, ?_⟩
  rcases h1 with h1 | h1
  · exact .inl h1
  · exact .inr ⟨_, getD_mem ds j 0 (by rw [h.len]; exact hj), h1⟩
theorem one2_row {d b : Nat} (h : One2 W d) (hb : b ≤ d) : W.ownsRow b 58 1 (.slice (some ⟨d, 0, none⟩) 1 2) 1 [.int .u32 1] :=
  ⟨rfl, .inr ⟨d, 2, _, rfl, hb, h, by omega, by unfold maxLen; omega, rfl, rfl⟩⟩
theorem own_low {b b' : Nat} {T : TypeId} {sz m : Nat} {v : Value} {xs : List Value} (h : W.ownsRow b T sz v m xs) (hb : b' ≤ b) : W.ownsRow b' T sz v m xs := by
  refine ⟨h.1, ?_⟩
  rcases h.2 with h' | ⟨g, cap, cur, e1, h2, h3⟩
  · exact .inl h'
  · exact .inr ⟨g, cap, cur, e1, Nat.le_trans hb h2, h3⟩
/-- where a told list lies -/
theorem ZR.lies (h : ZR W base top a n c ds) {m : Nat} {e : Value × Nat} (he : e ∈ tolds zx (zy ds) m n) : (∃ (l : Nat) (xs : List Value), l ≤ 2000000 ∧ W.ownsRow base 58 1 e.1 l xs) ∧ ∀ g, e.1.ownBlock = some g → base ≤ g ∧ g < top ∧ (Value.slice a n c).ownBlock ≠ some g := by
  rcases (h.told he).2 with e1 | ⟨d, hd, e1⟩
  · rw [e1]
    exact ⟨⟨0, [], by omega, World.ownsRow_nil _ _ _ _⟩, fun g e => by cases e⟩
  · rw [e1]
    obtain ⟨h1, h2, h3, h4⟩ := h.den d hd
    refine ⟨⟨1, _, by omega, one2_row h3 h1⟩, fun g e => ?_⟩
    have : d = g := by simpa [Value.ownBlock] using e
    subst this
    exact ⟨h1, h2, h4⟩
end
end Go.Proofs.YtkkahghhheameaaDoor
