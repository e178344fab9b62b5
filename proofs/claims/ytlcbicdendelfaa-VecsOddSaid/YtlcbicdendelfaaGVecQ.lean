/- A place of a row of fractions of the call's own is stored into. -/
import Derived.Test.YtlcbicdendelfaaGVecW
import Derived.Laws.OwnMore
namespace Go.Proofs.Ytlcbicdendelfaa
open Go Go.Proofs Go.RowKit Go.Shelf Nu

theorem zcells_set : ∀ (zs : List Zr) (k : Nat) (z : Zr), k < zs.length → zcells (zs.set k z) = (((zcells zs).set (k * 3) (.bool z.1.1)).set (k * 3 + 1) (.slice z.2.1.1 z.1.2.1.length z.2.1.2)).set (k * 3 + 2) (.slice z.2.2.1 z.1.2.2.length z.2.2.2)
  | [], k, z, h => by simp at h
  | y :: zs, 0, z, _ => by simp [zcells, zcell]
  | y :: zs, k + 1, z, h => by
    have ih := zcells_set zs k z (by simpa using h)
    have e : ∀ l : List Zr, zcells (y :: l) = zcell y ++ zcells l := fun l => by simp [zcells]
    have hl : (zcell y).length = 3 := rfl
    rw [List.set_cons_succ, e, e, ih, List.set_append_right _ _ (by omega), List.set_append_right _ _ (by omega), List.set_append_right _ _ (by omega), hl,
      show (k + 1) * 3 - 3 = k * 3 by omega, show (k + 1) * 3 + 1 - 3 = k * 3 + 1 by omega, show (k + 1) * 3 + 2 - 3 = k * 3 + 2 by omega]
theorem Row32.set {W : World} {g n cap j : Nat} {u : Value} (h : Row32 W (.slice (some ⟨g, 0, none⟩) n cap)) (hu : no32 u = true) : Row32 (W.setCell ⟨g, j, none⟩ u) (.slice (some ⟨g, 0, none⟩) n cap) := by
  intro g' e
  obtain ⟨cur, t, h1, h2⟩ := h g' e
  obtain rfl : g = g' := by simpa [Value.ownBlock] using e
  refine ⟨cur.setIfInBounds j u, t, heap_setCell_same W g j cur t u h1, fun x hx => ?_⟩
  rw [Array.toList_setIfInBounds] at hx
  rcases List.mem_or_eq_of_mem_set hx with hx | rfl
  · exact h2 x hx
  · exact hu
/-- one cell of the row: the row's cells, and all that is no part of it -/
theorem row_put {W : World} {base g n cap j : Nat} {xs : List Value} {u : Value} (h : W.ownsRow base 43 3 (.slice (some ⟨g, 0, none⟩) n cap) n xs) (h32 : Row32 W (.slice (some ⟨g, 0, none⟩) n cap)) (hu : no32 u = true) :
    (W.setCell ⟨g, j, none⟩ u).ownsRow base 43 3 (.slice (some ⟨g, 0, none⟩) n cap) n (xs.set j u) ∧ Row32 (W.setCell ⟨g, j, none⟩ u) (.slice (some ⟨g, 0, none⟩) n cap) ∧ ∀ z, ZIn W z → ZIn (W.setCell ⟨g, j, none⟩ u) z := by
  have k := h.stored j u
  exact ⟨k.1, h32.set hu, fun z hz => hz.grown (v0 := .slice (some ⟨g, 0, none⟩) n cap) k.2 h32⟩
theorem VF.put {W : World} {base g cap k : Nat} {zs : List Zr} (h : VF W base (.slice (some ⟨g, 0, none⟩) zs.length cap) zs) (hk : k < zs.length) (z : Zr) (hz : ZIn W z) :
    VF (((W.setCell ⟨g, k * 3, none⟩ (.bool z.1.1)).setCell ⟨g, k * 3 + 1, none⟩ (.slice z.2.1.1 z.1.2.1.length z.2.1.2)).setCell ⟨g, k * 3 + 2, none⟩ (.slice z.2.2.1 z.1.2.2.length z.2.2.2)) base (.slice (some ⟨g, 0, none⟩) zs.length cap) (zs.set k z) := by
  obtain ⟨a1, b1, c1⟩ := row_put (j := k * 3) (u := .bool z.1.1) h.1.1 h.1.2 rfl
  obtain ⟨a2, b2, c2⟩ := row_put (j := k * 3 + 1) (u := .slice z.2.1.1 z.1.2.1.length z.2.1.2) a1 b1 rfl
  obtain ⟨a3, b3, c3⟩ := row_put (j := k * 3 + 2) (u := .slice z.2.2.1 z.1.2.2.length z.2.2.2) a2 b2 rfl
  rw [← zcells_set zs k z hk] at a3
  refine ⟨⟨by rw [List.length_set]; exact a3, b3⟩, fun y hy => c3 y (c2 y (c1 y ?_))⟩
  rcases List.mem_or_eq_of_mem_set hy with hy | rfl
  · exact h.2 y hy
  · exact hz
/-- a row's copy: append([]api.Rat(nil), l...) -/
theorem run_copy_rat {i : TypeInfo} (hi : Try.prog.info? 43 = some i) (hz : i.zero = some (.agg zrat)) (h1 : i.size = 3) (h2 : i.bytes = 56) (w : World) (ty : TypeId) (b off cap : Nat) (zs : List Zr) (hn : 0 < zs.length) (hl : zs.length ≤ 100000)
    (hnews : ∀ j u, (zcells zs)[j]? = some u → w.cell? ((⟨b, off, none⟩ : Addr).add j) = some u) (hin : ∀ z ∈ zs, ZIn w z) :
    ∃ g cap' w', (Builtin.append_ #[38, 38] ty #[.slice none 0 0, .slice (some ⟨b, off, none⟩) zs.length cap]).run Try.prog w = .ok (.slice (some ⟨g, 0, none⟩) zs.length cap') w' ∧ VF w' w.heap.size (.slice (some ⟨g, 0, none⟩) zs.length cap') zs ∧ Below w.heap.size w w' := by
  have hone : ∀ u ∈ zcells zs, u.oneCell' = true := by
    intro u hu
    obtain ⟨z, _, h⟩ := List.mem_flatMap.1 hu
    simp only [zcell, List.mem_cons, List.not_mem_nil, or_false] at h
    rcases h with rfl | rfl | rfl <;> rfl
  have hcl : (zcells zs).length = zs.length * i.size := by rw [h1]; exact zcells_len zs
  obtain ⟨v', w', hrun, ho, hg, hnil⟩ := run_append_own (P := Try.prog) w w.heap.size 38 ty 43 i (.agg zrat) 3 56 Try.underlying38 hi hz h1 h2 rfl (by omega) (.slice none 0 0) 0 [] (World.ownsRow_nil w _ _ 3) ⟨b, off, none⟩ zs.length cap (zcells zs) (zcells_len zs) hnews hone (by unfold maxLen; omega) (by omega) (Nat.le_refl _)
  have hr := run_append_nil (P := Try.prog) w 38 ty 43 i (.agg zrat) Try.underlying38 hi hz ⟨b, off, none⟩ zs.length cap (zcells zs) hcl hnews (by omega) (by omega) (by rw [h2]; omega)
  rw [hr] at hrun
  cases hrun
  have hb : Below w.heap.size w _ := (Below.refl w.heap.size w).grown hg (Nat.le_refl _) (fun j ej => by cases ej)
  refine ⟨_, _, _, hr, ⟨⟨by simpa using ho, ?_⟩, fun z hz' => (hin z hz').below hb⟩, hb⟩
  intro g e
  obtain rfl : w.heap.size = g := by simpa [Value.ownBlock] using e
  refine ⟨_, _, heap_alloc_new w.drew _, fun u hu => ?_⟩
  simp only [Array.toList_append, List.mem_append] at hu
  rcases hu with hu | hu
  · exact zcells_no zs u (by simpa using hu)
  · obtain ⟨j, _, rfl⟩ : ∃ j, j < (grownCap w zs.length 0 43 - zs.length) * (Value.agg zrat).cells.size ∧ (Value.agg zrat).cells[j % (Value.agg zrat).cells.size]! = u := by simpa [Builtin.zeroCells] using hu
    exact zrat_no j
theorem wpList_copy_rat {i : TypeInfo} (hi : Try.prog.info? 43 = some i) (hz : i.zero = some (.agg zrat)) (h1 : i.size = 3) (h2 : i.bytes = 56) (w : World) {ops : Array Oper} {rest : List Oper} {o : Oper} {a : Act} {Q : Exit → Act → World → Prop}
    (hg : o.guard = none) (s x : Operand) (hop : o.op = Op.call { callee := Callee.builtin Builtin.append, args := #[s, x], argTypes := #[38, 38] })
    (b off cap n : Nat) (zs : List Zr) (hs : a.eval s = .slice none 0 0) (hx : a.eval x = .slice (some ⟨b, off, none⟩) n cap) (hn : zs.length = n) (h0 : 0 < n) (hl : n ≤ 100000)
    (hnews : ∀ j u, (zcells zs)[j]? = some u → w.cell? ((⟨b, off, none⟩ : Addr).add j) = some u) (hin : ∀ z ∈ zs, ZIn w z)
    (hK : ∀ g cap' w', VF w' w.heap.size (.slice (some ⟨g, 0, none⟩) n cap') zs → Below w.heap.size w w' → wpList Try.prog ops Q rest (a.put o.dst (.slice (some ⟨g, 0, none⟩) n cap')) w') :
    wpList Try.prog ops Q (o :: rest) a w := by
  subst hn
  refine wpList_plain hg fun K hK' => ?_
  obtain ⟨g, cap', w', hrun, r1, r2⟩ := run_copy_rat hi hz h1 h2 w o.type b off cap zs h0 hl hnews hin
  unfold Oper.wp
  simp only [execOp, hop, resolve, invoke, builtin, Sem.run_bind, Sem.run_pure, Result.andThen_ok, List.map_toArray, List.map_cons, List.map_nil, hs, hx, hrun]
  exact hK' _ _ (hK g cap' w' r1 r2)
/-- a row that is read has cells as zcells lays them -/
theorem VReads.cells {W : World} {b off n cap : Nat} {qs : List Qr} (h : VReads W (.slice (some ⟨b, off, none⟩) n cap) qs) (h0 : 0 < n) : ∃ zs : List Zr, zs.map (·.1) = qs ∧ zs.length = n ∧ (∀ j u, (zcells zs)[j]? = some u → W.cell? ((⟨b, off, none⟩ : Addr).add j) = some u) ∧ ∀ z ∈ zs, ZIn W z := by
  obtain ⟨hn, _, b', off', hA, hc⟩ := h.addr
  obtain ⟨e, _⟩ := hA h0
  cases e
  have key : ∀ j, ∃ z : Zr, j < n → z.1 = qs.getD j default ∧ W.cell? ⟨b, off + j * 3, none⟩ = some (.bool z.1.1) ∧ W.cell? ⟨b, off + j * 3 + 1, none⟩ = some (.slice z.2.1.1 z.1.2.1.length z.2.1.2) ∧ W.cell? ⟨b, off + j * 3 + 2, none⟩ = some (.slice z.2.2.1 z.1.2.2.length z.2.2.2) ∧ ZIn W z := by
    intro j
    by_cases hj : j < n
    · obtain ⟨p, c, p', c', h0, h1, h2, g, g'⟩ := hc j _ (qs_at (by omega))
      exact ⟨(qs.getD j default, (p, c), (p', c')), fun _ => ⟨rfl, h0, h1, h2, g, g'⟩⟩
    · exact ⟨default, fun h => absurd h hj⟩
  obtain ⟨f, hf⟩ : ∃ f : Nat → Zr, ∀ j, j < n → (f j).1 = qs.getD j default ∧ W.cell? ⟨b, off + j * 3, none⟩ = some (.bool (f j).1.1) ∧ W.cell? ⟨b, off + j * 3 + 1, none⟩ = some (.slice (f j).2.1.1 (f j).1.2.1.length (f j).2.1.2) ∧ W.cell? ⟨b, off + j * 3 + 2, none⟩ = some (.slice (f j).2.2.1 (f j).1.2.2.length (f j).2.2.2) ∧ ZIn W (f j) :=
    ⟨fun j => Classical.choose (key j), fun j => Classical.choose_spec (key j)⟩
  refine ⟨(List.range n).map f, ?_, by simp, fun j u hu => ?_, fun z hz => ?_⟩
  · apply List.ext_getElem (by simp [hn])
    intro j h1 h2
    simp only [List.length_map, List.length_range] at h1
    simp only [List.getElem_map, List.getElem_range]
    rw [(hf j h1).1, List.getD_eq_getElem?_getD, List.getElem?_eq_getElem h2]
    rfl
  · have hjl : j < n * 3 := by
      have := (List.getElem?_eq_some_iff.1 hu).1
      rw [zcells_len] at this
      simpa using this
    have hq : j / 3 < n := by omega
    have hz : ((List.range n).map f)[j / 3]? = some (f (j / 3)) := by simp [hq]
    have ha := zcells_at _ (j / 3) _ hz (j % 3) (by omega)
    rw [show j / 3 * 3 + j % 3 = j by omega, hu] at ha
    obtain ⟨_, c0, c1, c2, _⟩ := hf (j / 3) hq
    rw [Addr.add_lit]
    have h3 : j % 3 = 0 ∨ j % 3 = 1 ∨ j % 3 = 2 := by omega
    rcases h3 with h3 | h3 | h3 <;> rw [h3] at ha <;> simp only [zcell, List.getElem?_cons_zero, List.getElem?_cons_succ, Option.some.injEq] at ha <;> subst ha
    · rw [show off + j = off + j / 3 * 3 by omega]; exact c0
    · rw [show off + j = off + j / 3 * 3 + 1 by omega]; exact c1
    · rw [show off + j = off + j / 3 * 3 + 2 by omega]; exact c2
  · obtain ⟨j, hj, rfl⟩ := List.mem_map.1 hz
    exact (hf j (by simpa using hj)).2.2.2.2
/-- what a store into a place asks: its cells are there, and may be written -/
theorem VF.at {W : World} {base g n cap k : Nat} {zs : List Zr} (h : VF W base (.slice (some ⟨g, 0, none⟩) n cap) zs) (hn : zs.length = n) (hk : k < n) :
    ∃ z, zs[k]? = some z ∧ W.cell? ⟨g, k * 3, none⟩ = some (.bool z.1.1) ∧ W.cell? ⟨g, k * 3 + 1, none⟩ = some (.slice z.2.1.1 z.1.2.1.length z.2.1.2) ∧ W.cell? ⟨g, k * 3 + 2, none⟩ = some (.slice z.2.2.1 z.1.2.2.length z.2.2.2) ∧
      W.frozen? ⟨g, k * 3, none⟩ = false ∧ W.frozen? ⟨g, k * 3 + 1, none⟩ = false ∧ W.frozen? ⟨g, k * 3 + 2, none⟩ = false := by
  subst hn
  have hz : zs[k]? = some zs[k] := List.getElem?_eq_getElem hk
  have key : ∀ i, i < 3 → W.cell? ⟨g, k * 3 + i, none⟩ = (zcell zs[k])[i]? := fun i hi => by
    rw [World.ownsRow.cellAt h.1.1 (k * 3 + i) (by omega), zcells_at zs k _ hz i hi]
  exact ⟨zs[k], hz, key 0 (by omega), key 1 (by omega), key 2 (by omega), World.ownsRow.frozenAt h.1.1 _, World.ownsRow.frozenAt h.1.1 _, World.ownsRow.frozenAt h.1.1 _⟩
/-- .. where the new fraction's parts are made behind the store (the walk's simp moves an alloc out of a store) -/
theorem VF.put_later {W W' : World} {base g cap k n : Nat} {zs : List Zr} (h : VF W base (.slice (some ⟨g, 0, none⟩) n cap) zs) (hn : zs.length = n) (hk : k < n) (z : Zr)
    (hb : Below W.heap.size (((W.setCell ⟨g, k * 3, none⟩ (.bool z.1.1)).setCell ⟨g, k * 3 + 1, none⟩ (.slice z.2.1.1 z.1.2.1.length z.2.1.2)).setCell ⟨g, k * 3 + 2, none⟩ (.slice z.2.2.1 z.1.2.2.length z.2.2.2)) W') (hz : ZIn W' z) :
    VF W' base (.slice (some ⟨g, 0, none⟩) n cap) (zs.set k z) := by
  subst hn
  obtain ⟨a1, b1, c1⟩ := row_put (j := k * 3) (u := .bool z.1.1) h.1.1 h.1.2 rfl
  obtain ⟨a2, b2, c2⟩ := row_put (j := k * 3 + 1) (u := .slice z.2.1.1 z.1.2.1.length z.2.1.2) a1 b1 rfl
  obtain ⟨a3, b3, c3⟩ := row_put (j := k * 3 + 2) (u := .slice z.2.2.1 z.1.2.2.length z.2.2.2) a2 b2 rfl
  rw [← zcells_set zs k z hk] at a3
  have hb' := hb
  rw [show W.heap.size = (((W.setCell ⟨g, k * 3, none⟩ (.bool z.1.1)).setCell ⟨g, k * 3 + 1, none⟩ (.slice z.2.1.1 z.1.2.1.length z.2.1.2)).setCell ⟨g, k * 3 + 2, none⟩ (.slice z.2.2.1 z.1.2.2.length z.2.2.2)).heap.size by simp] at hb'
  refine ⟨⟨by rw [List.length_set]; exact own_below a3 hb', b3.below hb'⟩, fun y hy => ?_⟩
  rcases List.mem_or_eq_of_mem_set hy with hy | rfl
  · exact (c3 y (c2 y (c1 y (h.2 y hy)))).below hb'
  · exact hz
end Go.Proofs.Ytlcbicdendelfaa
