/- A row of fractions of the call's own, that grows: what lies elsewhere stays, the parts of its fractions too. -/
import Derived.Test.YtbndmpdaloadjaaGreatGVecR
import Derived.Maps.AppendAt
set_option linter.unusedSimpArgs false
set_option linter.unusedVariables false
namespace Go.Proofs.YtbndmpdaloadjaaGreat
open Go Go.Proofs Go.RowKit Go.Shelf Nu

/-- no cell of v's block is a part of a number -/
def Row32 (W : World) (v : Value) : Prop := ∀ g, v.ownBlock = some g → ∃ cur e, W.heap[g]? = some (.cells cur e (0, 0)) ∧ ∀ u ∈ cur.toList, no32 u = true
theorem Row32.nil (W : World) : Row32 W (.slice none 0 0) := fun g h => by cases h
theorem Row32.kept {W W' : World} {v : Value} {row : Option Nat} (h : Row32 W v) (hg : W.grownBy W' row) (hne : v.ownBlock = none ∨ v.ownBlock ≠ row) : Row32 W' v := by
  intro g e
  obtain ⟨cur, t, h1, h2⟩ := h g e
  refine ⟨cur, t, ?_, h2⟩
  rw [hg.block g (Array.getElem?_eq_some_iff.1 h1).1 (by rcases hne with h | h; · rw [h] at e; cases e
                                                         · rwa [e] at h)]
  exact h1
theorem Row32.below {W W' : World} {v : Value} (h : Row32 W v) (hb : Below W.heap.size W W') : Row32 W' v := by
 intro g e
 obtain ⟨cur, t, h1, h2⟩ := h g e
 exact ⟨cur, t, (hb.block g (Array.getElem?_eq_some_iff.1 h1).1).trans h1, h2⟩
theorem Reads.ne32 {W : World} {v v0 : Value} {l : List Nat} {b off n cap : Nat} (h : Reads W v l) (e : v = .slice (some ⟨b, off, none⟩) n cap) (hl : l ≠ []) (h32 : Row32 W v0) : v0.ownBlock ≠ some b := by
 subst e
 intro hb
 obtain ⟨cur, t, h1, h2⟩ := h32 b hb
 rcases h with ⟨e, _⟩ | ⟨b', off', cap', e, _, _, hc⟩ | ⟨_, _, e⟩
 rotate_right
 · exact absurd e hl
 · cases e
 · cases e
   have := hc 0 (List.length_pos_iff.2 hl)
   unfold World.cell? at this
   rw [h1] at this
   have h3 : cur[off + 0]? = some (.int .u32 (l.getD 0 0 : Nat)) := by simpa using this
   have h4 := h2 _ (List.mem_of_getElem? (l := cur.toList) (by simpa using h3))
   simp [no32] at h4
theorem Reads.grown32 {W W' : World} {v v0 : Value} {l : List Nat} (h : Reads W v l) (hg : W.grownBy W' v0.ownBlock) (h32 : Row32 W v0) : Reads W' v l := by
 have h0 := h
 rcases h with h | ⟨b, off, cap, rfl, hb, hc, hl⟩ | h
 rotate_right
 · exact .inr (.inr h)
 · exact .inl h
 · refine .inr (.inl ⟨b, off, cap, rfl, Nat.lt_of_lt_of_le hb hg.size, hc, fun j hj => ?_⟩)
   have hne := h0.ne32 rfl (by rintro rfl; simp at hj) h32
   exact (World.cell?_of_block (hg.block b hb (fun e => hne e.symm))).trans (hl j hj)
theorem ZIn.grown {W W' : World} {v0 : Value} {z : Zr} (h : ZIn W z) (hg : W.grownBy W' v0.ownBlock) (h32 : Row32 W v0) : ZIn W' z := ⟨h.1.grown32 hg h32, h.2.grown32 hg h32⟩

/-- v owns these fractions, in a block from base on -/
def RRow (W : World) (base : Nat) (v : Value) (zs : List Zr) : Prop := W.ownsRow base 32 3 v zs.length (zcells zs) ∧ Row32 W v
def VF (W : World) (base : Nat) (v : Value) (zs : List Zr) : Prop := RRow W base v zs ∧ ∀ z ∈ zs, ZIn W z
theorem VF.nil (W : World) (base : Nat) : VF W base (.slice none 0 0) [] := ⟨⟨World.ownsRow_nil W base _ 3, Row32.nil W⟩, by simp⟩
theorem VF.fresh {W : World} {base : Nat} {v : Value} {zs : List Zr} (h : VF W base v zs) : VFresh W base v (zs.map (·.1)) := ⟨zs, rfl, h.1.1, h.2⟩
theorem VF.below {W W' : World} {base : Nat} {v : Value} {zs : List Zr} (h : VF W base v zs) (hb : Below W.heap.size W W') : VF W' base v zs :=
 ⟨⟨own_below h.1.1 hb, h.1.2.below hb⟩, fun z hz => (h.2 z hz).below hb⟩
theorem VF.alloc {W : World} {base : Nat} {v : Value} {zs : List Zr} (h : VF W base v zs) (o : Obj) : VF (W.alloc o) base v zs := h.below ((Below.refl _ _).alloc (Nat.le_refl _) o)
theorem VF.lt {W : World} {base g : Nat} {v : Value} {zs : List Zr} (h : VF W base v zs) (hg : v.ownBlock = some g) : base ≤ g ∧ g < W.heap.size := h.1.1.lt g hg
theorem VF.kept {W W' : World} {base : Nat} {v v0 : Value} {zs : List Zr} {row : Option Nat} (h : VF W base v zs) (hg : W.grownBy W' row) (hne : v.ownBlock = none ∨ v.ownBlock ≠ row) (e : row = v0.ownBlock) (h32 : Row32 W v0) : VF W' base v zs :=
 ⟨⟨World.ownsRow.kept h.1.1 hg hne, h.1.2.kept hg hne⟩, fun z hz => (h.2 z hz).grown (v0 := v0) (e ▸ hg) h32⟩
theorem VF.off {W W' : World} {base M : Nat} {v : Value} {zs : List Zr} {row : Option Nat} (h : VF W base v zs) (hg : W.grownBy W' row) (hr : OffCells M row W) : VF W' base v zs := by
 have hne : v.ownBlock = none ∨ v.ownBlock ≠ row := by
  rcases h.1.1.2 with ⟨rfl, _⟩ | ⟨g, cap, cur, rfl, _, hgb, _⟩
  · exact .inl rfl
  · refine .inr fun e' => ?_
    obtain ⟨_, o, ho, hc⟩ := hr g (by simpa [Value.ownBlock] using e'.symm)
    rw [hgb] at ho; cases ho; cases hc
 refine ⟨⟨World.ownsRow.kept h.1.1 hg hne, h.1.2.kept hg hne⟩, fun z hz => ?_⟩
 have key : ∀ {x : Value} {l : List Nat}, Reads W x l → Reads W' x l := by
  intro x l hx
  have h0 := hx
  rcases hx with hx | ⟨b, off, cap, rfl, hb, hc, hl⟩ | hx
  rotate_right
  · exact .inr (.inr hx)
  · exact .inl hx
  · refine .inr (.inl ⟨b, off, cap, rfl, Nat.lt_of_lt_of_le hb hg.size, hc, fun j hj => ?_⟩)
    have hne : some b ≠ row := by
     intro e
     obtain ⟨_, o, ho, hcc⟩ := hr b e.symm
     have := hl j hj
     unfold World.cell? at this
     rw [ho] at this
     cases o <;> simp at this
     cases hcc
    exact (World.cell?_of_block (hg.block b hb hne)).trans (hl j hj)
 exact ⟨key (h.2 z hz).1, key (h.2 z hz).2⟩

theorem VF.form {W : World} {base : Nat} {v : Value} {zs : List Zr} (h : VF W base v zs) : ∃ a cap, v = .slice a zs.length cap := by
 rcases h.1.1.2 with ⟨rfl, h0⟩ | ⟨g, cap, cur, rfl, _⟩
 · exact ⟨none, 0, by rw [h0]⟩
 · exact ⟨_, cap, rfl⟩
def zrat : Array Value := #[.bool false, .slice none 0 0, .slice none 0 0]
theorem zrat_no (i : Nat) : no32 zrat[i % zrat.size]! = true := by
 have h : i % 3 = 0 ∨ i % 3 = 1 ∨ i % 3 = 2 := by omega
 show no32 zrat[i % 3]! = true
 rcases h with h | h | h <;> rw [h] <;> rfl
theorem zcell_no (z : Zr) : ∀ u ∈ zcell z, no32 u = true := by
 intro u hu
 simp only [zcell, List.mem_cons, List.not_mem_nil, or_false] at hu
 rcases hu with rfl | rfl | rfl <;> rfl
theorem zcells_no (zs : List Zr) : ∀ u ∈ zcells zs, no32 u = true := by
 intro u hu
 obtain ⟨z, _, h⟩ := List.mem_flatMap.1 hu
 exact zcell_no z u h

section
variable {i : TypeInfo} (hi : Tryz.prog.info? 32 = some i) (hz : i.zero = some (.agg zrat)) (h1 : i.size = 3) (h2 : i.bytes = 56)
include hi hz h1 h2
theorem run_make_rat (w : World) (base : Nat) (kl kc : IntKind) (c : Nat) (hc : c ≤ 100000) (hb : base ≤ w.heap.size) :
  ∃ w', (Instr.makeSlice 23 (.int kl 0) (.int kc (c : Int))).run Tryz.prog w = .ok (.slice (some ⟨w.heap.size, 0, none⟩) 0 c) w' ∧ VF w' base (.slice (some ⟨w.heap.size, 0, none⟩) 0 c) [] ∧ w.grownBy w' none := by
 have hr := run_make (P := Tryz.prog) w 23 32 i (.agg zrat) Tryz.underlying23 hi hz kl kc 0 c (Int.le_refl _) (by omega) (by rw [h2]; omega) (by omega)
 simp only [Int.toNat_zero, Int.toNat_natCast] at hr
 refine ⟨_, hr, ⟨⟨World.ownsRow_made w _ c hb (by unfold maxLen; omega) (by rw [size_madeCells, h1]), ?_⟩, by simp⟩, World.grownBy_alloc w _ none⟩
 intro g e
 obtain rfl : w.heap.size = g := by simpa [Value.ownBlock] using e
 refine ⟨_, _, heap_alloc_new w _, fun u hu => ?_⟩
 obtain ⟨j, _, rfl⟩ : ∃ j, j < c * i.size ∧ (Value.agg zrat).cells[j % (Value.agg zrat).cells.size]! = u := by simpa [madeCells] using hu
 exact zrat_no j
theorem run_append_rat (w0 : World) (ty : TypeId) (base : Nat) (v : Value) (zs : List Zr) (z : Zr) (hown : VF w0 base v zs) (hin : ZIn w0 z) (hb : base ≤ w0.heap.size) (hl : zs.length ≤ 100000) :
   ∃ v' w', (Builtin.append_ #[23, 23] ty #[v, .slice (some ⟨w0.heap.size, 0, none⟩) 1 1]).run Tryz.prog (w0.alloc (.cells (zcell z).toArray 32)) = .ok v' w' ∧ VF w' base v' (zs ++ [z]) ∧ (w0.alloc (.cells (zcell z).toArray 32)).grownBy w' v.ownBlock := by
 obtain ⟨w, hw⟩ : ∃ w, w = w0.alloc (.cells (zcell z).toArray 32) := ⟨_, rfl⟩
 have hV : VF w base v zs := hw ▸ hown.alloc _
 have hZ : ZIn w z := hw ▸ hin.below ((Below.refl _ _).alloc (Nat.le_refl _) _)
 have hsz : w.heap.size = w0.heap.size + 1 := by rw [hw, World.size_alloc]
 have hblk : w.heap[w0.heap.size]? = some (.cells (zcell z).toArray 32 (0, 0)) := by rw [hw]; exact heap_alloc_new w0 _
 have hnews : ∀ j u, (zcell z)[j]? = some u → w.cell? ((⟨w0.heap.size, 0, none⟩ : Addr).add j) = some u := by
   intro j u hu
   rw [show (⟨w0.heap.size, 0, none⟩ : Addr).add j = ⟨w0.heap.size, j, none⟩ by rw [Addr.add_lit]; simp]
   unfold World.cell?
   rw [hblk]
   simpa using hu
 rw [← hw]
 have hone : ∀ u ∈ zcell z, u.oneCell' = true := by
   intro u hu
   simp only [zcell, List.mem_cons, List.not_mem_nil, or_false] at hu
   rcases hu with rfl | rfl | rfl <;> rfl
 have hcl : (zcell z).length = 1 * i.size := by rw [h1]; rfl
 obtain ⟨v', w', hrun, ho, hg, hnil⟩ := run_append_own (P := Tryz.prog) w base 23 ty 32 i (.agg zrat) 3 56 Tryz.underlying23 hi hz h1 h2 rfl (by omega) v zs.length (zcells zs) hV.1.1 ⟨w0.heap.size, 0, none⟩ 1 1 (zcell z) rfl hnews hone (by unfold maxLen; omega) (by omega) (by omega)
 refine ⟨v', w', hrun, ⟨⟨?_, ?_⟩, fun y hy => ?_⟩, hg⟩
 · rw [List.length_append, zcells_snoc]; exact ho
 · rcases hV.1.1.2 with ⟨rfl, hn0⟩ | ⟨g, cap, cur, rfl, hbg, hgb, hnc, hcm, hcs, htake⟩
   · have hr := run_append_nil (P := Tryz.prog) w 23 ty 32 i (.agg zrat) Tryz.underlying23 hi hz ⟨w0.heap.size, 0, none⟩ 1 1 (zcell z) hcl hnews (by omega) (by omega) (by rw [h2]; omega)
     rw [hr] at hrun
     cases hrun
     intro g e
     obtain rfl : w.heap.size = g := by simpa [Value.ownBlock] using e
     refine ⟨_, _, heap_alloc_new w.drew _, fun u hu => ?_⟩
     simp only [Array.toList_append, List.mem_append] at hu
     rcases hu with hu | hu
     · exact zcell_no z u hu
     · obtain ⟨j, _, rfl⟩ : ∃ j, j < (grownCap w 1 0 32 - 1) * (Value.agg zrat).cells.size ∧ (Value.agg zrat).cells[j % (Value.agg zrat).cells.size]! = u := by simpa [Builtin.zeroCells] using hu
       exact zrat_no j
   · obtain ⟨cur', e', hgb', h32⟩ := hV.1.2 g rfl
     rw [hgb] at hgb'
     cases hgb'
     by_cases hroom : zs.length + 1 ≤ cap
     · have hr := run_append_room (P := Tryz.prog) w 23 ty 32 i Tryz.underlying23 hi g zs.length cap cur hgb ⟨w0.heap.size, 0, none⟩ 1 1 (zcell z) hcl hnews hone hroom (by rw [hcl, h1, hcs, ← Nat.add_mul]; exact Nat.mul_le_mul_right _ hroom)
       rw [hr] at hrun
       cases hrun
       intro g2 e
       obtain rfl : g = g2 := by simpa [Value.ownBlock] using e
       refine ⟨_, _, setRow_heap w g cur _ _ _ hgb, fun u hu => ?_⟩
       simp only [List.mem_append] at hu
       rcases hu with (hu | hu) | hu
       · exact h32 u (List.mem_of_mem_take hu)
       · exact zcell_no z u hu
       · exact h32 u (List.mem_of_mem_drop hu)
     · have holds : ∀ j u, (zcells zs)[j]? = some u → w.cell? ((⟨g, 0, none⟩ : Addr).add j) = some u := hV.1.1.cells (g := g) rfl
       have hr := run_append_grow (P := Tryz.prog) w 23 ty 32 i (.agg zrat) Tryz.underlying23 hi hz ⟨g, 0, none⟩ zs.length cap (zcells zs) (by rw [h1]; exact zcells_len zs) holds ⟨w0.heap.size, 0, none⟩ 1 1 (zcell z) hcl hnews (by omega) (by omega) (growslice_fits (by omega) (by rw [h2]; omega))
       rw [hr] at hrun
       cases hrun
       intro g2 e
       obtain rfl : w.heap.size = g2 := by simpa [Value.ownBlock] using e
       refine ⟨_, _, heap_alloc_new w.drew _, fun u hu => ?_⟩
       simp only [Array.toList_append, List.mem_append] at hu
       rcases hu with (hu | hu) | hu
       · exact zcells_no zs u hu
       · exact zcell_no z u hu
       · obtain ⟨j, _, rfl⟩ : ∃ j, j < (grownCap w (zs.length + 1) cap 32 - (zs.length + 1)) * (Value.agg zrat).cells.size ∧ (Value.agg zrat).cells[j % (Value.agg zrat).cells.size]! = u := by simpa [Builtin.zeroCells] using hu
         exact zrat_no j
 · rcases List.mem_append.1 hy with hy | hy
   · exact (hV.2 y hy).grown hg hV.1.2
   · obtain rfl : y = z := by simpa using hy
     exact hZ.grown hg hV.1.2
end

theorem rat_append {W w3 : World} {base : Nat} {v : Value} {zs : List Zr} {tmp : Obj} (hrow : VF W base v zs) (hb : base ≤ W.heap.size) (hgrow : (W.alloc tmp).grownBy w3 v.ownBlock) :
   KeepsOthers W w3 ∧ Below base W w3 ∧ (∀ B t u, t ≠ 32 → Boxed W B t u → Boxed w3 B t u) ∧ (∀ (D : Nat) (o : Obj), W.heap[D]? = some o → o.isCells = false → w3.heap[D]? = some o) := by
 have hne : ∀ (D : Nat) (o : Obj), W.heap[D]? = some o → o.isCells = false → some D ≠ v.ownBlock := by
   intro D o hD ho
   rcases hrow.1.1.2 with ⟨rfl, _⟩ | ⟨g, cap, cur, rfl, _, hgb, _⟩
   · simp [Value.ownBlock]
   · intro e
     obtain rfl : D = g := by simpa [Value.ownBlock] using e
     rw [hgb] at hD; cases hD; cases ho
 have hD : ∀ (D : Nat) (o : Obj), W.heap[D]? = some o → o.isCells = false → w3.heap[D]? = some o := fun D o hD ho => by
   have hlt := (Array.getElem?_eq_some_iff.1 hD).1
   have h1 : (W.alloc tmp).heap[D]? = some o := (Below.heap_alloc W tmp D hlt).trans hD
   exact (hgrow.block D (by simp; omega) (hne D o hD ho)).trans h1
 refine ⟨⟨by have := hgrow.size; simp at this; omega, hD⟩, ?_, ?_, hD⟩
 · refine ((Below.refl base W).alloc hb tmp).grown hgrow (by simp; omega) fun j ej => ?_
   exact (hrow.lt ej).1
 · intro B t u ht hB
   exact (hB.alloc tmp).kept hgrow (hB.not_row ht hrow.1.1)

/-! ### the walk's laws -/
theorem wpList_make_rat {i : TypeInfo} (hi : Tryz.prog.info? 32 = some i) (hz : i.zero = some (.agg zrat)) (h1 : i.size = 3) (h2 : i.bytes = 56) (w : World) {ops : Array Oper} {rest : List Oper} {o : Oper} {a : Act} {Q : Exit → Act → World → Prop}
  (hg : o.guard = none) (l c : Operand) (hop : o.op = Op.makeSlice 23 l c) (base : Nat) (kl kc : IntKind) (n : Nat) (hl : a.eval l = .int kl 0) (hc : a.eval c = .int kc (n : Int)) (hn : n ≤ 100000) (hb : base ≤ w.heap.size)
  (hK : ∀ w', VF w' base (.slice (some ⟨w.heap.size, 0, none⟩) 0 n) [] → w.grownBy w' none → wpList Tryz.prog ops Q rest (a.put o.dst (.slice (some ⟨w.heap.size, 0, none⟩) 0 n)) w') :
  wpList Tryz.prog ops Q (o :: rest) a w := by
 refine wpList_plain hg fun K hK' => ?_
 obtain ⟨w', hrun, r1, r2⟩ := run_make_rat hi hz h1 h2 w base kl kc n hn hb
 unfold Oper.wp
 simp [execOp, hop, hl, hc, hrun, Result.andThen]
 exact hK' _ _ (hK w' r1 r2)
theorem wpList_append_rat {i : TypeInfo} (hi : Tryz.prog.info? 32 = some i) (hz : i.zero = some (.agg zrat)) (h1 : i.size = 3) (h2 : i.bytes = 56) (w0 : World) {ops : Array Oper} {rest : List Oper} {o : Oper} {a : Act} {Q : Exit → Act → World → Prop}
  (hg : o.guard = none) (s x : Operand) (hop : o.op = Op.call { callee := Callee.builtin Builtin.append, args := #[s, x], argTypes := #[23, 23] })
  (base : Nat) (v : Value) (zs : List Zr) (z : Zr) (hs : a.eval s = v) (hx : a.eval x = .slice (some ⟨w0.heap.size, 0, none⟩) 1 1) (hown : VF w0 base v zs) (hin : ZIn w0 z) (hb : base ≤ w0.heap.size) (hl : zs.length ≤ 100000)
  (hK : ∀ v' w', VF w' base v' (zs ++ [z]) → (w0.alloc (.cells (zcell z).toArray 32)).grownBy w' v.ownBlock → wpList Tryz.prog ops Q rest (a.put o.dst v') w') :
  wpList Tryz.prog ops Q (o :: rest) a (w0.alloc (.cells (zcell z).toArray 32)) := by
 refine wpList_plain hg fun K hK' => ?_
 obtain ⟨v', w', hrun, r1, r2⟩ := run_append_rat hi hz h1 h2 w0 o.type base v zs z hown hin hb hl
 unfold Oper.wp
 simp only [execOp, hop, resolve, invoke, builtin, Sem.run_bind, Sem.run_pure, Result.andThen_ok, List.map_toArray, List.map_cons, List.map_nil, hs, hx, hrun]
 exact hK' _ _ (hK v' w' r1 r2)
theorem wp_append_rat {i : TypeInfo} (hi : Tryz.prog.info? 32 = some i) (hz : i.zero = some (.agg zrat)) (h1 : i.size = 3) (h2 : i.bytes = 56) (w0 : World) {o : Oper} {a : Act} {K : Act → World → Prop} {Q : Exit → Act → World → Prop}
  (s x : Operand) (hop : o.op = Op.call { callee := Callee.builtin Builtin.append, args := #[s, x], argTypes := #[23, 23] })
  (base : Nat) (v : Value) (zs : List Zr) (z : Zr) (hs : a.eval s = v) (hx : a.eval x = .slice (some ⟨w0.heap.size, 0, none⟩) 1 1) (hown : VF w0 base v zs) (hin : ZIn w0 z) (hb : base ≤ w0.heap.size) (hl : zs.length ≤ 100000)
  (hK : ∀ v' w', VF w' base v' (zs ++ [z]) → (w0.alloc (.cells (zcell z).toArray 32)).grownBy w' v.ownBlock → K (a.put o.dst v') w') :
  o.wp Tryz.prog a (w0.alloc (.cells (zcell z).toArray 32)) K Q := by
 obtain ⟨v', w', hrun, r1, r2⟩ := run_append_rat hi hz h1 h2 w0 o.type base v zs z hown hin hb hl
 unfold Oper.wp
 simp only [execOp, hop, resolve, invoke, builtin, Sem.run_bind, Sem.run_pure, Result.andThen_ok, List.map_toArray, List.map_cons, List.map_nil, hs, hx, hrun]
 exact hK v' w' r1 r2
theorem boxed_under {W W' : World} {B : Nat} {t : TypeId} {v : Value} (h : Boxed W B t v) (r : Below W.heap.size W W') : Boxed W' B t v := (r.block B (Array.getElem?_eq_some_iff.1 (show W.heap[B]? = _ from h)).1).trans h
theorem BoxN.under {W W' : World} {B : Nat} {t : TypeId} {cs : Array Value} (h : BoxN W B t cs) (r : Below W.heap.size W W') : BoxN W' B t cs := (r.block B h.lt).trans h
end Go.Proofs.YtbndmpdaloadjaaGreat
