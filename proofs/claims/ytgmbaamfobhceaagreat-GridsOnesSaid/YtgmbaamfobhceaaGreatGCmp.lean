/- What stays as it is: boxes and rows of the call's own, beside a loop's record; rows without noughts at their end. The sum of two great numbers, as .. -/
import Derived.Maps.AppendAt
import Derived.Laws.Bits64
import Derived.Laws.Bits64b
import Derived.Laws.BitsAllLaws
import Derived.Test.YtgmbaamfobhceaaGreatGIter
set_option linter.unusedSimpArgs false
set_option linter.unusedVariables false
set_option maxRecDepth 100000
set_option maxHeartbeats 4000000
namespace Go.Proofs.YtgmbaamfobhceaaGreat
section
open Go Go.Proofs Go.RowKit Go.Shelf Nu
def u32v (n : Nat) : Value := .int .u32 (n : Int)
def Fresh (W : World) (base : Nat) (v : Value) (l : List Nat) : Prop := W.ownsRow base 127 1 v l.length (l.map u32v)
theorem Fresh.nil (W : World) (base : Nat) : Fresh W base (.slice none 0 0) [] := World.ownsRow_nil W base _ 1
theorem Fresh.form {W : World} {base : Nat} {v : Value} {l : List Nat} (h : Fresh W base v l) : (v = .slice none 0 0 ∧ l = []) ∨ ∃ g cap, v = .slice (some ⟨g, 0, none⟩) l.length cap ∧ base ≤ g ∧ g < W.heap.size ∧ l.length ≤ cap ∧ ∀ j, j < l.length → W.cell? ⟨g, 0 + j, none⟩ = some (.int .u32 (l.getD j 0 : Nat)) := by
 have hc := fun (g : Nat) (hg : v.ownBlock = some g) => World.ownsRow.cells h hg
 rcases h.2 with ⟨rfl, h0⟩ | ⟨g, cap, cur, rfl, hb, hg, hn, _⟩
 · exact .inl ⟨rfl, List.eq_nil_of_length_eq_zero h0⟩
 · refine .inr ⟨g, cap, rfl, hb, (Array.getElem?_eq_some_iff.1 hg).1, hn, fun j hj => ?_⟩
   have := hc g rfl j (u32v (l.getD j 0)) (by simp [List.getD_eq_getElem?_getD, List.getElem?_eq_getElem hj])
   rw [Addr.add_lit] at this
   exact this
theorem Fresh.reads {W : World} {base : Nat} {v : Value} {l : List Nat} (h : Fresh W base v l) : Reads W v l := by
 rcases h.form with h | ⟨g, cap, e, _, hg, hn, hc⟩
 · exact .inl h
 · exact .inr (.inl ⟨g, 0, cap, e, hg, hn, hc⟩)
theorem Fresh.mono {W : World} {base base' : Nat} {v : Value} {l : List Nat} (h : Fresh W base v l) (hb : base' ≤ base) : Fresh W base' v l := by
 refine ⟨h.1, ?_⟩
 rcases h.2 with h | ⟨g, cap, cur, e, hg, r⟩
 · exact .inl h
 · exact .inr ⟨g, cap, cur, e, Nat.le_trans hb hg, r⟩
theorem Fresh.below {W W' : World} {base : Nat} {v : Value} {l : List Nat} (h : Fresh W base v l) (hb : Below W.heap.size W W') : Fresh W' base v l := by
 refine ⟨h.1, ?_⟩
 rcases h.2 with h | ⟨g, cap, cur, e, hg, hgb, r⟩
 · exact .inl h
 · exact .inr ⟨g, cap, cur, e, hg, (hb.block g (Array.getElem?_eq_some_iff.1 hgb).1).trans hgb, r⟩
theorem cut_take (l : List Nat) : ∃ m, m ≤ l.length ∧ cut l = l.take m := by
 induction l with
 | nil => exact ⟨0, by simp, rfl⟩
 | cons x l ih =>
  obtain ⟨m, hm, e⟩ := ih
  simp only [cut]
  split
  · exact ⟨0, by simp, by simp⟩
  · exact ⟨m + 1, by simp; omega, by simp [e]⟩
theorem Fresh.trim {W : World} {base g cap : Nat} {l : List Nat} (h : Fresh W base (.slice (some ⟨g, 0, none⟩) l.length cap) l) : Fresh W base (trimV g 0 cap l) (cut l) := by
 obtain ⟨m, hm, e⟩ := cut_take l
 have hl : (l.take m).length = m := by rw [List.length_take]; omega
 unfold trimV
 rw [e, hl]
 by_cases h0 : m = 0
 · subst h0; simpa using Fresh.nil W base
 · rw [if_neg h0]
   refine ⟨by simp, .inr ?_⟩
   rcases h.2 with ⟨h1, _⟩ | ⟨g', cap', cur, e1, hb, hg, hn, hc, hs, ht⟩
   · cases h1
   · simp only [Value.slice.injEq, Option.some.injEq, Addr.mk.injEq, and_true, true_and] at e1
     obtain ⟨rfl, rfl⟩ := e1
     refine ⟨g, cap, cur, by rw [hl], hb, hg, by rw [hl]; omega, hc, hs, ?_⟩
     rw [hl, List.map_take, ← ht, List.take_take]
     congr 1
     omega
theorem Reads.addr {W : World} {a : Option Addr} {n cap : Nat} {l : List Nat} (h : Reads W (.slice a n cap) l) : ∃ b off, (0 < l.length → a = some ⟨b, off, none⟩ ∧ b < W.heap.size) ∧ ∀ j, j < l.length → W.cell? ⟨b, off + j, none⟩ = some (.int .u32 (l.getD j 0 : Nat)) := by
 rcases h with ⟨_, rfl⟩ | ⟨b, off, cap', e, hb, hc, hl⟩ | ⟨_, _, rfl⟩
 rotate_right
 · exact ⟨0, 0, by simp, by simp⟩
 · exact ⟨0, 0, by simp, by simp⟩
 · cases e; exact ⟨b, off, fun _ => ⟨rfl, hb⟩, hl⟩
theorem Reads.block_lt {W : World} {v : Value} {l : List Nat} {g : Nat} (h : Reads W v l) (hg : v.ownBlock = some g) (hl : 0 < l.length) : g < W.heap.size := by
 rcases h with ⟨rfl, _⟩ | ⟨b, off, cap', rfl, hb, _⟩ | ⟨_, _, rfl⟩
 rotate_right
 · simp at hl
 · simp [Value.ownBlock] at hg
 · obtain rfl : b = g := by simpa [Value.ownBlock] using hg
   exact hb
theorem unflip {P : Program} {f : FuncId} {args : Array Value} {w : World} {v : Ending} (h : Calls P f args w fun e w' => e = v ∧ w = w') : Calls P f args w fun e w' => e = v ∧ w' = w := h.mono fun _ _ h => ⟨h.1, h.2.symm⟩
theorem one_new (W : World) (t : TypeId) (x : Value) (n : Nat) (hn : n = W.heap.size) : ∀ j u, [x][j]? = some u → (W.alloc (.cells #[x] t)).cell? ((⟨n, 0, none⟩ : Addr).add j) = some u := by
 subst hn; exact cell_one_new W _ _
theorem small_max {n : Nat} (h : n ≤ 10000000) : n ≤ maxLen := by unfold maxLen; omega
theorem flip {P : Program} {f : FuncId} {args : Array Value} {w : World} {v : Ending} (h : Calls P f args w fun e w' => e = v ∧ w' = w) : Calls P f args w fun e w' => e = v ∧ w = w' := h.mono fun _ _ h => ⟨h.1, h.2.symm⟩
section
variable {W W' : World} {M : Nat} {row : Option Nat}
abbrev OffCells (M : Nat) (row : Option Nat) (W : World) : Prop := ∀ r, row = some r → M ≤ r ∧ ∃ o : Obj, W.heap[r]? = some o ∧ o.isCells = false
theorem keepBox {B : Nat} {t : TypeId} {v : Value} (h : Boxed W B t v) (hg : W.grownBy W' row) (hr : OffCells M row W) : Boxed W' B t v :=
 h.kept hg fun e => by
  obtain ⟨_, o, ho, hc⟩ := hr B e.symm
  rw [show W.heap[B]? = _ from h] at ho; cases ho; cases hc
theorem keepFresh {base : Nat} {v : Value} {l : List Nat} (h : Fresh W base v l) (hg : W.grownBy W' row) (hr : OffCells M row W) : Fresh W' base v l := by
 refine World.ownsRow.kept h hg ?_
 rcases h.2 with ⟨rfl, _⟩ | ⟨g, cap, cur, rfl, _, hgb, _⟩
 · exact .inl rfl
 · refine .inr fun e' => ?_
   obtain ⟨_, o, ho, hc⟩ := hr g (by simpa [Value.ownBlock] using e'.symm)
   rw [hgb] at ho; cases ho; cases hc
theorem keepBelow {w : World} {n₀ : Nat} (h : Below n₀ w W) (hn : n₀ ≤ w.heap.size) (hM : n₀ ≤ M) (hg : W.grownBy W' row) (hr : OffCells M row W) : Below n₀ w W' :=
 h.grown hg (Nat.le_trans hn h.size) fun k e => Nat.le_trans hM (hr k e).1
theorem offCells_putObj {D : Nat} {o : Obj} (hD : M ≤ D) (h : W.heap[D]? = some o) (ho : o.isCells = false) : OffCells M (some D) W := fun r e => by cases e; exact ⟨hD, o, h, ho⟩
end
theorem Fresh.ne_block {W : World} {base : Nat} {v : Value} {l : List Nat} (h : Fresh W base v l) {D : Nat} {o : Obj} (hD : W.heap[D]? = some o) (ho : o.isCells = false) : some D ≠ v.ownBlock := by
 rcases h.2 with ⟨rfl, _⟩ | ⟨g, cap, cur, rfl, _, hgb, _⟩
 · simp [Value.ownBlock]
 · intro e
   obtain rfl : D = g := by simpa [Value.ownBlock] using e
   rw [hgb] at hD; cases hD; cases ho
theorem fresh_append {W w3 : World} {base : Nat} {v v' : Value} {out : List Nat} {z : Int} (d : Nat) {tmp : Obj} (hrow : Fresh W base v out) (hb : base ≤ W.heap.size)
   (hown' : w3.ownsRow base 127 1 v' (out.length + 1) (out.map u32v ++ [.int .u32 z])) (hgrow : (W.alloc tmp).grownBy w3 v.ownBlock) (hz : z = (d : Int)) :
   Fresh w3 base v' (out ++ [d]) ∧ KeepsOthers W w3 ∧ Below base W w3 ∧ (∀ B t u, t ≠ 127 → Boxed W B t u → Boxed w3 B t u) ∧ (∀ (D : Nat) (o : Obj), W.heap[D]? = some o → o.isCells = false → w3.heap[D]? = some o) := by
 have hrow1 : Fresh (W.alloc tmp) base v out := World.ownsRow.alloc hrow tmp
 have hD : ∀ (D : Nat) (o : Obj), W.heap[D]? = some o → o.isCells = false → w3.heap[D]? = some o := fun D o hD ho => by
   have hlt := (Array.getElem?_eq_some_iff.1 hD).1
   have h1 : (W.alloc tmp).heap[D]? = some o := (Below.heap_alloc W tmp D hlt).trans hD
   exact (hgrow.block D (by simp; omega) (hrow1.ne_block h1 ho)).trans h1
 refine ⟨?_, ⟨by have := hgrow.size; simp at this; omega, hD⟩, ?_, ?_, hD⟩
 · unfold Fresh
   rw [List.length_append, List.map_append, List.length_singleton, List.map_singleton, u32v, ← hz]
   exact hown'
 · refine ((Below.refl base W).alloc hb tmp).grown hgrow (by simp; omega) fun j ej => ?_
   rcases hrow.2 with ⟨rfl, _⟩ | ⟨g, cap, cur, rfl, hb', _, _⟩
   · simp [Value.ownBlock] at ej
   · obtain rfl : g = j := by simpa [Value.ownBlock] using ej
     exact hb'
 · intro B t u ht hB
   exact (hB.alloc tmp).kept hgrow (hB.not_row ht hrow)
theorem Fresh.box {W : World} {base B : Nat} {v : Value} {l : List Nat} {t : TypeId} {u : Value} (h : Fresh W base v l) (hB : Boxed W B t u) (ht : t ≠ 127) (u' : Value) : Fresh (W.setCell ⟨B, 0, none⟩ u') base v l :=
 World.ownsRow.kept h (grownBy_setCell' W B u') (.inr (hB.not_row ht h).symm)
theorem below_box {B b : Nat} {W W' : World} {t : TypeId} {v : Value} (h : Below B W W') (hb : b < B) (hx : Boxed W b t v) : Boxed W' b t v := (h.block b hb).trans hx
theorem heap_box {W : World} {B D : Nat} {t : TypeId} {u : Value} (hB : Boxed W B t u) (u' : Value) {o : Obj} (h : W.heap[D]? = some o) (ho : o.isCells = false) : (W.setCell ⟨B, 0, none⟩ u').heap[D]? = some o := by
 refine (Below.heap_setCell W ⟨B, 0, none⟩ u' D ?_).trans h
 intro e
 subst e
 rw [show W.heap[_]? = _ from hB] at h; cases h; cases ho
theorem boxed_new1 (w : World) (o : Obj) (t : TypeId) (v : Value) : Boxed ((w.alloc o).alloc (.cells #[v] t)) (w.heap.size + 1) t v := by
 have := Boxed.new (w.alloc o) t v; rwa [World.size_alloc] at this
theorem boxed_new2 (w : World) (o o1 : Obj) (t : TypeId) (v : Value) : Boxed (((w.alloc o).alloc o1).alloc (.cells #[v] t)) (w.heap.size + 1 + 1) t v := by
 have := boxed_new1 (w.alloc o) o1 t v; rwa [World.size_alloc] at this
theorem boxed_new3 (w : World) (o o1 o2 : Obj) (t : TypeId) (v : Value) : Boxed ((((w.alloc o).alloc o1).alloc o2).alloc (.cells #[v] t)) (w.heap.size + 1 + 1 + 1) t v := by
 have := boxed_new2 (w.alloc o) o1 o2 t v; rwa [World.size_alloc] at this
theorem boxed_new4 (w : World) (o o1 o2 o3 : Obj) (t : TypeId) (v : Value) : Boxed (((((w.alloc o).alloc o1).alloc o2).alloc o3).alloc (.cells #[v] t)) (w.heap.size + 1 + 1 + 1 + 1) t v := by
 have := boxed_new3 (w.alloc o) o1 o2 o3 t v; rwa [World.size_alloc] at this
theorem boxed_new5 (w : World) (o o1 o2 o3 o4 : Obj) (t : TypeId) (v : Value) : Boxed ((((((w.alloc o).alloc o1).alloc o2).alloc o3).alloc o4).alloc (.cells #[v] t)) (w.heap.size + 1 + 1 + 1 + 1 + 1) t v := by
 have := boxed_new4 (w.alloc o) o1 o2 o3 o4 t v; rwa [World.size_alloc] at this
theorem Fresh.alloc {W : World} {base : Nat} {v : Value} {l : List Nat} (h : Fresh W base v l) (o : Obj) : Fresh (W.alloc o) base v l := World.ownsRow.alloc h o
theorem trim_fresh {W : World} {base g cap n : Nat} {l : List Nat} (h : Fresh W base (.slice (some ⟨g, 0, none⟩) n cap) l) (hn : n = l.length) (hl : l.length ≤ 1000000) :
   Calls Tryz.prog 112 #[.slice (some ⟨g, 0, none⟩) n cap] W fun e w' => e = .returned (trimV g 0 cap l) ∧ W = w' := by
 subst hn
 rcases h.form with ⟨h1, _⟩ | ⟨g', cap', e1, _, _, hc, hcell⟩
 · cases h1
 · simp only [Value.slice.injEq, Option.some.injEq, Addr.mk.injEq, and_true, true_and] at e1
   obtain ⟨rfl, rfl⟩ := e1
   exact trim_some g 0 cap hl hc hcell
theorem Fresh.trim' {W : World} {base g cap n : Nat} {l : List Nat} (h : Fresh W base (.slice (some ⟨g, 0, none⟩) n cap) l) (hn : n = l.length) (hs : Sm l) : Fresh W base (trimV g 0 cap l) (digs (val l)) := by
 subst hn
 rw [← cut_eq hs]
 exact h.trim
theorem trim_nil (W : World) : Calls Tryz.prog 112 #[.slice none 0 0] W fun e w' => e = .returned (.slice none 0 0) ∧ W = w' := by
 go_enter Tryz.func112, Tryz.ntmps112
 go_wp2
 go_loop [3] (fun s => s = .int .i64 0) (fun _ => 0)
 case atStart => rfl
 case round =>
  subst hrel
  go_wp2
  go_ret
  exact ⟨rfl, rfl⟩
theorem trim_any {W : World} {base : Nat} {v : Value} {l : List Nat} (h : Fresh W base v l) (hl : l.length ≤ 1000000) (hs : Sm l) :
   ∃ a cap v', v = .slice a l.length cap ∧ Fresh W base v' (digs (val l)) ∧ Calls Tryz.prog 112 #[.slice a l.length cap] W fun e w' => e = .returned v' ∧ W = w' := by
 have h0 := h
 rcases h.form with ⟨rfl, rfl⟩ | ⟨g, cap, rfl, _⟩
 · exact ⟨none, 0, .slice none 0 0, rfl, by simpa [val, digs_zero] using Fresh.nil W base, trim_nil W⟩
 · exact ⟨_, cap, _, rfl, h0.trim' rfl hs, trim_fresh h0 rfl hl⟩
theorem Fresh.left {W : World} {base D : Nat} {v : Value} {l : List Nat} {o : Obj} (o' : Obj) (h : Fresh W base v l) (hD : W.heap[D]? = some o) (ho : o.isCells = false) : Fresh (W.putObj D o') base v l :=
 keepFresh (M := 0) h (grownBy_putObj' W D o') (offCells_putObj (Nat.zero_le _) hD ho)
theorem below_left {w W : World} {D : Nat} {o : Obj} (o' : Obj) (h : Below w.heap.size w W) (hw : w.heap.size ≤ D) (hD : W.heap[D]? = some o) (ho : o.isCells = false) : Below w.heap.size w (W.putObj D o') :=
 keepBelow h (Nat.le_refl _) hw (grownBy_putObj' W D o') (offCells_putObj (Nat.le_refl _) hD ho)
theorem info_u32 : (Tryz.prog.info? 127).map (fun i => (i.zero, i.size, i.bytes)) = some (some (.int .u32 0), 1, 4) := by kernel_rfl
theorem pairs_any (a b : Option Addr) (n m ca cb : Nat) (w : World) :
  Calls Tryz.prog 171 #[.slice a n ca, .slice b m cb] w fun e w' => e = .returned (.func (.func 194) #[] #[.pointer (some ⟨w.heap.size, 0, none⟩), .pointer (some ⟨w.heap.size + 1, 0, none⟩)]) ∧ w' = (w.alloc (.cells #[.slice a n ca] 40)).alloc (.cells #[.slice b m cb] 40) := by
 go_enter Tryz.func171, Tryz.ntmps171
 go_wp2
 go_ret
 exact ⟨rfl, rfl⟩
theorem all_any (a : Option Addr) (n ca : Nat) (w : World) :
  Calls Tryz.prog 163 #[.slice a n ca] w fun e w' => e = .returned (.func (.func 189) #[] #[.pointer (some ⟨w.heap.size, 0, none⟩)]) ∧ w' = w.alloc (.cells #[.slice a n ca] 40) := by
 go_enter Tryz.func163, Tryz.ntmps163
 go_wp2
 go_ret
 exact ⟨rfl, rfl⟩
theorem back_any (a : Option Addr) (n ca : Nat) (w : World) :
  Calls Tryz.prog 143 #[.slice a n ca] w fun e w' => e = .returned (.func (.func 167) #[] #[.pointer (some ⟨w.heap.size, 0, none⟩)]) ∧ w' = w.alloc (.cells #[.slice a n ca] 40) := by
 go_enter Tryz.func143, Tryz.ntmps143
 go_wp2
 go_ret
 exact ⟨rfl, rfl⟩
def Two (v u : Value) : Prop := v.ownBlock = none ∨ v.ownBlock ≠ u.ownBlock
theorem trimV_two {b g c d : Nat} {l m : List Nat} (h : b ≠ g) : Two (trimV b 0 c l) (trimV g 0 d m) := by
 unfold trimV Two
 split
 · exact .inl rfl
 · split
   · exact .inr (by simp [Value.ownBlock])
   · exact .inr (by simpa [Value.ownBlock] using h)
theorem then_below {w a b : World} (h : Below w.heap.size w a) (k : Below a.heap.size a b) : Below w.heap.size w b := h.trans (k.mono h.size)
end
section
open Go Go.Proofs Go.RowKit Go.Shelf Nu
attribute [local go_sem] Oper.semAt_some
def AddInv (w : World) (s : Nat) (A B : List Nat) (va vb : Value) (k : Nat) (W : World) : Prop :=
 (∃ (v : Value) (c : Nat) (out : List Nat), Boxed W s 40 v ∧ Boxed W (s + 1) 130 (.int .u64 c) ∧ Fresh W w.heap.size v out ∧ out.length = k ∧ Sm out ∧ c ≤ 1 ∧
  val out + 4294967296 ^ k * c = val (A.take k) + val (B.take k)) ∧
 Boxed W (s + 1 + 1) 40 va ∧ Boxed W (s + 1 + 1 + 1) 40 vb ∧ Below w.heap.size w W
theorem AddInv.own {w : World} {s : Nat} {A B : List Nat} {va vb : Value} {M : Nat} (hM : w.heap.size ≤ M) : OwnFrom M (AddInv w s A B va vb) := by
 rintro k W W' row ⟨⟨v, c, out, h1, h2, h3, h4⟩, h5, h6, h7⟩ hg hr
 exact ⟨⟨v, c, out, keepBox h1 hg hr, keepBox h2 hg hr, keepFresh h3 hg hr, h4⟩, keepBox h5 hg hr, keepBox h6 hg hr, keepBelow h7 (Nat.le_refl _) hM hg hr⟩
theorem add_any {w : World} {va vb : Value} {la lb : List Nat} (ha : Reads w va la) (hb : Reads w vb lb) (hla : la.length ≤ 100000) (hlb : lb.length ≤ 100000) (hsa : Sm la) (hsb : Sm lb) :
  Calls Tryz.prog 190 #[va, vb] w fun e w' => ∃ v, e = .returned v ∧ Fresh w' w.heap.size v (digs (nv la + nv lb)) ∧ Below w.heap.size w w' := by
 obtain ⟨i0, hi, hz0, hz1, hz2⟩ := info_parts info_u32
 have k1 := flip (orZero_any ha (by omega))
 have k2 := flip (orZero_any hb (by omega))
 have hA := orzV_reads ha
 have hB := orzV_reads hb
 obtain ⟨a1, c1, e1⟩ := hA.form
 obtain ⟨b1, d1, e2⟩ := hB.form
 rw [e1] at k1 hA
 rw [e2] at k2 hB
 have hlA : (orz la).length ≤ 100000 := Nat.le_trans (orz_length la) hla
 have hlB : (orz lb).length ≤ 100000 := Nat.le_trans (orz_length lb) hlb
 have hSA := sm_orz hsa
 have hSB := sm_orz hsb
 rw [← val_orz la, ← val_orz lb]
 generalize orz la = A at *
 generalize orz lb = B at *
 obtain ⟨x1, x2, rfl⟩ := ha.form
 obtain ⟨y1, y2, rfl⟩ := hb.form
 clear ha hb e1 e2 hla hlb hsa hsb
 refine (callsIn_wide (n := 0)).1 ?_
 refine callsIn_of_wp_marks Tryz.func190 rfl trivial ?_ rfl
 simp only [Tryz.ntmps190, List.size_toArray, List.length_cons, List.length_nil, Nat.reduceAdd, Nat.reduceSub, Array.replicate_succ, Array.replicate_zero, List.push_toArray, List.append_toArray, List.nil_append, List.cons_append]
 refine wpIn_wide.2 ?_
 rcases Nat.lt_or_ge A.length B.length with hlt | hge
 all_goals
  obtain ⟨N1, hN1⟩ : ∃ N1, N1 = max A.length B.length + 1 := ⟨_, rfl⟩
  have HN1 := Lib.hid hN1
  have hN1l : N1 ≤ 100001 := by omega
  clear hN1
  go_wp2_with (first
   | (go_at_call 110; refine k1.mono ?_; clear k1; rintro e w' ⟨rfl, rfl⟩)
   | (go_at_call 110; refine k2.mono ?_; clear k2; rintro e w' ⟨rfl, rfl⟩)
   | (at_make; go_loud (refine wpList_make_own _ rfl _ _ 40 rfl w.heap.size 127 i0 (.int .u32 0) 1 Tryz.underlying40 hi hz0 hz1 .i64 .i64 _ N1 rfl rfl (by have := HN1.out; omega) (by rw [hz2]; omega) (by unfold maxLen; omega) (by simp) ?_); intro w1 hown1 hgrow1)
   | (go_at_call 171; refine (pairs_any _ _ _ _ _ _ _).mono ?_; rintro e w' ⟨rfl, rfl⟩))
  have hs1 : w.heap.size ≤ w1.heap.size := hgrow1.size
  have hbel1 : Below w.heap.size w w1 := (Below.refl _ _).grown hgrow1 (Nat.le_refl _) (fun _ e => by cases e)
  refine (wpIn_wide (n := 0)).1 ?_
  refine wp_rangeAt (gf := 194) rfl (enters_of Tryz.func194 (by kernel_rfl) rfl)
   (pairs_iter A B (.slice a1 A.length c1) (.slice b1 B.length d1) (w1.heap.size + 1 + 1) (w1.heap.size + 1 + 1 + 1) (by omega) (by omega) hSA hSB) (fun _ => rfl)
   (AddInv w w1.heap.size A B (.slice a1 A.length c1) (.slice b1 B.length d1)) (fun _ _ => False) (AddInv.own (by simp; omega)) (fun _ _ _ _ h _ _ => h)
   (fun k W h => ⟨h.2.1.cell, h.2.2.1.cell, hA.below h.2.2.2, hB.below h.2.2.2⟩) ?start ?round ?done ?stop
  case start =>
   have hF0 : Fresh w1 w.heap.size _ [] := hown1
   refine ⟨⟨_, 0, [], (((Boxed.new w1 _ _).alloc _).alloc _).alloc _, ((boxed_new1 w1 _ _ _).alloc _).alloc _, ((((hF0.alloc _).alloc _).alloc _).alloc _), rfl, Sm.nil, by omega, by simp [val]⟩, (boxed_new2 w1 _ _ _ _).alloc _, boxed_new3 w1 _ _ _ _ _, ?_⟩
   exact (((hbel1.alloc hs1 _).alloc (by simp; omega) _).alloc (by simp; omega) _).alloc (by simp; omega) _
  case round =>
   intro l k W hk
   have hx := hSA.getD k
   have hy := hSB.getD k
   obtain ⟨x, hxe⟩ : ∃ x, x = A.getD k 0 := ⟨_, rfl⟩
   obtain ⟨y, hye⟩ : ∃ y, y = B.getD k 0 := ⟨_, rfl⟩
   dsimp only
   rw [← hxe, ← hye]
   rw [← hxe] at hx
   rw [← hye] at hy
   have HX := Lib.hid hxe
   have HY := Lib.hid hye
   clear hxe hye hA hB hSA hSB
   gi_wp2
   refine NextRound.mk ?_
   rintro W2 ⟨⟨v, c, out, hv, hcb, hrow, hlen, hsm, hc1, hval⟩, hba, hbb, hbel⟩
   have HVAL := Lib.hid hval
   have HLEN := Lib.hid hlen
   have hlen' : out.length ≤ 100000 := by omega
   have hc := hv.cell
   have hf := hv.frozen
   have hcc := hcb.cell
   have hcf := hcb.frozen
   clear hval hlen
   have hbS : w.heap.size ≤ W2.heap.size := hbel.size
   gi_wp2_with (gi_at_builtin; refine wpListIn_append_own _ rfl _ _ 40 rfl w.heap.size 127 i0 (.int .u32 0) 1 4 Tryz.underlying40 hi hz0 hz1 hz2 rfl (by decide) _ _ _ rfl ((hrow.box hcb (by decide) _).alloc _) ⟨W2.heap.size, 0, none⟩ 1 1 [_] rfl rfl (one_new _ _ _ _ (by simp)) (by simp [Value.oneCell']) (small_max (by omega)) (by omega) (by simp; omega) ?_; intro v' w3 hown' hgrow _; obtain ⟨g', cap', rfl⟩ := ownsRow_succ hown'; obtain ⟨hF, hKO, hBl, hBx, -⟩ := fresh_append ((c + (x + y)) % 4294967296) (hrow.box hcb (by decide) _) (by simp; omega) hown' hgrow (by omega); have hv3 := hBx _ _ _ (by decide) (hv.other (by omega) _); have hcb3 := hBx _ _ _ (by decide) (hcb.set _); have hba3 := hBx _ _ _ (by decide) (hba.other (by omega) _); have hbb3 := hBx _ _ _ (by decide) (hbb.other (by omega) _); have hc1' := hv3.cell; have hf1' := hv3.frozen; have hcc3 := hcb3.cell; have hcf3 := hcb3.frozen; clear hBx hown' hgrow)
   refine ⟨(((KeepsOthers.setCell W2 _ _).trans hKO).trans ((KeepsOthers.setCell w3 _ _).trans (KeepsOthers.setCell _ _ _))).from _,
     ⟨_, (c + (x + y)) / 4294967296, out ++ [(c + (x + y)) % 4294967296], (hv3.set _).other (by omega) _, ?_, (hF.box hv3 (by decide) _).box (hcb3.other (by omega) _) (by decide) _, by simp [HLEN.out], hsm.snoc (by omega), by omega, ?_⟩,
     (hba3.other (by omega) _).other (by omega) _, (hbb3.other (by omega) _).other (by omega) _, (((hbel.setCell (p := ⟨w1.heap.size + 1, 0, none⟩) (by simp; omega) _).trans hBl).setCell (p := ⟨w1.heap.size, 0, none⟩) (by simp; omega) _).setCell (p := ⟨w1.heap.size + 1, 0, none⟩) (by simp; omega) _⟩
   · rw [show (((c + (x + y)) / 4294967296 : Nat) : Int) = ((c : Int) + ((x : Int) + (y : Int))) / 4294967296 by omega]
     exact (hcb3.other (by omega) _).set _
   · rw [HX.out, HY.out]
     exact add_step HLEN.out HVAL.out
  case done =>
   rintro D W hD ⟨⟨v, c, out, hv, hcb, hrow, hlen, hsm, hc1, hval⟩, hba, hbb, hbel⟩ hK
   have hlen' : out.length ≤ 100000 := by omega
   rw [List.take_of_length_le (by omega), List.take_of_length_le (by omega)] at hval
   have HVAL := Lib.hid hval
   have HLEN := Lib.hid hlen
   have hc := hv.cell
   have hf := hv.frozen
   have hcc := hcb.cell
   have hbS : w.heap.size ≤ W.heap.size := hbel.size
   clear hval hlen hA hB hSA hSB hba hbb
   go_wp2_with (first
     | (at_builtin; refine wpList_append_own _ rfl _ _ 40 rfl w.heap.size 127 i0 (.int .u32 0) 1 4 Tryz.underlying40 hi hz0 hz1 hz2 rfl (by decide) _ _ _ rfl (World.ownsRow.alloc hrow _) ⟨W.heap.size, 0, none⟩ 1 1 [_] rfl rfl (one_new _ _ _ _ (by simp)) (by simp [Value.oneCell']) (small_max (by omega)) (by omega) (by simp; omega) ?_; intro v' w3 hown' hgrow _; obtain ⟨g', cap', rfl⟩ := ownsRow_succ hown'; obtain ⟨hF, hKO, hBl, hBx, hNo⟩ := fresh_append (c % 4294967296) hrow hbS hown' hgrow (by omega); have hK3 := hNo D _ hK rfl; clear hBx hown' hgrow hNo)
     | (go_at_call 112; refine (trim_fresh hF (by simp) (by simp; omega)).mono ?_; rintro e w' ⟨rfl, rfl⟩))
   have e1 : val (out ++ [c % 4294967296]) = val A + val B := by
     rw [← HVAL.out, val_snoc, HLEN.out, Nat.mod_eq_of_lt (by omega)]
   have hR := hF.trim' (by simp) (hsm.snoc (by omega))
   rw [e1] at hR
   refine ⟨by simp, .inl ⟨_, _, rfl, run_takeDeferred hK3, ?_⟩⟩
   exact ⟨_, results_tmp rfl _ _ _, _, rfl, hR.left _ hK3 rfl, below_left _ (hbel.trans hBl) (by simp at hD; omega) hK3 rfl⟩
  case stop =>
   rintro D c W _ h _
   exact h.elim
end
section
open Go Go.Proofs Go.RowKit Go.Shelf Nu
def Blk (W : World) (g : Nat) (pre : List Value) (l : List Nat) (post : List Value) : Prop := W.heap[g]? = some (.cells (pre ++ l.map u32v ++ post).toArray 127 (0, 0))
theorem Blk.lt {W : World} {g : Nat} {pre post : List Value} {l : List Nat} (h : Blk W g pre l post) : g < W.heap.size := (Array.getElem?_eq_some_iff.1 h).1
theorem Blk.cell {W : World} {g : Nat} {pre post : List Value} {l : List Nat} (h : Blk W g pre l post) {o : Nat} (ho : pre.length = o) (j : Nat) (hj : j < l.length) : W.cell? ⟨g, o + j, none⟩ = some (.int .u32 (l.getD j 0 : Nat)) := by
 subst ho
 have e : (pre ++ l.map u32v ++ post).toArray[pre.length + j]? = some (.int .u32 (l.getD j 0 : Nat)) := by
  rw [List.getElem?_toArray, List.append_assoc, List.getElem?_append_right (by omega), Nat.add_sub_cancel_left, List.getElem?_append_left (by simpa using hj), List.getElem?_map, List.getElem?_eq_getElem hj]
  simp [u32v, List.getD_eq_getElem?_getD, List.getElem?_eq_getElem hj]
 unfold World.cell?
 rw [show W.heap[g]? = _ from h]
 simpa using e
theorem Blk.frozen {W : World} {g : Nat} {pre post : List Value} {l : List Nat} (h : Blk W g pre l post) (o : Nat) : W.frozen? ⟨g, o, none⟩ = false := by
 unfold World.frozen?
 rw [show W.heap[g]? = _ from h]
 simp
theorem Blk.set {W : World} {g : Nat} {pre post : List Value} {l : List Nat} (h : Blk W g pre l post) {o : Nat} (ho : pre.length = o) (j x : Nat) (hj : j < l.length) : Blk (W.setCell ⟨g, o + j, none⟩ (.int .u32 (x : Int))) g pre (l.set j x) post := by
 subst ho
 obtain ⟨hlt, hk⟩ := Array.getElem?_eq_some_iff.1 h
 show (W.heap.modify g _)[g]? = _
 rw [Array.getElem?_eq_getElem (by rw [Array.size_modify]; exact hlt), Array.getElem_modify_self, hk]
 simp only [Option.isSome_none, Bool.false_eq_true, if_false, List.setIfInBounds_toArray, Option.some.injEq, Obj.cells.injEq, and_true]
 congr 1
 rw [List.append_assoc, List.set_append_right _ _ (by omega), Nat.add_sub_cancel_left, List.set_append_left _ _ (by simpa using hj), List.append_assoc, List.map_set]
 rfl
theorem Blk.kept {W W' : World} {g : Nat} {pre post : List Value} {l : List Nat} {row : Option Nat} (h : Blk W g pre l post) (hg : W.grownBy W' row) (hne : some g ≠ row) : Blk W' g pre l post := (hg.block g h.lt hne).trans h
theorem Blk.box {W : World} {g B : Nat} {pre post : List Value} {l : List Nat} (h : Blk W g pre l post) (hne : g ≠ B) (u : Value) : Blk (W.setCell ⟨B, 0, none⟩ u) g pre l post := h.kept (grownBy_setCell' W B u) (fun e => hne (by cases e; rfl))
theorem Blk.alloc {W : World} {g : Nat} {pre post : List Value} {l : List Nat} (h : Blk W g pre l post) (o : Obj) : Blk (W.alloc o) g pre l post := h.kept (World.grownBy_alloc W o none) (by simp)
theorem Blk.keep {W W' : World} {M g : Nat} {row : Option Nat} {pre post : List Value} {l : List Nat} (h : Blk W g pre l post) (hg : W.grownBy W' row) (hr : OffCells M row W) : Blk W' g pre l post :=
 h.kept hg fun e => by
  obtain ⟨_, o, ho, hc⟩ := hr g e.symm
  rw [show W.heap[g]? = _ from h] at ho; cases ho; cases hc
theorem Blk.split {W : World} {g : Nat} {pre post : List Value} {a b c : List Nat} : Blk W g pre (a ++ b ++ c) post ↔ Blk W g (pre ++ a.map u32v) b (c.map u32v ++ post) := by
 unfold Blk; simp [List.append_assoc]
theorem Blk.reads {W : World} {g : Nat} {pre post : List Value} {l : List Nat} (h : Blk W g pre l post) {o cap : Nat} (ho : pre.length = o) (hc : l.length ≤ cap) : Reads W (.slice (some ⟨g, o, none⟩) l.length cap) l :=
 .inr (.inl ⟨g, o, cap, rfl, h.lt, hc, fun j hj => h.cell ho j hj⟩)
theorem grown_setCell {w W : World} {g : Nat} (h : w.grownBy W (some g)) (o : Nat) (v : Value) : w.grownBy (W.setCell ⟨g, o, none⟩ v) (some g) :=
 ⟨h.os, h.tape, h.output, by simpa using h.size, fun k hk hne => (Below.heap_setCell W ⟨g, o, none⟩ v k (fun e => hne (by rw [e]))).trans (h.block k hk hne)⟩
theorem grown_box {w W : World} {g B : Nat} (h : w.grownBy W (some g)) (hB : w.heap.size ≤ B) (v : Value) : w.grownBy (W.setCell ⟨B, 0, none⟩ v) (some g) :=
 ⟨h.os, h.tape, h.output, by simpa using h.size, fun k hk hne => (Below.heap_setCell W ⟨B, 0, none⟩ v k (by simp; omega)).trans (h.block k hk hne)⟩
theorem grown_alloc {w W : World} {g : Nat} (h : w.grownBy W (some g)) (o : Obj) : w.grownBy (W.alloc o) (some g) :=
 ⟨h.os, h.tape, h.output, by have := h.size; simp; omega, fun k hk hne => (Below.heap_alloc W o k (Nat.lt_of_lt_of_le hk h.size)).trans (h.block k hk hne)⟩
theorem grown_keep {w W W' : World} {g M : Nat} {row : Option Nat} (h : w.grownBy W (some g)) (hM : w.heap.size ≤ M) (hg : W.grownBy W' row) (hr : OffCells M row W) : w.grownBy W' (some g) :=
 ⟨hg.os.trans h.os, hg.tape.trans h.tape, hg.output.trans h.output, Nat.le_trans h.size hg.size, fun k hk hne => (hg.block k (Nat.lt_of_lt_of_le hk h.size) (fun e => by have := (hr k e.symm).1; omega)).trans (h.block k hk hne)⟩
theorem grown_drew {w W : World} {g : Nat} (h : w.grownBy W (some g)) : w.grownBy W.drew (some g) := ⟨h.os, h.tape, h.output, h.size, h.block⟩
theorem grown_refl (w : World) (row : Option Nat) : w.grownBy w row := ⟨rfl, rfl, rfl, Nat.le_refl _, fun _ _ _ => rfl⟩
theorem grown_left {w W : World} {g D : Nat} {o : Obj} (o' : Obj) (h : w.grownBy W (some g)) (hw : w.heap.size ≤ D) (hD : W.heap[D]? = some o) (ho : o.isCells = false) : w.grownBy (W.putObj D o') (some g) :=
 grown_keep h hw (grownBy_putObj' W D o') (offCells_putObj (Nat.le_refl _) hD ho)
theorem Blk.left {W : World} {g D : Nat} {pre post : List Value} {l : List Nat} {o : Obj} (o' : Obj) (h : Blk W g pre l post) (hD : W.heap[D]? = some o) (ho : o.isCells = false) : Blk (W.putObj D o') g pre l post :=
 h.keep (M := 0) (grownBy_putObj' W D o') (offCells_putObj (Nat.zero_le _) hD ho)
theorem Reads.grown {w W : World} {g : Nat} {v : Value} {l : List Nat} (h : Reads w v l) (hg : w.grownBy W (some g)) (hne : v.ownBlock ≠ some g) : Reads W v l := by
 rcases h with h | ⟨b, off, cap, rfl, hb', hc, hl⟩ | h
 rotate_right
 · exact .inr (.inr h)
 · exact .inl h
 · have hb : b ≠ g := fun e => hne (by simp [Value.ownBlock, e])
   exact .inr (.inl ⟨b, off, cap, rfl, Nat.lt_of_lt_of_le hb' hg.size, hc, fun j hj => (World.cell?_of_block (w := w) (hg.block b hb' (fun e => hb (by cases e; rfl)))).trans (hl j hj)⟩)
theorem boxed_row {W : World} {B g o : Nat} {t : TypeId} {v : Value} (h : Boxed W B t v) (hne : B ≠ g) (u : Value) : Boxed (W.setCell ⟨g, o, none⟩ u) B t v :=
 (Below.heap_setCell W ⟨g, o, none⟩ u B hne).trans h
theorem heap_row {W : World} {D g o : Nat} {ob : Obj} (h : W.heap[D]? = some ob) (hne : D ≠ g) (u : Value) : (W.setCell ⟨g, o, none⟩ u).heap[D]? = some ob :=
 (Below.heap_setCell W ⟨g, o, none⟩ u D hne).trans h
theorem Fresh.blk {W : World} {base g n cap : Nat} {l : List Nat} (h : Fresh W base (.slice (some ⟨g, 0, none⟩) n cap) l) (hn : n = l.length) : ∃ post, Blk W g [] l post ∧ base ≤ g ∧ l.length + post.length = cap ∧ cap ≤ maxLen := by
 subst hn
 rcases h.2 with ⟨h1, _⟩ | ⟨g', cap', cur, e1, hb, hg, hn, hc, hs, ht⟩
 · cases h1
 · simp only [Value.slice.injEq, Option.some.injEq, Addr.mk.injEq, and_true, true_and] at e1
   obtain ⟨rfl, rfl⟩ := e1
   rw [Nat.mul_one] at hs ht
   refine ⟨cur.toList.drop l.length, ?_, hb, by simp; omega, hc⟩
   unfold Blk
   rw [hg, List.nil_append, ← ht, List.take_append_drop]
theorem Blk.fresh {W : World} {base g cap : Nat} {l : List Nat} {post : List Value} (h : Blk W g [] l post) (hb : base ≤ g) (hc : l.length + post.length = cap) (hm : cap ≤ maxLen) : Fresh W base (.slice (some ⟨g, 0, none⟩) l.length cap) l :=
 ⟨by simp, .inr ⟨g, cap, _, rfl, hb, h, by omega, hm, by simp; omega, by simp⟩⟩
end
section
open Go
theorem and_top (a : Nat) (h : a < 18446744073709551616) : bits BinOp.and IntKind.u64 (a : Int) 4294967295 = ((a % 4294967296 : Nat) : Int) := by
 have := bits_and_u64_nat a 4294967295 h (by decide)
 rw [show ((4294967295 : Nat) : Int) = 4294967295 from rfl] at this
 rw [this, show (4294967295 : Nat) = 2 ^ 32 - 1 from rfl, Nat.and_two_pow_sub_one_eq_mod]
theorem or_side (a b i : Nat) (hb : b < 2 ^ i) (h : 2 ^ i * a + b < 18446744073709551616) : bits BinOp.or IntKind.u64 ((2 ^ i * a : Nat) : Int) (b : Int) = ((2 ^ i * a + b : Nat) : Int) := by
 rw [bits_or_u64_nat _ _ (by omega) (by omega), Nat.two_pow_add_eq_or_of_lt hb]
theorem or_side' (a b i : Nat) (hb : b < 2 ^ i) (h : 2 ^ i * a + b < 18446744073709551616) : bits BinOp.or IntKind.u64 (b : Int) ((2 ^ i * a : Nat) : Int) = ((2 ^ i * a + b : Nat) : Int) := by
 rw [bits_or_u64_nat _ _ (by omega) (by omega), Nat.two_pow_add_eq_or_of_lt hb, Nat.or_comm]
theorem w64_of (n : Nat) (h : n < 18446744073709551616) : IntKind.u64.wrap (n : Int) = (n : Int) := by rw [IntKind.wrap_u64]; omega
theorem w32_of (n : Nat) (h : n < 4294967296) : IntKind.u32.wrap (n : Int) = (n : Int) := by rw [IntKind.wrap_u32']; omega
theorem or_shl (n x : Nat) (hn : n < 4294967296) (hx : x < 4294967296) : bits BinOp.or IntKind.u64 ((n : Int) * 4294967296) (x : Int) = ((n * 4294967296 + x : Nat) : Int) := by
 have := or_side n x 32 hx (by omega)
 rw [show ((2 ^ 32 * n : Nat) : Int) = (n : Int) * 4294967296 by omega] at this
 rw [this]; omega
theorem sub_step {al ml bo : Nat} (h1 : al < 4294967296) (h2 : ml < 4294967296) (h3 : bo ≤ 1) :
   ∃ d : Nat, IntKind.u64.wrap (IntKind.u64.wrap ((al : Int) - (ml : Int)) - (bo : Int)) = (d : Int) ∧ d < 18446744073709551616 ∧ (al : Int) - ml - bo = (d % 4294967296 : Nat) - 4294967296 * (d / 9223372036854775808 : Nat) ∧ d / 9223372036854775808 ≤ 1 := by
 rw [IntKind.wrap_u64, IntKind.wrap_u64]
 by_cases h : ml + bo ≤ al
 · exact ⟨al - ml - bo, by omega, by omega, by omega, by omega⟩
 · exact ⟨18446744073709551616 + al - ml - bo, by omega, by omega, by omega, by omega⟩
theorem mul_bound {x t : Nat} (hx : x < 4294967296) (ht : t < 4294967296) : ∃ P : Nat, (x : Int) * (t : Int) = (P : Int) ∧ P = x * t ∧ P ≤ 18446744065119617025 :=
 ⟨x * t, by push_cast; rfl, rfl, Nat.le_trans (Nat.mul_le_mul (show x ≤ 4294967295 by omega) (show t ≤ 4294967295 by omega)) (by decide)⟩
end
section
open Go Go.Proofs Go.RowKit Go.Shelf Nu
attribute [local go_sem] Oper.semAt_some
def TimesInv (w : World) (g : Nat) (pre post : List Value) (row lb : List Nat) (t : Nat) (va vb : Value) (k : Nat) (W : World) : Prop :=
 (∃ (cur : List Nat) (c : Nat), Blk W g pre cur post ∧ cur.length = row.length ∧ Sm cur ∧ c < 4294967296 ∧ cur.drop k = row.drop k ∧ val (cur.take k) + 4294967296 ^ k * c = val (row.take k) + t * val (lb.take k) ∧ Boxed W (w.heap.size + 1 + 1) 130 (.int .u64 c)) ∧
 Boxed W w.heap.size 40 va ∧ Boxed W (w.heap.size + 1) 127 (.int .u32 t) ∧ Boxed W (w.heap.size + 1 + 1 + 1) 40 vb ∧ w.grownBy W (some g)
theorem addTimes_any {w : World} {g o cap t : Nat} {pre post : List Value} {row lb : List Nat} {vb : Value} (hb : Blk w g pre row post) (ho : pre.length = o) (hcap : row.length ≤ cap) (hB : Reads w vb lb) (hne : 0 < lb.length → vb.ownBlock ≠ some g) (hl : row.length = lb.length) (hlb : lb.length ≤ 100000) (_hso : o ≤ 1000000)
  (hSR : Sm row) (hSB : Sm lb) (ht : t < 4294967296) :
  Calls Tryz.prog 164 #[.slice (some ⟨g, o, none⟩) row.length cap, vb, .int .u32 t] w fun e w' => ∃ (row' : List Nat) (c : Nat), e = .returned (.int .u32 c) ∧ Blk w' g pre row' post ∧ row'.length = row.length ∧ Sm row' ∧ c < 4294967296 ∧ val row' + 4294967296 ^ row.length * c = val row + t * val lb ∧ w.grownBy w' (some g) := by
 have hgw := hb.lt
 obtain ⟨b1, d1, rfl⟩ := hB.form
 obtain ⟨n, hn⟩ : ∃ n, n = row.length := ⟨_, rfl⟩
 have HN := Lib.hid hn
 have HNL := Lib.hid hl
 have hn1 : n ≤ 100000 := by omega
 have hn2 : n ≤ cap := by omega
 rw [← hn]
 clear hn hl
 refine (callsIn_wide (n := 0)).1 ?_
 refine callsIn_of_wp_marks Tryz.func164 rfl trivial ?_ rfl
 simp only [Tryz.ntmps164, List.size_toArray, List.length_cons, List.length_nil, Nat.reduceAdd, Nat.reduceSub, Array.replicate_succ, Array.replicate_zero, List.push_toArray, List.append_toArray, List.nil_append, List.cons_append]
 refine wpIn_wide.2 ?_
 go_wp2_with (go_at_call 163; refine (all_any _ _ _ _).mono ?_; rintro e w' ⟨rfl, rfl⟩)
 obtain ⟨bb, ob, hbb, hcb⟩ := hB.addr
 refine (wpIn_wide (n := 0)).1 ?_
 refine wp_rangeAt (gf := 189) rfl (enters_of Tryz.func189 (by kernel_rfl) rfl)
  (all_iter lb.length bb ob d1 (w.heap.size + 1 + 1 + 1) b1 (fun j => lb.getD j 0) (by omega) (fun h => (hbb h).1)) (fun _ => rfl)
  (TimesInv w g pre post row lb t (.slice (some ⟨g, o, none⟩) n cap) (.slice b1 lb.length d1)) (fun _ _ => False) ?own (fun _ _ _ _ h _ _ => h) ?reads ?start ?round ?done ?stop
 case own =>
  rintro k W W' r ⟨⟨cur, c, h1, h2, h3, h4, h5, h6, h7⟩, g1, g2, g3, g4⟩ hg hr
  exact ⟨⟨cur, c, h1.keep hg hr, h2, h3, h4, h5, h6, keepBox h7 hg hr⟩, keepBox g1 hg hr, keepBox g2 hg hr, keepBox g3 hg hr, grown_keep g4 (by simp; omega) hg hr⟩
 case reads =>
  rintro k W ⟨_, g1, g2, g3, g4⟩
  refine ⟨g3.cell, fun hk => ?_⟩
  have hbg : bb ≠ g := fun e => hne (by omega) (by rw [(hbb (by omega)).1, e]; rfl)
  exact (World.cell?_of_block (w := w) (g4.block bb (hbb (by omega)).2 (fun e => hbg (by cases e; rfl)))).trans (hcb k hk)
 case start =>
  refine ⟨⟨row, 0, (((hb.alloc _).alloc _).alloc _).alloc _, rfl, hSR, by omega, rfl, by simp [val], (boxed_new2 w _ _ _ _).alloc _⟩, (((Boxed.new w _ _).alloc _).alloc _).alloc _, ((boxed_new1 w _ _ _).alloc _).alloc _, boxed_new3 w _ _ _ _ _, ?_⟩
  exact grown_alloc (grown_alloc (grown_alloc (grown_alloc (grown_refl w _) _) _) _) _
 case round =>
  intro l k W hk
  have hx := hSB.getD k
  obtain ⟨x, hxe⟩ : ∃ x, x = lb.getD k 0 := ⟨_, rfl⟩
  dsimp only
  rw [← hxe]
  rw [← hxe] at hx
  have HX := Lib.hid hxe
  have hkn : k < n := by have := HN.out; have := HNL.out; omega
  clear hxe hbb hcb hB hSB hSR hb
  gi_wp2
  refine NextRound.mk ?_
  rintro W2 ⟨⟨cur, c, h1, h2, h3, h4, h5, h6, h7⟩, g1, g2, g3, g4⟩
  have hkc : k < cur.length := by rw [h2, ← HN.out]; exact hkn
  have r1 := h1.cell ho k hkc
  have r2 := h1.frozen (o + k)
  have hr := h3.getD k
  obtain ⟨r, hre⟩ : ∃ r, r = cur.getD k 0 := ⟨_, rfl⟩
  rw [← hre] at r1 hr
  obtain ⟨P, hP, HP, hPb⟩ := mul_bound hx ht
  have HP' := Lib.hid HP
  have HR := Lib.hid hre
  have H2 := Lib.hid h2
  have H5 := Lib.hid h5
  have H6 := Lib.hid h6
  have q1 := h7.cell
  have q2 := h7.frozen
  have q3 := g1.cell
  have q4 := g2.cell
  clear hre h2 h5 h6 HP
  gi_wp2_with (refine region_tail_in (Lets.round l) 13 (by kernel_rfl) (by kernel_rfl) (Stop.of ?_))
  refine Stop.mk ?_
  simp only [List.take_succ_cons, List.take_zero, List.drop_succ_cons, List.drop_zero]
  iterate 13 still_step
  refine wpStill_nil ?_
  gi_wp2
  have hgS : g ≠ w.heap.size + 1 + 1 := by omega
  refine ⟨((((KeepsOthers.setCell W2 _ _).trans (KeepsOthers.setCell _ _ _)).trans (KeepsOthers.setCell _ _ _)).trans (KeepsOthers.drew _)).from _,
    ⟨cur.set k ((c + (P + r)) % 4294967296), (c + (P + r)) / 4294967296, ?_, ?_, h3.set _ _ (by omega), by omega, ?_, ?_, ?_⟩, ?_, ?_, ?_, ?_⟩
  · have e := ((h1.box hgS (.int .u64 ((c : Int) + ((P : Int) + (r : Int))))).set ho k ((c + (P + r)) % 4294967296) hkc).box hgS (.int .u64 (((c : Int) + ((P : Int) + (r : Int))) / 4294967296))
    rw [show (((c + (P + r)) % 4294967296 : Nat) : Int) = ((c : Int) + ((P : Int) + (r : Int))) % 4294967296 by omega] at e
    exact e
  · rw [List.length_set]; exact H2.out
  · rw [set_drop]; exact drop_succ_of_drop H5.out
  · have e := times_step (t := t) hkc H5.out H6.out
    rw [← HX.out, ← HP'.out, ← HR.out] at e
    exact e
  · rw [show (((c + (P + r)) / 4294967296 : Nat) : Int) = ((c : Int) + ((P : Int) + (r : Int))) / 4294967296 by omega]
    exact (boxed_row (h7.set _) (by omega) _).set _
  · exact (boxed_row (g1.other (by omega) _) (by omega) _).other (by omega) _
  · exact (boxed_row (g2.other (by omega) _) (by omega) _).other (by omega) _
  · exact (boxed_row (g3.other (by omega) _) (by omega) _).other (by omega) _
  · exact grown_drew (grown_box (grown_setCell (grown_box g4 (by omega) _) _ _) (by omega) _)
 case done =>
  rintro D W hD ⟨⟨cur, c, h1, h2, h3, h4, h5, h6, h7⟩, g1, g2, g3, g4⟩ hK
  have q1 := h7.cell
  have hn := HN.out
  have hl := HNL.out
  rw [List.take_of_length_le (by omega), List.take_of_length_le (by omega), List.take_of_length_le (by omega), ← hl, ← hn] at h6
  have H6 := Lib.hid h6
  have H2 := Lib.hid h2
  clear h2 h5 h6 hbb hcb hB hSB hb hn hl g1 g2 g3
  go_wp2
  refine ⟨by simp, .inl ⟨_, _, rfl, run_takeDeferred hK, ?_⟩⟩
  refine ⟨_, results_tmp rfl _ _ _, cur, c, rfl, h1.left _ hK rfl, by rw [H2.out, HN.out], h3, h4, H6.out, grown_left _ g4 (by simp at hD; omega) hK rfl⟩
 case stop =>
  rintro D c W _ h _
  exact h.elim
def MulInv (w : World) (s g : Nat) (A B : List Nat) (va vb pv : Value) (k : Nat) (W : World) : Prop :=
 (∃ p : List Nat, Blk W g [] p [] ∧ p.length = A.length + B.length ∧ Sm p ∧ val p = val (A.take k) * val B ∧ ∀ j, k + B.length ≤ j → p.getD j 0 = 0) ∧
 Boxed W w.heap.size 40 vb ∧ Boxed W s 40 pv ∧ Boxed W (s + 1) 40 va ∧ Below w.heap.size w W
theorem replicate_zero_u32 (n : Nat) : (madeCells (Value.int .u32 0).cells (n * 1)).toList = (List.replicate n 0).map u32v := by
 rw [Nat.mul_one]
 show (madeCells #[Value.int .u32 0] n).toList = _
 rw [toList_madeCells_one, List.map_replicate]; rfl
theorem mul_any {w : World} {va vb : Value} {la lb : List Nat} (ha : Reads w va la) (hb : Reads w vb lb) (hla : la.length ≤ 100000) (hlb : lb.length ≤ 100000) (hsa : Sm la) (hsb : Sm lb) :
  Calls Tryz.prog 135 #[va, vb] w fun e w' => ∃ v, e = .returned v ∧ Fresh w' w.heap.size v (digs (nv la * nv lb)) ∧ Below w.heap.size w w' := by
 obtain ⟨i0, hi, hz0, hz1, hz2⟩ := info_parts info_u32
 have k1 : ∀ W, Below w.heap.size w W → _ := fun W hW => orZero_any (ha.below hW) (by omega)
 have k2 : ∀ W, Below w.heap.size w W → _ := fun W hW => orZero_any (hb.below hW) (by omega)
 have hA := orzV_reads ha
 have hB := orzV_reads hb
 obtain ⟨a1, c1, e1⟩ := hA.form
 obtain ⟨b1, d1, e2⟩ := hB.form
 rw [e1] at k1 hA
 rw [e2] at k2 hB
 have hlA : (orz la).length ≤ 100000 := Nat.le_trans (orz_length la) hla
 have hlB : (orz lb).length ≤ 100000 := Nat.le_trans (orz_length lb) hlb
 have hSA := sm_orz hsa
 have hSB := sm_orz hsb
 rw [← val_orz la, ← val_orz lb]
 generalize orz la = A at *
 generalize orz lb = B at *
 obtain ⟨x1, x2, rfl⟩ := ha.form
 obtain ⟨y1, y2, rfl⟩ := hb.form
 clear ha hb e1 e2 hla hlb hsa hsb
 obtain ⟨N, hN⟩ : ∃ N, N = A.length + B.length := ⟨_, rfl⟩
 have HN := Lib.hid hN
 have hN1 : N ≤ 200000 := by omega
 clear hN
 refine (callsIn_wide (n := 0)).1 ?_
 refine callsIn_of_wp_marks Tryz.func135 rfl trivial ?_ rfl
 simp only [Tryz.ntmps135, List.size_toArray, List.length_cons, List.length_nil, Nat.reduceAdd, Nat.reduceSub, Array.replicate_succ, Array.replicate_zero, List.push_toArray, List.append_toArray, List.nil_append, List.cons_append]
 refine wpIn_wide.2 ?_
 go_wp2_with fail
 refine (wpIn_wide (n := 0)).1 ?_
 refine region_tail_in Lets.wide 4 (by kernel_rfl) (by kernel_rfl) ?_
 simp only [List.take_succ_cons, List.take_zero, List.drop_succ_cons, List.drop_zero]
 have hb0 : Below w.heap.size w (w.alloc (.cells #[.slice y1 lb.length y2] 40)).drew := ((Below.refl _ w).alloc (Nat.le_refl _) _).drew
 still_step
 still_call (k1 _ hb0)
 still_step
 still_call (k2 _ hb0)
 clear k1 k2
 refine wpStill_nil ?_
 gi_wp2
 go_wp2_with (first
  | (at_make; go_loud (refine wpList_make_full _ rfl _ _ 40 rfl (w.heap.size + 1) 127 i0 (.int .u32 0) 1 Tryz.underlying40 hi hz0 hz1 .i64 .i64 _ _ N rfl rfl (by have := HN.out; omega) (by have := HN.out; omega) (by rw [hz2]; omega) (by unfold maxLen; omega) (by simp) ?_); intro w1 hown1 hgrow1)
  | (go_at_call 163; refine (all_any _ _ _ _).mono ?_; rintro e w' ⟨rfl, rfl⟩))
 have hs1 : w.heap.size + 1 ≤ w1.heap.size := by have := hgrow1.size; simp at this; omega
 obtain ⟨s, hs⟩ : ∃ s, s = w1.heap.size := ⟨_, rfl⟩
 obtain ⟨g, hg⟩ : ∃ g, g = w.heap.size + 1 := ⟨_, rfl⟩
 have HS := Lib.hid hs
 have HG := Lib.hid hg
 obtain ⟨ba, oa, hba, hca⟩ := hA.addr
 have hBg : 0 < B.length → (Value.slice b1 B.length d1).ownBlock ≠ some g := fun hl0 e => by have := hB.block_lt e hl0; omega
 have hbel1 : Below w.heap.size w w1 := ((((Below.refl _ w).alloc (Nat.le_refl _) _).drew).grown hgrow1 (by simp) (fun _ e => by cases e))
 have hsz : (w.alloc (.cells #[.slice b1 B.length d1] 40)).drew.heap.size = w.heap.size + 1 := by simp
 rw [hsz] at hown1
 have hF : Fresh w1 (w.heap.size + 1) (.slice (some ⟨w.heap.size + 1, 0, none⟩) N N) (List.replicate N 0) := by unfold Fresh; rw [List.length_replicate, ← replicate_zero_u32]; exact hown1
 have hgs : g < s := by
  rcases hF.form with ⟨h, _⟩ | ⟨g', cap, e, _, h, _⟩
  · cases h
  · simp only [Value.slice.injEq, Option.some.injEq, Addr.mk.injEq, and_true] at e
    omega
 clear hown1
 rw [← hs] at hs1 ⊢
 rw [← hg]
 refine (wpIn_wide (n := 0)).1 ?_
 refine wp_rangeAt (gf := 189) rfl (enters_of Tryz.func189 (by kernel_rfl) rfl)
  (all_iter A.length ba oa c1 (s + 1) a1 (fun j => A.getD j 0) (by omega) (fun h => (hba h).1)) (fun _ => rfl)
  (MulInv w s g A B (.slice a1 A.length c1) (.slice b1 B.length d1) (.slice (some ⟨g, 0, none⟩) N N)) (fun _ _ => False) ?own (fun _ _ _ _ h _ _ => h) ?reads ?start ?round ?done ?stop
 case own =>
  rintro k W W' r ⟨⟨p, h1, h2⟩, g1, g2, g3, g4⟩ hg hr
  exact ⟨⟨p, h1.keep hg hr, h2⟩, keepBox g1 hg hr, keepBox g2 hg hr, keepBox g3 hg hr, keepBelow g4 (Nat.le_refl _) (by simp; omega) hg hr⟩
 case reads =>
  rintro k W ⟨_, g1, g2, g3, g4⟩
  exact ⟨g3.cell, fun hk => (g4.cell (p := ⟨ba, oa + k, none⟩) (hba (by omega)).2).trans (hca k hk)⟩
 case start =>
  subst hs hg
  obtain ⟨post, h1, _, h3, _⟩ := hF.blk (by simp)
  obtain rfl : post = [] := List.eq_nil_of_length_eq_zero (by rw [List.length_replicate] at h3; omega)
  have hV : Boxed w1 w.heap.size 40 (.slice b1 B.length d1) := Boxed.kept (W := (w.alloc (.cells #[.slice b1 B.length d1] 40)).drew) (Boxed.new w _ _) hgrow1 (by simp)
  refine ⟨⟨List.replicate N 0, (h1.alloc _).alloc _, by rw [List.length_replicate]; exact HN.out, Sm.replicate N, by simp [val_replicate, val], fun j _ => ?_⟩, (hV.alloc _).alloc _, (Boxed.new w1 _ _).alloc _, boxed_new1 w1 _ _ _, ?_⟩
  · rw [List.getD_eq_getElem?_getD, List.getElem?_replicate]; split <;> rfl
  · exact (hbel1.alloc (by omega) _).alloc (by simp; omega) _
 case round =>
  intro l k W hk
  have hx := hSA.getD k
  obtain ⟨x, hxe⟩ : ∃ x, x = A.getD k 0 := ⟨_, rfl⟩
  dsimp only
  rw [← hxe]
  rw [← hxe] at hx
  have HX := Lib.hid hxe
  have hkN : k + B.length < N := by have := HN.out; omega
  have hwg : w.heap.size < g := by omega
  clear hxe hba hca hA hSA hs hg
  gi_wp2
  refine NextRound.mk ?_
  rintro W2 ⟨⟨p, h1, h2, h3, h4, h5⟩, g1, g2, g3, g4⟩
  have r1 := g1.cell
  have r2 := g2.cell
  have H2 := Lib.hid h2
  have H4 := Lib.hid h4
  have H5 := Lib.hid h5
  have hpl : p.length = N := by have := HN.out; omega
  have HPL := Lib.hid hpl
  -- the row that is written
  have hsplit : p.take k ++ (p.drop k).take B.length ++ p.drop (k + B.length) = p := by
    rw [← List.drop_drop, List.append_assoc, List.take_append_drop, List.take_append_drop]
  have hb1 : Blk W2 g ([] ++ (p.take k).map u32v) ((p.drop k).take B.length) ((p.drop (k + B.length)).map u32v ++ []) := Blk.split.1 (by rw [hsplit]; exact h1)
  have hrl : ((p.drop k).take B.length).length = B.length := by rw [List.length_take, List.length_drop]; omega
  have hct := addTimes_any (w := W2.drew) (cap := N - k) (t := x) hb1 (o := k) (by simp; omega) (by omega) (hB.below g4.drew) hBg hrl hlB (by omega) ((h3.drop k).take _) hSB hx
  rw [hrl] at hct
  have HSP := Lib.hid hsplit
  clear h2 h4 h5 hpl hsplit hrl
  gi_wp2_with (refine region_held_in (Lets.round l) (fun W => W.cell? ⟨w.heap.size, 0, none⟩ = some (.slice b1 B.length d1) ∧ W.cell? ⟨s, 0, none⟩ = some (.slice (some ⟨g, 0, none⟩) N N)) (by kernel_rfl) (by kernel_rfl) (by rintro ⟨_, _, h⟩; exact h) (Stop.of ?_))
  refine Stop.mk ?_
  have u1 : IntKind.i64.wrap ((k : Int) + (B.length : Int)) = (k : Int) + (B.length : Int) := IntWalk.i64_in _ (by omega)
  have u2 : (0 : Int) ≤ (k : Int) + (B.length : Int) := by omega
  have u3 : (k : Int) + (B.length : Int) ≤ (N : Int) := by omega
  have u4 : ((k : Int) + (B.length : Int)).toNat = k + B.length := by omega
  have u5 : ¬ N = k := by omega
  have u6 : (k : Int) + (B.length : Int) < (N : Int) := by omega
  have hS0 : W2.drew.cell? ⟨w.heap.size, 0, none⟩ = some (.slice b1 B.length d1) ∧ W2.drew.cell? ⟨s, 0, none⟩ = some (.slice (some ⟨g, 0, none⟩) N N) := ⟨r1, r2⟩
  refine wtp 0 (.slice (some ⟨g, 0, none⟩) N N) rfl (fun _ _ _ h => h) (Or.inl ⟨by rfl, fun W3 hS => by obtain ⟨hS1, hS2⟩ := hS; go_simp⟩) hS0 ?_
  refine wtp 1 (.int .i64 k) rfl (fun _ _ _ h => h) (Or.inl ⟨by rfl, fun W3 hS => by obtain ⟨hS1, hS2⟩ := hS; go_simp⟩) hS0 ?_
  refine wtp 2 (.slice b1 B.length d1) rfl (fun _ _ _ h => h) (Or.inl ⟨by rfl, fun W3 hS => by obtain ⟨hS1, hS2⟩ := hS; go_simp⟩) hS0 ?_
  refine wtp 3 (.int .i64 B.length) rfl (fun _ _ _ h => h) (Or.inl ⟨by rfl, fun W3 hS => by obtain ⟨hS1, hS2⟩ := hS; go_simp⟩) hS0 ?_
  refine wtp 4 (.int .i64 ((k : Int) + (B.length : Int))) rfl (fun _ _ _ h => h) (Or.inl ⟨by rfl, fun W3 hS => by obtain ⟨hS1, hS2⟩ := hS; go_simp⟩) hS0 ?_
  refine wtp 5 (.slice (some ⟨g, 0, none⟩) N N) rfl (fun _ _ _ h => h) (Or.inl ⟨by rfl, fun W3 hS => by obtain ⟨hS1, hS2⟩ := hS; go_simp⟩) hS0 ?_
  refine wtp 6 (.int .i64 k) rfl (fun _ _ _ h => h) (Or.inl ⟨by rfl, fun W3 hS => by obtain ⟨hS1, hS2⟩ := hS; go_simp⟩) hS0 ?_
  refine wtp 7 (.int .i64 k) rfl (fun _ _ _ h => h) (Or.inl ⟨by rfl, fun W3 hS => by obtain ⟨hS1, hS2⟩ := hS; go_simp⟩) hS0 ?_
  refine wtp 8 (.slice b1 B.length d1) rfl (fun _ _ _ h => h) (Or.inl ⟨by rfl, fun W3 hS => by obtain ⟨hS1, hS2⟩ := hS; go_simp⟩) hS0 ?_
  refine wtp 9 (.int .i64 B.length) rfl (fun _ _ _ h => h) (Or.inl ⟨by rfl, fun W3 hS => by obtain ⟨hS1, hS2⟩ := hS; go_simp⟩) hS0 ?_
  refine wtp 10 (.int .i64 ((k : Int) + (B.length : Int))) rfl (fun _ _ _ h => h) (Or.inl ⟨by rfl, fun W3 hS => by obtain ⟨hS1, hS2⟩ := hS; go_simp⟩) hS0 ?_
  refine wtp 11 (.slice (some ⟨g, k, none⟩) B.length (N - k)) rfl (fun _ _ _ h => h) (Or.inl ⟨by rfl, fun W3 hS => by obtain ⟨hS1, hS2⟩ := hS; go_simp⟩) hS0 ?_
  refine wtp 12 (.slice b1 B.length d1) rfl (fun _ _ _ h => h) (Or.inl ⟨by rfl, fun W3 hS => by obtain ⟨hS1, hS2⟩ := hS; go_simp⟩) hS0 ?_
  refine wtp 13 (.int .u32 x) rfl (fun _ _ _ h => h) (Or.inl ⟨by rfl, fun W3 hS => by obtain ⟨hS1, hS2⟩ := hS; go_simp⟩) hS0 ?_
  refine one_op 14 rfl (fun K hK => ?_)
  go_simp
  refine hct.mono ?_
  rintro e W4 ⟨row', c, rfl, q1, q2, q3, q4, q5, q6⟩
  have q1' := q1
  have hS1 : W4.cell? ⟨w.heap.size, 0, none⟩ = some (.slice b1 B.length d1) ∧ W4.cell? ⟨s, 0, none⟩ = some (.slice (some ⟨g, 0, none⟩) N N) := by
    refine ⟨?_, ?_⟩
    · exact (World.cell?_of_block (w := W2.drew) (q6.block _ g1.lt (by simp; omega))).trans r1
    · exact (World.cell?_of_block (w := W2.drew) (q6.block _ g2.lt (by simp; omega))).trans r2
  refine hK _ _ ⟨hS1, ?_⟩
  clear hK K hct hS0
  refine wtp 15 (.pointer (some ⟨g, k + B.length, none⟩)) rfl (fun _ _ _ h => h) (Or.inl ⟨by rfl, fun W3 hS => by obtain ⟨hS1, hS2⟩ := hS; go_simp⟩) hS1 ?_
  have hpl := HPL.out
  have hdr : p.drop (k + B.length) = p.getD (k + B.length) 0 :: p.drop (k + B.length + 1) := by
    rw [List.drop_eq_getElem_cons (by omega), List.getD_eq_getElem?_getD, List.getElem?_eq_getElem (by omega)]; rfl
  have q7 : Blk W4 g [] (p.take k ++ row' ++ p.drop (k + B.length)) [] := Blk.split.2 q1
  have hkl : (p.take k).length = k := by rw [List.length_take]; omega
  have r5 := q7.cell (o := 0) rfl (k + B.length) (by simp; omega)
  have r6 := q7.frozen (k + B.length)
  rw [Nat.zero_add] at r5
  refine one_op 16 rfl (fun K hK => ?_)
  have HDR := Lib.hid hdr
  clear hdr hpl
  obtain ⟨z, hz⟩ : ∃ z, z = (p.take k ++ row' ++ p.drop (k + B.length)).getD (k + B.length) 0 := ⟨_, rfl⟩
  rw [← hz] at r5
  clear hz
  have HKL := Lib.hid hkl
  have Q2 := Lib.hid q2
  have Q5 := Lib.hid q5
  clear hkl q2 q5
  go_simp
  refine hK _ _ ⟨?_, ?_⟩
  · clear hK K
    refine ⟨?_, ?_⟩
    · rw [World.cell?_of_block (w := W4) (Below.heap_setCell W4 ⟨g, k + B.length, none⟩ _ _ (by show w.heap.size ≠ g; omega))]; exact hS1.1
    · rw [World.cell?_of_block (w := W4) (Below.heap_setCell W4 ⟨g, k + B.length, none⟩ _ _ (by show s ≠ g; omega))]; exact hS1.2
  clear hK K
  refine wdn ?_
  gi_wp2
  have hpl := HPL.out
  have hkl := HKL.out
  have hdr := HDR.out
  have q2 := Q2.out
  have hset : (p.take k ++ row' ++ p.drop (k + B.length)).set (k + B.length) c = p.take k ++ row' ++ [c] ++ p.drop (k + B.length + 1) := by
    rw [hdr, List.set_append_right _ _ (by simp; omega)]
    have e : k + B.length - (p.take k ++ row').length = 0 := by simp; omega
    rw [e]; simp
  have q8 := q7.set (o := 0) rfl (k + B.length) c (by simp; omega)
  rw [hset, Nat.zero_add] at q8
  have e1 := val_row p k B.length row' c x (val B) (by omega) (H5.out _ (Nat.le_refl _)) q2 Q5.out
  refine ⟨(((KeepsOthers.drew W2).trans (KeepsOthers.of_grownBy q6 (fun j o ej ho => by cases ej; rw [show W2.drew.heap[g]? = _ from h1] at ho; cases ho; rfl))).trans (KeepsOthers.setCell W4 _ _)).from _,
    ⟨p.take k ++ row' ++ [c] ++ p.drop (k + B.length + 1), q8, ?_, ?_, ?_, ?_⟩, ?_, ?_, ?_, ?_⟩
  · simp only [List.length_append, List.length_singleton, List.length_drop]; have := HN.out; omega
  · exact (((h3.take k).append q3).snoc q4).append (h3.drop _)
  · rw [e1, H4.out, val_take_succ, Nat.add_mul, HX.out, Nat.mul_assoc]
  · intro j hj
    have hl3 : (p.take k ++ row' ++ [c]).length = k + B.length + 1 := by simp; omega
    rw [List.getD_eq_getElem?_getD, List.getElem?_append_right (by omega), hl3, List.getElem?_drop, show k + B.length + 1 + (j - (k + B.length + 1)) = j by omega, ← List.getD_eq_getElem?_getD]
    exact H5.out j (by omega)
  · exact boxed_row (Boxed.kept (W := W2.drew) g1 q6 (by simp; omega)) (by omega) _
  · exact boxed_row (Boxed.kept (W := W2.drew) g2 q6 (by simp; omega)) (by omega) _
  · exact boxed_row (Boxed.kept (W := W2.drew) g3 q6 (by simp; omega)) (by omega) _
  · exact (g4.drew.grown q6 (show w.heap.size ≤ W2.heap.size from g4.size) (fun j e => by cases e; omega)).setCell (p := ⟨g, k + B.length, none⟩) (show w.heap.size ≤ g by omega) _
 case done =>
  rintro D W hD ⟨⟨p, h1, h2, h3, h4, h5⟩, g1, g2, g3, g4⟩ hK
  have r2 := g2.cell
  rw [List.take_length] at h4
  have hpl : p.length = N := by have := HN.out; omega
  have hF := h1.fresh (base := w.heap.size) (cap := N) (by omega) (by simp; omega) (small_max (by omega))
  rw [hpl] at hF
  have kt := trim_fresh hF hpl.symm (by omega)
  have hR := hF.trim' hpl.symm h3
  rw [h4] at hR
  clear h4 hpl h2 hba hca hA hB hSA hSB hs hg
  go_wp2_with (go_at_call 112; refine kt.mono ?_; rintro e w' ⟨rfl, rfl⟩)
  refine ⟨by simp, .inl ⟨_, _, rfl, run_takeDeferred hK, ?_⟩⟩
  exact ⟨_, results_tmp rfl _ _ _, _, rfl, hR.left _ hK rfl, below_left _ g4 (by simp at hD; have := HS.out; omega) hK rfl⟩
 case stop =>
  rintro D c W _ h _
  exact h.elim
def sgn (a b : Nat) : Int := if a < b then -1 else if b < a then 1 else 0
theorem compare_int (a b : Nat) (w : World) : Calls Tryz.prog 79 #[.int .i64 a, .int .i64 b] w fun e w' => e = .returned (.int .i64 (sgn a b)) ∧ w' = w := by
 rcases Nat.lt_trichotomy a b with h | h | h
 · have e : sgn a b = -1 := by simp [sgn, h]
   rw [e]
   go_enter Tryz.func79, Tryz.ntmps79
   go_wp2
   go_ret
   exact ⟨rfl, rfl⟩
 · have e : sgn a b = 0 := by simp [sgn, h]
   rw [e]
   have h1 : ¬ a < b := by omega
   have h2 : ¬ b < a := by omega
   clear h
   go_enter Tryz.func79, Tryz.ntmps79
   go_wp2
   go_ret
   exact ⟨rfl, rfl⟩
 · have e : sgn a b = 1 := by simp [sgn, h]; omega
   rw [e]
   have h1 : ¬ a < b := by omega
   go_enter Tryz.func79, Tryz.ntmps79
   go_wp2
   go_ret
   exact ⟨rfl, rfl⟩
theorem compare_u32 (a b : Nat) (w : World) : Calls Tryz.prog 144 #[.int .u32 a, .int .u32 b] w fun e w' => e = .returned (.int .i64 (sgn a b)) ∧ w' = w := by
 rcases Nat.lt_trichotomy a b with h | h | h
 · have e : sgn a b = -1 := by simp [sgn, h]
   rw [e]
   go_enter Tryz.func144, Tryz.ntmps144
   go_wp2
   go_ret
   exact ⟨rfl, rfl⟩
 · have e : sgn a b = 0 := by simp [sgn, h]
   rw [e]
   have h1 : ¬ a < b := by omega
   have h2 : ¬ b < a := by omega
   clear h
   go_enter Tryz.func144, Tryz.ntmps144
   go_wp2
   go_ret
   exact ⟨rfl, rfl⟩
 · have e : sgn a b = 1 := by simp [sgn, h]; omega
   rw [e]
   have h1 : ¬ a < b := by omega
   go_enter Tryz.func144, Tryz.ntmps144
   go_wp2
   go_ret
   exact ⟨rfl, rfl⟩
theorem cmp_step {A B : List Nat} {j : Nat} (hA : Sm A) (hB : Sm B) (h : A.getD j 0 ≠ B.getD j 0) (hhi : ∀ i, j < i → A.getD i 0 = B.getD i 0) (hl : A.length = B.length) (hj : j < A.length) :
   sgn (A.getD j 0) (B.getD j 0) = sgn (val A) (val B) := by
 have e1 := val_split A (j + 1) (by omega)
 have e2 := val_split B (j + 1) (by omega)
 have e3 : A.drop (j + 1) = B.drop (j + 1) := by
   apply List.ext_getElem?
   intro i
   have := hhi (j + 1 + i) (by omega)
   rw [List.getElem?_drop, List.getElem?_drop]
   rw [List.getD_eq_getElem?_getD, List.getD_eq_getElem?_getD] at this
   by_cases hi : j + 1 + i < A.length
   · rw [List.getElem?_eq_getElem hi, List.getElem?_eq_getElem (by omega)] at this ⊢
     simpa using this
   · rw [List.getElem?_eq_none (by omega), List.getElem?_eq_none (by omega)]
 rw [val_take_succ] at e1 e2
 have l1 := val_lt (hA.take j)
 have l2 := val_lt (hB.take j)
 rw [List.length_take, Nat.min_eq_left (by omega)] at l1 l2
 rw [e3] at e1
 generalize val (B.drop (j + 1)) = Z at *
 generalize val (A.take j) = x at *
 generalize val (B.take j) = y at *
 generalize A.getD j 0 = p at *
 generalize B.getD j 0 = q at *
 generalize 4294967296 ^ (j + 1) * Z = R at *
 generalize 4294967296 ^ j = P at *
 rcases Nat.lt_or_gt_of_ne h with h | h
 · have := Nat.mul_le_mul_left P (show p + 1 ≤ q by omega)
   rw [Nat.mul_add, Nat.mul_one] at this
   simp [sgn, h, show val A < val B by omega]
 · have := Nat.mul_le_mul_left P (show q + 1 ≤ p by omega)
   rw [Nat.mul_add, Nat.mul_one] at this
   simp [sgn, h, show val B < val A by omega, show ¬ p < q by omega, show ¬ val A < val B by omega]
theorem cmp_len {A B : List Nat} (hA : Sm A) (hB : Sm B) (ha : chk A = true) (hb : chk B = true) (h : A.length ≠ B.length) : sgn A.length B.length = sgn (val A) (val B) := by
 rcases Nat.lt_or_gt_of_ne h with h | h
 · have := le_of_length_lt hA hB hb h
   simp [sgn, h, this]
 · have := le_of_length_lt hB hA ha h
   simp [sgn, h, this, show ¬ A.length < B.length by omega, show ¬ val A < val B by omega]
theorem cmp_same {A B : List Nat} (hl : A.length = B.length) (h : ∀ i, A.getD i 0 = B.getD i 0) : sgn (val A) (val B) = 0 := by
 have : A = B := by
  apply List.ext_getElem hl
  intro i h1 h2
  have := h i
  rw [List.getD_eq_getElem?_getD, List.getD_eq_getElem?_getD, List.getElem?_eq_getElem h1, List.getElem?_eq_getElem h2] at this
  simpa using this
 rw [this]; simp [sgn]
def CmpInv (w : World) (A B : List Nat) (va vb : Value) (k : Nat) (W : World) : Prop :=
 (∀ i, A.length - k ≤ i → A.getD i 0 = B.getD i 0) ∧ Boxed W w.heap.size 40 vb ∧ Boxed W (w.heap.size + 1) 3 (.int .i64 0) ∧ Boxed W (w.heap.size + 1 + 1) 40 va ∧ Below w.heap.size w W
def CmpEnd (w : World) (A B : List Nat) (c : Code) (W : World) : Prop := c = .ret ∧ Boxed W (w.heap.size + 1) 3 (.int .i64 (sgn (val A) (val B))) ∧ Below w.heap.size w W
theorem cmp_any {w : World} {va vb : Value} {la lb : List Nat} (ha : Reads w va la) (hb : Reads w vb lb) (hla : la.length ≤ 100000) (hlb : lb.length ≤ 100000) (hsa : Sm la) (hsb : Sm lb) :
   Calls Tryz.prog 108 #[va, vb] w fun e w' => e = .returned (.int .i64 (sgn (nv la) (nv lb))) ∧ Below w.heap.size w w' := by
 have k1 : ∀ W, Below w.heap.size w W → _ := fun W hW => orZero_any (ha.below hW) (by omega)
 have k2 : ∀ W, Below w.heap.size w W → _ := fun W hW => orZero_any (hb.below hW) (by omega)
 have hA := orzV_reads ha
 have hB := orzV_reads hb
 obtain ⟨a1, c1, e1⟩ := hA.form
 obtain ⟨b1, d1, e2⟩ := hB.form
 rw [e1] at k1 hA
 rw [e2] at k2 hB
 have hlA : (orz la).length ≤ 100000 := Nat.le_trans (orz_length la) hla
 have hlB : (orz lb).length ≤ 100000 := Nat.le_trans (orz_length lb) hlb
 have hSA := sm_orz hsa
 have hSB := sm_orz hsb
 have hCA := chk_orz la
 have hCB := chk_orz lb
 rw [← val_orz la, ← val_orz lb]
 generalize orz la = A at *
 generalize orz lb = B at *
 obtain ⟨x1, x2, rfl⟩ := ha.form
 obtain ⟨y1, y2, rfl⟩ := hb.form
 clear ha hb e1 e2 hla hlb hsa hsb
 refine (callsIn_wide (n := 0)).1 ?_
 refine callsIn_of_wp_marks Tryz.func108 rfl trivial ?_ rfl
 simp only [Tryz.ntmps108, List.size_toArray, List.length_cons, List.length_nil, Nat.reduceAdd, Nat.reduceSub, Array.replicate_succ, Array.replicate_zero, List.push_toArray, List.append_toArray, List.nil_append, List.cons_append]
 refine wpIn_wide.2 ?_
 go_wp2_with fail
 refine (wpIn_wide (n := 0)).1 ?_
 refine region_tail_in Lets.wide 4 (by kernel_rfl) (by kernel_rfl) ?_
 simp only [List.take_succ_cons, List.take_zero, List.drop_succ_cons, List.drop_zero]
 have hb0 : Below w.heap.size w ((w.alloc (.cells #[.slice y1 lb.length y2] 40)).alloc (.cells #[.int .i64 0] 3)).drew := (((Below.refl _ w).alloc (Nat.le_refl _) _).alloc (by simp) _).drew
 still_step
 still_call (k1 _ hb0)
 still_step
 still_call (k2 _ hb0)
 clear k1 k2
 refine wpStill_nil ?_
 gi_wp2
 by_cases hl : A.length = B.length
 rotate_left
 · have k3 := fun W => flip (compare_int A.length B.length W)
   rw [cmp_len hSA hSB hCA hCB hl] at k3
   have hz : ((sgn (val A) (val B)) != 0) = true := by
     rw [← cmp_len hSA hSB hCA hCB hl]
     rcases Nat.lt_or_gt_of_ne hl with h | h
     · simp [sgn, h]
     · simp [sgn, h, show ¬ A.length < B.length by omega]
   obtain ⟨z, hze⟩ : ∃ z, z = sgn (val A) (val B) := ⟨_, rfl⟩
   rw [← hze] at k3 hz
   have HZ := Lib.hid hze
   clear hze hA hB hSA hSB hCA hCB hl
   go_wp2_with (go_at_call 79; refine (k3 _).mono ?_; rintro e w' ⟨rfl, rfl⟩)
   refine ⟨.int .i64 z, ?_, by rw [HZ.out], ?_⟩
   · simp [results, Tryz.f108, go_sem]
   · exact ((((Below.refl _ w).alloc (Nat.le_refl _) _).alloc (by simp) _)).drew
 · have k3 := fun W => flip (compare_int A.length B.length W)
   rw [show sgn A.length B.length = 0 by simp [sgn, hl]] at k3
   obtain ⟨ba, oa, hba, hca⟩ := hA.addr
   obtain ⟨bb, ob, hbb, hcb⟩ := hB.addr
   have HL := Lib.hid hl
   clear hl
   go_wp2_with (first
     | (go_at_call 79; refine (k3 _).mono ?_; rintro e w' ⟨rfl, rfl⟩)
     | (go_at_call 143; refine (back_any _ _ _ _).mono ?_; rintro e w' ⟨rfl, rfl⟩))
   clear k3
   refine (wpIn_wide (n := 0)).1 ?_
   refine wp_rangeAt (gf := 167) rfl (enters_of Tryz.func167 (by kernel_rfl) rfl)
     (back_iter A.length ba oa c1 (w.heap.size + 1 + 1) a1 (fun j => A.getD j 0) (by omega) (fun h => (hba h).1)) (fun _ => rfl)
     (CmpInv w A B (.slice a1 A.length c1) (.slice b1 B.length d1)) (CmpEnd w A B) ?own ?ownx ?reads ?start ?round ?done ?stop
   case own =>
     rintro k W W' row ⟨h1, h2, h3, h4, h5⟩ hg hr
     exact ⟨h1, keepBox h2 hg hr, keepBox h3 hg hr, keepBox h4 hg hr, keepBelow h5 (Nat.le_refl _) (by simp; omega) hg hr⟩
   case ownx =>
     rintro c W W' row ⟨h1, h2, h3⟩ hg hr
     exact ⟨h1, keepBox h2 hg hr, keepBelow h3 (Nat.le_refl _) (by simp; omega) hg hr⟩
   case reads =>
     rintro k W ⟨h1, h2, h3, h4, h5⟩
     exact ⟨h4.cell, fun hk => (h5.cell (p := ⟨ba, oa + (A.length - 1 - k), none⟩) (hba (by omega)).2).trans (hca _ (by omega))⟩
   case start =>
     have hl := HL.out
     refine ⟨fun i hi => ?_, ((Boxed.new w _ _).alloc _).alloc _, (boxed_new1 w _ _ _).alloc _, boxed_new2 w _ _ _ _, ((((Below.refl _ w).alloc (Nat.le_refl _) _).alloc (by simp) _).alloc (by simp; omega) _).drew⟩
     rw [List.getD_eq_getElem?_getD, List.getD_eq_getElem?_getD, List.getElem?_eq_none (by omega), List.getElem?_eq_none (by omega)]
   case round =>
     intro l k W hk
     obtain ⟨j, hj⟩ : ∃ j, j = A.length - 1 - k := ⟨_, rfl⟩
     have hjl : j < A.length := by omega
     have hx := hSA.getD j
     have hy := hSB.getD j
     have hl := HL.out
     have hbby := (hbb (by omega)).1
     have hbbl := (hbb (by omega)).2
     have hcy := hcb j (by omega)
     have hjb : j < B.length := by omega
     obtain ⟨x, hxe⟩ : ∃ x, x = A.getD j 0 := ⟨_, rfl⟩
     obtain ⟨y, hye⟩ : ∃ y, y = B.getD j 0 := ⟨_, rfl⟩
     dsimp only
     rw [← hj, ← hxe]
     rw [← hxe] at hx
     rw [← hye] at hy hcy
     have HX := Lib.hid hxe
     have HY := Lib.hid hye
     have HJ := Lib.hid hj
     have HBB := Lib.hid hbby
     have hSA' := Lib.hid hSA
     have hSB' := Lib.hid hSB
     clear hxe hye hA hB hSA hSB hj hba hbb hca hcb hl hbby
     gi_wp2
     refine NextRound.mk ?_
     rintro W2 ⟨hall, h2, h3, h4, h5⟩
     have hall' := Lib.hid hall
     rw [HBB.out] at h2
     have r1 := h2.cell
     have r2 := h3.cell
     have r3 := h3.frozen
     have r4 : W2.cell? ⟨bb, ob + j, none⟩ = some (.int .u32 y) := (h5.cell (p := ⟨bb, ob + j, none⟩) hbbl).trans hcy
     by_cases hxy : x = y
     · have hq : ((x : Int) != (y : Int)) = false := by simp [hxy]
       have HXY := Lib.hid hxy
       clear hall hxy
       gi_wp2
       refine ⟨KeepsFrom.refl _ _, fun i hi => ?_, by rw [HBB.out]; exact h2, h3, h4, h5⟩
       by_cases hij : i = j
       · subst hij; rw [← HX.out, ← HY.out]; exact HXY.out
       · exact hall'.out i (by have := HJ.out; omega)
     · have hq : ((x : Int) != (y : Int)) = true := by simp; omega
       have hs : sgn x y = sgn (val A) (val B) := by
         rw [HX.out, HY.out]
         exact cmp_step hSA'.out hSB'.out (by rw [← HX.out, ← HY.out]; exact hxy) (fun i hi => hall i (by have := HJ.out; omega)) HL.out hjl
       have k4 := fun W => flip (compare_u32 x y W)
       rw [hs] at k4
       clear hall hxy hs
       obtain ⟨z, hze⟩ : ∃ z, z = sgn (val A) (val B) := ⟨_, rfl⟩
       rw [← hze] at k4
       have HZ := Lib.hid hze
       clear hze
       gi_wp2_with ((first | refine ⟨trivial, rfl, ?_⟩ | refine ⟨trivial, ?_⟩); gi_at_call 144; refine ((Lets.round l).calls (k4 _)).mono ?_; rintro e w' ⟨rfl, rfl⟩)
       refine ⟨(KeepsOthers.setCell _ _ _).from _, rfl, ?_, h5.setCell (p := ⟨w.heap.size + 1, 0, none⟩) (by simp) _⟩
       rw [← HZ.out]
       exact h3.set _
   case done =>
     rintro D W hD ⟨hall, h2, h3, h4, h5⟩ hK
     have hz : sgn (val A) (val B) = 0 := cmp_same HL.out (fun i => hall i (by omega))
     have r2 := h3.cell
     have r3 := h3.frozen
     have HZ := Lib.hid hz
     clear hall hA hB hz
     go_wp2
     have hK' := heap_box h3 (.int .i64 0) hK rfl
     have h6 := keepBox (M := 0) (h3.set (.int .i64 0)) (grownBy_putObj' _ D (.deferred none)) (offCells_putObj (Nat.zero_le _) hK' rfl)
     refine ⟨by simp, .inl ⟨_, _, rfl, run_takeDeferred hK', ?_⟩⟩
     refine ⟨.int .i64 0, ?_, by rw [HZ.out], below_left _ (h5.setCell (p := ⟨w.heap.size + 1, 0, none⟩) (by simp) _) (by simp at hD; omega) hK' rfl⟩
     have h7 := h6.cell
     simp [results, Tryz.f108, go_sem, h7]
   case stop =>
     rintro D c W hD ⟨rfl, h2, h3⟩ hK
     have h6 := keepBox (M := 0) h2 (grownBy_putObj' _ D (.deferred none)) (offCells_putObj (Nat.zero_le _) hK rfl)
     gi_wp2
     refine ⟨by simp, .inl ⟨_, _, rfl, run_takeDeferred hK, ?_⟩⟩
     refine ⟨_, ?_, rfl, below_left _ h3 (by simp at hD; omega) hK rfl⟩
     have h7 := h6.cell
     simp [results, Tryz.f108, go_sem, h7]
end
end Go.Proofs.YtgmbaamfobhceaaGreat
