/- Lehmer's steps, as the program makes them of two heads. -/
import Derived.Laws.Rows
import Derived.Test.YtgmbaamfobhceaaGreatGCmp
import Derived.Test.YtgmbaamfobhceaaGreatGMathG
set_option linter.unusedSimpArgs false
set_option linter.unusedVariables false
set_option maxRecDepth 100000
set_option maxHeartbeats 4000000
namespace Go.Proofs.YtgmbaamfobhceaaGreat
open Go Go.Proofs Go.RowKit Go.Shelf Nu
attribute [local go_sem] Oper.semAt_some
def BoxN (W : World) (B : Nat) (t : TypeId) (cs : Array Value) : Prop := W.heap[B]? = some (.cells cs t (0, 0))
section
variable {W W' : World} {B : Nat} {t : TypeId} {cs : Array Value}
theorem BoxN.new (W : World) (t : TypeId) (cs : Array Value) : BoxN (W.alloc (.cells cs t)) W.heap.size t cs := World.alloc_heap_new W _
theorem BoxN.new1 (W : World) (o : Obj) (t : TypeId) (cs : Array Value) : BoxN ((W.alloc o).alloc (.cells cs t)) (W.heap.size + 1) t cs := by
 have := BoxN.new (W.alloc o) t cs; rwa [World.size_alloc] at this
theorem BoxN.new2 (W : World) (o o1 : Obj) (t : TypeId) (cs : Array Value) : BoxN (((W.alloc o).alloc o1).alloc (.cells cs t)) (W.heap.size + 1 + 1) t cs := by
 have := BoxN.new1 (W.alloc o) o1 t cs; rwa [World.size_alloc] at this
theorem BoxN.lt (h : BoxN W B t cs) : B < W.heap.size := (Array.getElem?_eq_some_iff.1 h).1
theorem BoxN.alloc (h : BoxN W B t cs) (o : Obj) : BoxN (W.alloc o) B t cs := (Below.heap_alloc W o B h.lt).trans h
theorem BoxN.below (h : BoxN W B t cs) (hb : Below W.heap.size W W') : BoxN W' B t cs := (hb.block B h.lt).trans h
theorem BoxN.drewN (h : BoxN W B t cs) (n : Nat) : BoxN (W.drewN n) B t cs := h
theorem BoxN.cell (h : BoxN W B t cs) (o : Nat) (v : Value) (hv : cs[o]? = some v) : W.cell? ⟨B, o, none⟩ = some v := by
 unfold World.cell?; rw [show W.heap[B]? = _ from h]; exact hv
theorem BoxN.fr (h : BoxN W B t cs) (o : Nat) : W.frozen? ⟨B, o, none⟩ = false := by
 unfold World.frozen?; rw [show W.heap[B]? = _ from h]; simp
theorem BoxN.set (h : BoxN W B t cs) (o : Nat) (v : Value) : BoxN (W.setCell ⟨B, o, none⟩ v) B t (cs.setIfInBounds o v) := by
 obtain ⟨hlt, hk⟩ := Array.getElem?_eq_some_iff.1 h
 show (W.heap.modify B _)[B]? = _
 rw [Array.getElem?_eq_getElem (by rw [Array.size_modify]; exact hlt), Array.getElem_modify_self, hk]
 rfl
theorem BoxN.other (h : BoxN W B t cs) {B' o : Nat} (hne : B ≠ B') (v : Value) : BoxN (W.setCell ⟨B', o, none⟩ v) B t cs :=
 (Below.heap_setCell W ⟨B', o, none⟩ v B hne).trans h
end
theorem ret_boxN {fn : Func} {p : Tmp} {ty t : TypeId} {R : Ending → World → Prop} {a : Act} {w : World} {B : Nat} {cs : Array Value} {fs : Array Field} (h : fn.results = #[.cell p ty]) (hp : a.tmps.getD p undef = .pointer (some ⟨B, 0, none⟩)) (hg : BoxN w B t cs)
    (hu : Tryz.prog.underlying ty = some (.struct fs)) (hi : (Tryz.prog.info? ty).map (·.size) = some cs.size) (hde : a.defers = []) (hR : R (.returned (.agg cs)) w) : bodyPost Tryz.prog fn R .ret a w :=
  bodyPost_ret (results_cell_row h _ _ B t cs (0, 0) (.struct fs) hp hg hu rfl hi) hde hR
theorem size_steps : (Tryz.prog.info? 158).map (·.size) = some 5 := by kernel_rfl
def StepsInv (ha hb A B u0 u1 u2 v0 v1 v2 : Nat) (ev : Bool) : Prop := LS ha hb A B u1 u2 v1 v2 ev ∧ (v0 = 0 ∨ Made ha hb u0 u1 v0 v1 ev)
def StepsAns (ga gb : Nat) (w : World) (e : Ending) (w' : World) : Prop :=
 ∃ (u0 v0 u1 v1 : Nat) (ev : Bool), e = .returned (.agg #[.int .u32 u0, .int .u32 v0, .int .u32 u1, .int .u32 v1, .bool ev]) ∧ u0 < 4294967296 ∧ v0 < 4294967296 ∧ u1 < 4294967296 ∧ v1 < 4294967296 ∧ (v0 = 0 ∨ Made ga gb u0 u1 v0 v1 ev) ∧ Below w.heap.size w w'
theorem stepsOf_any {w : World} {ga gb : Nat} (hh : ga < 18446744073709551616) (hle : gb ≤ ga) :
  Calls Tryz.prog 145 #[.int .u64 ga, .int .u64 gb] w (StepsAns ga gb w) := by
 have S0 : ∃ ev : Bool, ev = false ∧ StepsInv ga gb ga gb 0 1 0 0 0 1 ev := ⟨false, rfl, LS.start hle, .inl rfl⟩
 obtain ⟨ev0, hev, hS0⟩ := S0
 go_enter Tryz.func145, Tryz.ntmps145
 go_wp2
 go_loopw [0, 1, 7] (fun x y z wr => ∃ (A B u0 u1 u2 v0 v1 v2 : Nat) (ev : Bool), x = .int .u64 A ∧ y = .int .u64 B ∧ z = .bool ev ∧ A < 18446744073709551616 ∧ B ≤ A ∧ u0 < 4294967296 ∧ v0 < 4294967296 ∧ u1 < 4294967296 ∧ v1 < 4294967296 ∧ u2 < 18446744073709551616 ∧ v2 < 18446744073709551616 ∧
  Hid (StepsInv ga gb A B u0 u1 u2 v0 v1 v2 ev) ∧ BoxN wr w.heap.size 158 #[.int .u32 0, .int .u32 0, .int .u32 0, .int .u32 0, .bool false] ∧
  BoxN wr (w.heap.size + 1) 170 #[.int .u64 u0, .int .u64 u1, .int .u64 u2] ∧ BoxN wr (w.heap.size + 1 + 1) 170 #[.int .u64 v0, .int .u64 v1, .int .u64 v2] ∧ Below w.heap.size w wr) (fun _ y _ _ => (intOf y).toNat)
 case atStart =>
  have X0 := (((BoxN.new w 158 #[.int .u32 0, .int .u32 0, .int .u32 0, .int .u32 0, .bool false]).alloc (.cells #[.int .u64 0, .int .u64 1, .int .u64 0] 170)).alloc (.cells #[.int .u64 0, .int .u64 0, .int .u64 1] 170))
  have U0 := (BoxN.new1 w (.cells #[.int .u32 0, .int .u32 0, .int .u32 0, .int .u32 0, .bool false] 158) 170 #[.int .u64 0, .int .u64 1, .int .u64 0]).alloc (.cells #[.int .u64 0, .int .u64 0, .int .u64 1] 170)
  have V0 := BoxN.new2 w (.cells #[.int .u32 0, .int .u32 0, .int .u32 0, .int .u32 0, .bool false] 158) (.cells #[.int .u64 0, .int .u64 1, .int .u64 0] 170) 170 #[.int .u64 0, .int .u64 0, .int .u64 1]
  exact ⟨ga, gb, 0, 1, 0, 0, 0, 1, false, rfl, rfl, rfl, hh, hle, by omega, by omega, by omega, by omega, by omega, by omega, Lib.hid (hev ▸ hS0), X0, U0, V0, (((Below.refl w.heap.size w).alloc (Nat.le_refl _) _).alloc (by simp) _).alloc (by simp; omega) _⟩
 case round =>
  obtain ⟨A, B, u0, u1, u2, v0, v1, v2, ev, rfl, rfl, rfl, hA, hBA, hu0, hv0, hu1, hv1, hu2, hv2, HS, X, U, V, hb⟩ := hrel
  have x0 := X.cell 0 _ rfl
  have x1 := X.cell 1 _ rfl
  have x2 := X.cell 2 _ rfl
  have x3 := X.cell 3 _ rfl
  have x4 := X.cell 4 _ rfl
  have xf0 := X.fr 0; have xf1 := X.fr 1; have xf2 := X.fr 2; have xf3 := X.fr 3; have xf4 := X.fr 4
  have c0 := U.cell 0 _ rfl
  have c1 := U.cell 1 _ rfl
  have c2 := U.cell 2 _ rfl
  have cf0 := U.fr 0; have cf1 := U.fr 1; have cf2 := U.fr 2
  have d0 := V.cell 0 _ rfl
  have d1 := V.cell 1 _ rfl
  have d2 := V.cell 2 _ rfl
  have df0 := V.fr 0; have df1 := V.fr 1; have df2 := V.fr 2
  clear hS0 hev
  have w0 := w32_of u0 hu0
  have w1 := w32_of v0 hv0
  have w2 := w32_of u1 hu1
  have w3 := w32_of v1 hv1
  have hs := HS.out.1
  by_cases hc1 : v2 ≤ B
  · have i1 : (v2 : Int) ≤ (B : Int) := by omega
    have hB1 : 1 ≤ B := Nat.le_trans hs.2.2.2.2.2.1 hc1
    obtain ⟨s1, s2⟩ := hs.small hh hc1
    have hvv : v1 + v2 < 18446744073709551616 := by omega
    by_cases hc2 : v1 + v2 ≤ A - B
    · have i2 : (v1 : Int) + (v2 : Int) ≤ (A : Int) - (B : Int) := by omega
      have hm := hs.made hc1 hc2
      have hst := hs.step hB1
      obtain ⟨n1, n2, n3, n4, n5⟩ := hs.next_small hB1
      have hrB := Nat.mod_lt A (show B > 0 by omega)
      have eq : (A : Int) / (B : Int) = ((A / B : Nat) : Int) := (Int.natCast_ediv A B).symm
      have er : (A : Int) % (B : Int) = ((A % B : Nat) : Int) := (Int.natCast_emod A B).symm
      generalize A / B = q at *
      generalize A % B = r at *
      have eP : (q : Int) * (u2 : Int) = ((q * u2 : Nat) : Int) := (Int.natCast_mul q u2).symm
      have eQ : (q : Int) * (v2 : Int) = ((q * v2 : Nat) : Int) := (Int.natCast_mul q v2).symm
      generalize q * u2 = P at *
      generalize q * v2 = Q at *
      have z : ¬ (B : Int) = 0 := by omega
      have bq : q < 18446744073709551616 := by omega
      have bP : P < 18446744073709551616 := by omega
      have bQ : Q < 18446744073709551616 := by omega
      have bP2 : u1 + P < 18446744073709551616 := by omega
      have bQ2 : v1 + Q < 18446744073709551616 := by omega
      have HI : Hid (StepsInv ga gb B r u1 u2 (u1 + P) v1 v2 (v1 + Q) (!ev)) := Lib.hid ⟨hst, hm⟩
      clear hst hm hs HS hc1 hc2 n1 n2 n3 n4 n5 w0 w1 w2 w3 x0 x1 x2 x3 x4 xf0 xf1 xf2 xf3 xf4
      go_wp2
      go_quiet (fail)
      go_wp2
      have tP : ((u1 + P : Nat) : Int) = (u1 : Int) + (P : Int) := by omega
      have tQ : ((v1 + Q : Nat) : Int) = (v1 : Int) + (Q : Int) := by omega
      refine ⟨⟨B, r, u1, u2, u1 + P, v1, v2, v1 + Q, !ev, rfl, (by rw [er]), rfl, by omega, by omega, hu1, hv1, s1, s2, bP2, bQ2, HI, ?_, ?_, ?_, ?_⟩, by simp [intOf]; omega⟩
      · exact ((((((X.drewN _).other (by omega) _).other (by omega) _).other (by omega) _).other (by omega) _).other (by omega) _).other (by omega) _
      · rw [tP]
        exact (((((((U.drewN _).set 0 _).set 1 _).set 2 _)).other (by omega) _).other (by omega) _).other (by omega) _
      · rw [tQ]
        exact (((((((V.drewN _).other (by omega) _).other (by omega) _).other (by omega) _)).set 0 _).set 1 _).set 2 _
      · have hb2 : Below w.heap.size w (wr.drewN nq) := ⟨hb.os, hb.tape, hb.output, hb.size, hb.block⟩
        exact (((((hb2.setCell (p := ⟨w.heap.size + 1, 0, none⟩) (by simp <;> omega) _).setCell (p := ⟨w.heap.size + 1, 1, none⟩) (by simp <;> omega) _).setCell (p := ⟨w.heap.size + 1, 2, none⟩) (by simp <;> omega) _).setCell (p := ⟨w.heap.size + 1 + 1, 0, none⟩) (by simp <;> omega) _).setCell (p := ⟨w.heap.size + 1 + 1, 1, none⟩) (by simp <;> omega) _).setCell (p := ⟨w.heap.size + 1 + 1, 2, none⟩) (by simp <;> omega) _
    · have i2 : ¬ (v1 : Int) + (v2 : Int) ≤ (A : Int) - (B : Int) := by omega
      clear hs hc1 hc2
      go_wp2
      refine ret_boxN rfl rfl (((((X.set 0 _).set 1 _).set 2 _).set 3 _).set 4 _) Tryz.underlying158 size_steps rfl ?_
      exact ⟨u0, v0, u1, v1, ev, rfl, hu0, hv0, hu1, hv1, HS.out.2, ((((hb.setCell (p := ⟨w.heap.size, 0, none⟩) (Nat.le_refl _) _).setCell (p := ⟨w.heap.size, 1, none⟩) (Nat.le_refl _) _).setCell (p := ⟨w.heap.size, 2, none⟩) (Nat.le_refl _) _).setCell (p := ⟨w.heap.size, 3, none⟩) (Nat.le_refl _) _).setCell (p := ⟨w.heap.size, 4, none⟩) (Nat.le_refl _) _⟩
  · have i1 : ¬ (v2 : Int) ≤ (B : Int) := by omega
    clear hs hc1
    go_wp2
    refine ret_boxN rfl rfl (((((X.set 0 _).set 1 _).set 2 _).set 3 _).set 4 _) Tryz.underlying158 size_steps rfl ?_
    exact ⟨u0, v0, u1, v1, ev, rfl, hu0, hv0, hu1, hv1, HS.out.2, ((((hb.setCell (p := ⟨w.heap.size, 0, none⟩) (Nat.le_refl _) _).setCell (p := ⟨w.heap.size, 1, none⟩) (Nat.le_refl _) _).setCell (p := ⟨w.heap.size, 2, none⟩) (Nat.le_refl _) _).setCell (p := ⟨w.heap.size, 3, none⟩) (Nat.le_refl _) _).setCell (p := ⟨w.heap.size, 4, none⟩) (Nat.le_refl _) _⟩
end Go.Proofs.YtgmbaamfobhceaaGreat
