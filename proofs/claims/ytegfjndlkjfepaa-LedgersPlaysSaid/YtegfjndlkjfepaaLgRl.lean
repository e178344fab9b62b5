/- Ledgers: the document's ledger: New, Left, Spend, Tick, Find. -/
import Derived.Test.YtegfjndlkjfepaaLgRm
import Derived.Laws.OwnMore
namespace Go.Proofs.Ytegfjndlkjfepaa
open Go Go.Proofs Go.RowKit Go.Shelf
set_option linter.unusedVariables false
set_option linter.unusedSimpArgs false
set_option maxRecDepth 100000

attribute [local go_sem] Oper.semAt_some
def icell (x : Int) : Value := .int .i64 x
def icells (lf : List Int) : List Value := lf.map icell
def ROwn (Q G g : Nat) : Prop := g = Q ∨ g = G
/-- the document's ledger in memory -/
structure RM (w0 W : World) (Q G base : Nat) (la : Value) (ts : List Ten) (lf : List Int) : Prop where
  box : W.heap[Q]? = some (.cells #[la, .slice (some ⟨G, 0, none⟩) ts.length ts.length] 75)
  row : W.heap[G]? = some (.cells (icells lf).toArray 3)
  tens : Tens w0 la ts
  bel : Below w0.heap.size w0 W
  lo : base ≤ Q ∧ base ≤ G
  len : lf.length = ts.length
  may : MayT ts
  left : ∀ (i : Nat) (x : Int), lf[i]? = some x → 0 ≤ x ∧ x ≤ 1073741824
section
variable {w0 W W' : World} {Q G base : Nat} {la : Value} {ts : List Ten} {lf : List Int}
theorem RM.ltQ (h : RM w0 W Q G base la ts lf) : Q < W.heap.size := (Array.getElem?_eq_some_iff.1 h.box).1
theorem RM.ltG (h : RM w0 W Q G base la ts lf) : G < W.heap.size := (Array.getElem?_eq_some_iff.1 h.row).1
theorem RM.blk (h : RM w0 W Q G base la ts lf) {g : Nat} (hg : ROwn Q G g) : base ≤ g ∧ g < W.heap.size := by
  rcases hg with rfl | rfl
  · exact ⟨h.lo.1, h.ltQ⟩
  · exact ⟨h.lo.2, h.ltG⟩
theorem RM.keep (h : RM w0 W Q G base la ts lf) (hk : ∀ g, ROwn Q G g → W'.heap[g]? = W.heap[g]?) (hb : Below w0.heap.size w0 W') : RM w0 W' Q G base la ts lf :=
  ⟨(hk Q (.inl rfl)).trans h.box, (hk G (.inr rfl)).trans h.row, h.tens, hb, h.lo, h.len, h.may, h.left⟩
theorem RM.below (h : RM w0 W Q G base la ts lf) (hb : Below W.heap.size W W') : RM w0 W' Q G base la ts lf :=
  h.keep (fun g hg => hb.block g (h.blk hg).2) (h.bel.trans (hb.mono h.bel.size))
theorem RM.c0 (h : RM w0 W Q G base la ts lf) : W.cell? ⟨Q, 0, none⟩ = some la := by unfold World.cell?; rw [h.box]; rfl
theorem RM.c1 (h : RM w0 W Q G base la ts lf) : W.cell? ⟨Q, 1, none⟩ = some (.slice (some ⟨G, 0, none⟩) ts.length ts.length) := by unfold World.cell?; rw [h.box]; rfl
theorem RM.cx (h : RM w0 W Q G base la ts lf) {i : Nat} {x : Int} (hx : lf[i]? = some x) : W.cell? ⟨G, i, none⟩ = some (.int .i64 x) := by
  unfold World.cell?
  rw [h.row]
  simp [icells, hx, icell]
theorem RM.fx (h : RM w0 W Q G base la ts lf) (i : Nat) : W.frozen? ⟨G, i, none⟩ = false := by unfold World.frozen?; rw [h.row]; simp
theorem RM.neQ (h : RM w0 W Q G base la ts lf) : Q ≠ G := fun e => by
  have h1 := h.box
  rw [e, h.row] at h1
  simp only [Option.some.injEq, Obj.cells.injEq] at h1
  have := h1.2.1
  revert this
  decide
theorem RM.set (h : RM w0 W Q G base la ts lf) {i : Nat} (hi : i < ts.length) {y : Int} (hy : 0 ≤ y ∧ y ≤ 1073741824) (hw : w0.heap.size ≤ G) : RM w0 (W.setCell ⟨G, i, none⟩ (.int .i64 y)) Q G base la ts (lf.set i y) := by
  refine ⟨(heap_setCell_other W _ _ _ h.neQ).trans h.box, ?_, h.tens, h.bel.setCell hw _, h.lo, by rw [List.length_set]; exact h.len, h.may, fun j z hz => ?_⟩
  · rw [heap_setCell_same W G i _ _ (.int .i64 y) h.row]
    congr 2
    unfold icells
    rw [List.map_set]
    simp [icell]
  · by_cases hij : j = i
    · subst hij
      rw [List.getElem?_set_self (by rw [h.len]; exact hi)] at hz
      cases hz
      exact hy
    · rw [List.getElem?_set_ne (fun e => hij e.symm)] at hz
      exact h.left j z hz
end
theorem info_int : (Try.prog.info? 3).map (fun i => (i.zero, i.size, i.bytes)) = some (some (.int .i64 0), 1, 8) := by kernel_rfl
theorem mk_ints (N : Nat) (hN : N ≤ 1000) (W : World) : (Instr.makeSlice 73 (.int .i64 (N : Int)) (.int .i64 (N : Int))).run Try.prog W = .ok (.slice (some ⟨W.heap.size, 0, none⟩) N N) (W.alloc (.cells (icells (List.replicate N 0)).toArray 3)) := by
  obtain ⟨i0, hi, hz0, hz1, hz2⟩ := q_info info_int
  have h := run_make (P := Try.prog) W 73 3 i0 (.int .i64 0) Try.underlying73 hi hz0 .i64 .i64 (N : Int) (N : Int) (by omega) (by omega) (by rw [hz2]; omega) (by omega)
  rw [hz1, Int.toNat_natCast, Nat.mul_one] at h
  have e : madeCells (Value.int .i64 0).cells N = (icells (List.replicate N 0)).toArray := by
    apply Array.toList_inj.1
    show (madeCells #[Value.int .i64 0] N).toList = _
    rw [toList_madeCells_one]
    simp [icells, icell]
  rw [e] at h
  exact h
section
variable {w0 W : World} {Q G base : Nat} {la : Value} {ts : List Ten} {lf : List Int}
set_option maxHeartbeats 4000000 in
theorem rnew_no {v : Value} (h : Tens W v ts) (hm : ¬ MayT ts) (hsz : ∀ t ∈ ts, t.n.size ≤ maxLen) : Calls Try.prog 20 #[v] W fun e W' => e = .returned (.tuple #[.pointer none, .int .i64 1]) ∧ Below W.heap.size W W' := by
  obtain ⟨a, c, rfl, hc, hrow⟩ := h
  have K := Lib.hid (rmay_any (W := W) ⟨a, c, rfl, hc, hrow⟩ rfl hsz)
  clear hrow hsz
  go_enter Try.func20, Try.ntmps20
  go_wp2_with fail
  refine K.out.mono ?_
  rintro e w1 ⟨b, rfl, hb, b1⟩
  cases b with
  | true => exact absurd (hb.1 rfl) hm
  | false =>
    go_wp2
    go_ret2
    exact ⟨rfl, b1⟩
set_option maxHeartbeats 4000000 in
theorem rnew_yes {v : Value} (h : Tens W v ts) (hm : MayT ts) (hsz : ∀ t ∈ ts, t.n.size ≤ maxLen) (hw : Tens w0 v ts) (hb0 : Below w0.heap.size w0 W) : Calls Try.prog 20 #[v] W fun e W' => ∃ Q G, e = .returned (.tuple #[.pointer (some ⟨Q, 0, none⟩), .int .i64 0]) ∧ RM w0 W' Q G W.heap.size v ts (List.replicate ts.length 0) ∧ Below W.heap.size W W' := by
  have HW := Lib.hid hw
  obtain ⟨a, c, rfl, hc, hrow⟩ := h
  obtain ⟨N, hN⟩ : ∃ N, N = ts.length := ⟨_, rfl⟩
  have K := Lib.hid (rmay_any (W := W) ⟨a, c, rfl, hc, hrow⟩ rfl hsz)
  have HN := Lib.hid hN
  have HM := Lib.hid hm
  have HB0 := Lib.hid hb0
  rw [← hN] at HW ⊢
  rw [← hN] at K
  have hmk := mk_ints N (by have := hm.few; omega)
  clear hrow hc hN hm hsz hw hb0
  go_enter Try.func20, Try.ntmps20
  go_wp2_with fail
  refine K.out.mono ?_
  rintro e w1 ⟨b, rfl, hb, b1⟩
  have B1 := Lib.hid b1
  cases b with
  | false => have := hb.2 HM.out; cases this
  | true =>
    clear hb b1
    go_wp2
    go_ret2
    have hb2 := (B1.out.alloc B1.out.size (.cells (icells (List.replicate N 0)).toArray 3))
    refine ⟨_, w1.heap.size, rfl, ⟨by rw [← HN.out]; have h9 := heap_alloc_new (w1.alloc (.cells (icells (List.replicate N 0)).toArray 3)) (.cells #[.slice a N c, .slice (some ⟨w1.heap.size, 0, none⟩) N N] 75); rw [World.size_alloc] at h9; exact h9, ?_, HW.out, ?_, ?_, by rw [HN.out]; simp, HM.out, fun i x hx => ?_⟩, ?_⟩
    · rw [Below.heap_alloc _ _ _ (by simp)]
      exact heap_alloc_new w1 _
    · exact (HB0.out.trans (B1.out.mono HB0.out.size)).trans ((((Below.refl _ _).alloc (Nat.le_refl _) _).alloc (by simp) _).mono (Nat.le_trans HB0.out.size B1.out.size))
    · have := B1.out.size
      exact ⟨by omega, this⟩
    · rw [List.getElem?_replicate] at hx
      split at hx
      · cases hx; omega
      · cases hx
    · exact (B1.out.alloc B1.out.size _).alloc (Nat.le_trans B1.out.size (by simp)) _
theorem RM.form (h : RM w0 W Q G base la ts lf) : ∃ b off c, la = .slice (some ⟨b, off, none⟩) ts.length c ∧ ∀ (W' : World), Below w0.heap.size w0 W' → ∀ (j : Nat) (t : Ten), ts[j]? = some t → TenAt W' b (off + j * 3) t := by
  obtain ⟨a, c, rfl, hc, hrow⟩ := h.tens
  obtain ⟨b, off, rfl, hb, hcell⟩ := hrow (by have := h.may.few; omega)
  exact ⟨b, off, c, rfl, fun W' hW j t ht => (hcell j t ht).1.below hb hW⟩
set_option maxHeartbeats 4000000 in
theorem rleft_any (h : RM w0 W Q G base la ts lf) {k : Int} : Calls Try.prog 25 #[.pointer (some ⟨Q, 0, none⟩), .int .i64 k] W fun e W' => e = .returned (.tuple #[.int .i64 (leftA ts lf k), .int .i64 (leftE ts k)]) ∧ W = W' := by
  obtain ⟨b, off, c, hla, _⟩ := h.form
  have c0 := h.c0
  have c1 := h.c1
  rw [hla] at c0
  obtain ⟨N, hN⟩ : ∃ N, N = ts.length := ⟨_, rfl⟩
  by_cases hx : 0 ≤ k ∧ k < ts.length
  · obtain ⟨i, rfl⟩ : ∃ i : Nat, k = (i : Int) := ⟨k.toNat, by omega⟩
    have hl := List.getElem?_eq_getElem (l := lf) (i := i) (by rw [h.len]; omega)
    have cx := h.cx hl
    unfold leftA leftE
    rw [if_pos hx, if_pos hx, Int.toNat_natCast, getD_of hl]
    obtain ⟨X, hX⟩ : ∃ X, X = lf[i]'(by rw [h.len]; omega) := ⟨_, rfl⟩
    rw [← hX] at cx ⊢
    have p0 : ¬ (i : Int) < 0 := by omega
    have p1 : (0 : Int) ≤ (i : Int) := by omega
    have p2 : (i : Int) < (N : Int) := by omega
    have p3 : ¬ (N : Int) ≤ (i : Int) := by omega
    rw [← hN] at c0 c1
    clear hx h hl hX hla hN
    go_enter Try.func25, Try.ntmps25
    go_wp2
    go_ret2
    exact ⟨rfl, rfl⟩
  · unfold leftA leftE
    rw [if_neg hx, if_neg hx]
    rw [← hN] at c0 c1 hx
    clear h hla hN
    by_cases hk : k < 0
    · go_enter Try.func25, Try.ntmps25
      go_wp2
      go_ret2
      exact ⟨rfl, rfl⟩
    · have p3 : (N : Int) ≤ k := by omega
      clear hx
      go_enter Try.func25, Try.ntmps25
      go_wp2
      go_ret2
      exact ⟨rfl, rfl⟩
def RSpend (w0 W W' : World) (Q G base : Nat) (la : Value) (ts : List Ten) (lf : List Int) (k n : Int) (e : Ending) : Prop :=
  e = .returned (.int .i64 (spendE ts lf k n)) ∧ RM w0 W' Q G base la ts (spendL ts lf k n) ∧ Kp W W' (ROwn Q G) ∧ Below base W W'
set_option maxHeartbeats 8000000 in
theorem rspend_any (h : RM w0 W Q G base la ts lf) (k n : Int) (hw : w0.heap.size ≤ base) : Calls Try.prog 23 #[.pointer (some ⟨Q, 0, none⟩), .int .i64 k, .int .i64 n] W fun e W' => RSpend w0 W W' Q G base la ts lf k n e := by
  have HR := Lib.hid h
  obtain ⟨b, off, c, hla, _⟩ := h.form
  have c0 := h.c0
  have c1 := h.c1
  rw [hla] at c0
  obtain ⟨N, hN⟩ : ∃ N, N = ts.length := ⟨_, rfl⟩
  have HN := Lib.hid hN
  have refuse : ∀ E, spendE ts lf k n = E → E ≠ 0 → RSpend w0 W W Q G base la ts lf k n (.returned (.int .i64 E)) := fun E hE h0 => ⟨by rw [hE], by rw [spendL_err (by rw [hE]; exact h0)]; exact HR.out, Kp.refl, Below.refl _ _⟩
  have RF := Lib.hid refuse
  clear refuse
  by_cases hx : 0 ≤ k ∧ k < ts.length ∧ 0 ≤ n
  · obtain ⟨i, rfl⟩ : ∃ i : Nat, k = (i : Int) := ⟨k.toNat, by omega⟩
    have hl := List.getElem?_eq_getElem (l := lf) (i := i) (by rw [h.len]; omega)
    have cx := h.cx hl
    have fx := h.fx i
    have hr := h.left i _ hl
    have HG := Lib.hid (getD_of hl)
    obtain ⟨X, hX⟩ : ∃ X, X = lf[i]'(by rw [h.len]; omega) := ⟨_, rfl⟩
    rw [← hX] at cx hr HG
    have p0 : ¬ (i : Int) < 0 := by omega
    have p1 : (0 : Int) ≤ (i : Int) := by omega
    have p2 : (i : Int) < (N : Int) := by omega
    have p3 : ¬ (N : Int) ≤ (i : Int) := by omega
    have p4 : ¬ n < 0 := by omega
    have hi : i < ts.length := by omega
    have HI := Lib.hid hi
    rw [← hN] at c0 c1
    clear h hl hX hla hN hi
    by_cases hxn : X < n
    · have HE := Lib.hid (show spendE ts lf (i : Int) n = 3 by unfold spendE; rw [if_pos hx, Int.toNat_natCast, HG.out, if_pos hxn])
      clear hx fx
      go_enter Try.func23, Try.ntmps23
      go_wp2
      go_ret
      exact RF.out 3 HE.out (by decide)
    · have HE := Lib.hid (show spendE ts lf (i : Int) n = 0 by unfold spendE; rw [if_pos hx, Int.toNat_natCast, HG.out, if_neg hxn])
      have ew : IntKind.i64.wrap (X - n) = X - n := IntWalk.i64_in _ (by omega)
      have HS := Lib.hid (HR.out.set HI.out (y := X - n) (by omega) (Nat.le_trans hw HR.out.lo.2))
      clear hx
      go_enter Try.func23, Try.ntmps23
      go_wp2
      have c0' : W.drew.cell? ⟨Q, 0, none⟩ = some (.slice (some ⟨b, off, none⟩) N c) := c0
      have c1' : W.drew.cell? ⟨Q, 1, none⟩ = some (.slice (some ⟨G, 0, none⟩) N N) := c1
      have cx' : W.drew.cell? ⟨G, i, none⟩ = some (.int .i64 X) := cx
      have fx' : W.drew.frozen? ⟨G, i, none⟩ = false := fx
      go_region_with (fail)
      all_goals
        go_wp2
        go_ret
        refine ⟨by rw [HE.out]; rfl, ?_, ⟨by show W.heap.size ≤ (W.setCell ⟨G, i, none⟩ (.int .i64 (X - n))).heap.size; simp [World.setCell], fun g _ hn => heap_setCell_other W _ g _ (fun e => hn (.inr e))⟩, ((Below.refl base W).setCell HR.out.lo.2 _).drew⟩
        unfold spendL
        rw [if_pos HE.out, Int.toNat_natCast, HG.out]
        exact HS.out.keep (fun g hg => rfl) HS.out.bel.drew
  · have HE := Lib.hid (show spendE ts lf k n = 1 by unfold spendE; rw [if_neg hx])
    rw [← hN] at c0 c1 hx
    clear h hla hN
    by_cases hk : k < 0
    · go_enter Try.func23, Try.ntmps23
      go_wp2
      go_ret
      exact RF.out 1 HE.out (by decide)
    · by_cases hk2 : (N : Int) ≤ k
      · clear hx
        go_enter Try.func23, Try.ntmps23
        go_wp2
        go_ret
        exact RF.out 1 HE.out (by decide)
      · have p5 : n < 0 := by omega
        clear hx
        go_enter Try.func23, Try.ntmps23
        go_wp2
        go_ret
        exact RF.out 1 HE.out (by decide)
end
end Go.Proofs.Ytegfjndlkjfepaa
