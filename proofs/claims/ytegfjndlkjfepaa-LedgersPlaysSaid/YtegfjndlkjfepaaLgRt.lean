/- Ledgers: the document's ledger: Tick, Find. -/
import Derived.Test.YtegfjndlkjfepaaLgRl
namespace Go.Proofs.Ytegfjndlkjfepaa
open Go Go.Proofs Go.RowKit Go.Shelf
set_option linter.unusedVariables false
set_option linter.unusedSimpArgs false
set_option maxRecDepth 100000

attribute [local go_sem] Oper.semAt_some
section
variable {w0 W : World} {Q G base : Nat} {la : Value} {ts : List Ten} {lf : List Int}
structure RtI (w0 W wr : World) (Q G base : Nat) (la : Value) (ts : List Ten) (k : Nat) (lf : List Int) : Prop where
  rm : RM w0 wr Q G base la ts lf
  dn : ∀ (j : Nat) (t : Ten), j < k → ts[j]? = some t → lf[j]? = some t.r
  kp : Kp W wr (ROwn Q G)
  bel : Below base W wr
def RtK (w0 W wr : World) (Q G base : Nat) (la : Value) (ts : List Ten) (k : Nat) : Prop := ∃ lf, RtI w0 W wr Q G base la ts k lf
theorem RtI.step {wr : World} {k : Nat} {t : Ten} (h : RtI w0 W wr Q G base la ts k lf) (ht : ts[k]? = some t) (hw : w0.heap.size ≤ base) : RtK w0 W (wr.setCell ⟨G, k, none⟩ (.int .i64 t.r)).drew Q G base la ts (k + 1) := by
  have hk := (List.getElem?_eq_some_iff.1 ht).1
  have hr := h.rm.may.rates ht
  have hs := h.rm.set hk (y := t.r) (by omega) (Nat.le_trans hw h.rm.lo.2)
  refine ⟨lf.set k t.r, hs.keep (fun g hg => rfl) hs.bel.drew, fun j u hj hu => ?_, ⟨?_, fun g hg hn => (heap_setCell_other wr _ g _ (fun e => hn (.inr e))).trans (h.kp.2 g hg hn)⟩, (h.bel.setCell h.rm.lo.2 _).drew⟩
  · by_cases hjk : j = k
    · subst hjk
      rw [ht] at hu
      cases hu
      rw [List.getElem?_set_self (by rw [h.rm.len]; exact hk)]
    · rw [List.getElem?_set_ne (fun e => hjk e.symm)]
      exact h.dn j u (by omega) hu
  · show W.heap.size ≤ (wr.setCell ⟨G, k, none⟩ (.int .i64 t.r)).heap.size
    simpa [World.setCell] using h.kp.1
def RTick (w0 W W' : World) (Q G base : Nat) (la : Value) (ts : List Ten) (e : Ending) : Prop :=
  e = .returned (.tuple #[]) ∧ RM w0 W' Q G base la ts (ts.map (·.r)) ∧ Kp W W' (ROwn Q G) ∧ Below base W W'
set_option maxHeartbeats 8000000 in
theorem rtick_any (h : RM w0 W Q G base la ts lf) (hw : w0.heap.size ≤ base) : Calls Try.prog 22 #[.pointer (some ⟨Q, 0, none⟩)] W fun e W' => RTick w0 W W' Q G base la ts e := by
  obtain ⟨b, off, c, hla, hcell⟩ := h.form
  have HCL := Lib.hid hcell
  have HLA := Lib.hid hla
  obtain ⟨N, hN⟩ : ∃ N, N = ts.length := ⟨_, rfl⟩
  have HN := Lib.hid hN
  have h16 : N ≤ 16 := by have := h.may.few; omega
  have HI0 := Lib.hid (show RtK w0 W W Q G base la ts 0 from ⟨lf, h, fun j t hj => by omega, Kp.refl, Below.refl _ _⟩)
  clear h hla hcell hN
  have k0 : ((0 : Nat) : Int) = 0 := rfl
  go_enter Try.func22, Try.ntmps22
  go_wp2
  go_loopg [2] N (fun g s2 wr => ∃ k : Nat, k + g = N ∧ s2 = .int .i64 (k : Int) ∧ Hid (RtK w0 W wr Q G base la ts k))
  case atStart => exact ⟨0, by omega, rfl, HI0⟩
  case round =>
    clear k0 HI0
    obtain ⟨k, hk, rfl, HK⟩ := hrel
    obtain ⟨lf', hI⟩ := HK.out
    have HI := Lib.hid hI
    have c0 := hI.rm.c0
    have c1 := hI.rm.c1
    rw [HLA.out] at c0
    rw [← HN.out] at c0 c1
    clear hI
    by_cases hlt : k < N
    · obtain ⟨t, ht⟩ : ∃ t, ts[k]? = some t := ⟨_, List.getElem?_eq_getElem (by have := HN.out; omega)⟩
      obtain ⟨_, _, c2⟩ := HCL.out wr HI.out.rm.bel k t ht
      obtain ⟨x, hx⟩ : ∃ x, lf'[k]? = some x := ⟨_, List.getElem?_eq_getElem (by rw [HI.out.rm.len]; have := HN.out; omega)⟩
      have cx := HI.out.rm.cx hx
      have fx := HI.out.rm.fx k
      have n0 : (0 : Int) ≤ (k : Int) := by omega
      have n1 : (k : Int) < (N : Int) := by omega
      have w2 : IntKind.i64.wrap ((k : Int) + 1) = ((k + 1 : Nat) : Int) := IntWalk.i64_in _ (by omega)
      have HS := Lib.hid (HI.out.step ht hw)
      obtain ⟨R, hR⟩ : ∃ R, R = t.r := ⟨_, rfl⟩
      rw [← hR] at c2 HS
      clear ht hx hR
      go_wp2
      have c0' : wr.drew.cell? ⟨Q, 0, none⟩ = some (.slice (some ⟨b, off, none⟩) N c) := c0
      have c1' : wr.drew.cell? ⟨Q, 1, none⟩ = some (.slice (some ⟨G, 0, none⟩) N N) := c1
      have c2' : wr.drew.cell? ⟨b, off + k * 3 + 2, none⟩ = some (.int .i64 R) := c2
      have cx' : wr.drew.cell? ⟨G, k, none⟩ = some (.int .i64 x) := cx
      have fx' : wr.drew.frozen? ⟨G, k, none⟩ = false := fx
      go_region_with (fail)
      all_goals
        go_wp2
        go_roundg (N - (k + 1))
        case measure => omega
        case rel => exact ⟨k + 1, by omega, by first | rfl | simp, HS⟩
    · have n1 : ¬ (k : Int) < (N : Int) := by omega
      go_wp2
      refine bodyPost_end (results_none rfl _ _ _) rfl ?_
      have el : lf' = ts.map (·.r) := by
        apply List.ext_getElem?
        intro i
        rw [List.getElem?_map]
        cases ht : ts[i]? with
        | none => rw [List.getElem?_eq_none (by rw [HI.out.rm.len]; exact List.getElem?_eq_none_iff.1 ht)]; rfl
        | some t => rw [HI.out.dn i t (by have := (List.getElem?_eq_some_iff.1 ht).1; have := HN.out; omega) ht]; rfl
      subst el
      exact ⟨rfl, HI.out.rm, HI.out.kp, HI.out.bel⟩
set_option maxHeartbeats 8000000 in
theorem rfind_any {nm : ByteArray} (h : RM w0 W Q G base la ts lf) : Calls Try.prog 26 #[.pointer (some ⟨Q, 0, none⟩), .string nm] W fun e W' => e = .returned (findV (findT 0 ts nm)) ∧ Below W.heap.size W W' := by
  obtain ⟨b, off, c, hla, hcell⟩ := h.form
  have HCL := Lib.hid hcell
  have HLA := Lib.hid hla
  obtain ⟨N, hN⟩ : ∃ N, N = ts.length := ⟨_, rfl⟩
  have HN := Lib.hid hN
  have h16 : N ≤ 16 := by have := h.may.few; omega
  obtain ⟨W1, hW1⟩ : ∃ W1, W1 = W.alloc (.cells #[.string ⟨#[]⟩, .string ⟨#[]⟩, .int .i64 0] 32) := ⟨_, rfl⟩
  have hb1 : Below W.heap.size W W1 := by rw [hW1]; exact alloc_below W _
  have hres : W1.heap[W.heap.size]? = some (.cells #[.string ⟨#[]⟩, .string ⟨#[]⟩, .int .i64 0] 32) := by rw [hW1]; exact heap_alloc_new W _
  have HB1 := Lib.hid hb1
  have HM1 := Lib.hid (h.below hb1)
  have HRES := Lib.hid hres
  have hs1 : W.heap.size < W1.heap.size := (Array.getElem?_eq_some_iff.1 hres).1
  obtain ⟨F, hF⟩ : ∃ F, F = findV (findT 0 ts nm) := ⟨_, rfl⟩
  have HF := Lib.hid hF
  rw [← hF]
  clear h hla hcell hN hb1 hres hF
  have k0 : ((0 : Nat) : Int) = 0 := rfl
  go_enter Try.func26, Try.ntmps26
  go_wp2
  rw [← hW1]
  clear hW1
  go_loopg [7] N (fun g s7 wr => ∃ k : Nat, k + g = N ∧ s7 = .int .i64 (k : Int) ∧ Hid (∀ (j : Nat) (x : Ten), j < k → ts[j]? = some x → x.n ≠ nm) ∧ Hid (Below W1.heap.size W1 wr))
  case atStart => exact ⟨0, by omega, rfl, Lib.hid fun j x hj => by omega, Lib.hid (Below.refl _ _)⟩
  case round =>
    clear k0
    obtain ⟨k, hk, rfl, HNO, HW⟩ := hrel
    have HM := Lib.hid (HM1.out.below HW.out)
    have c0 := HM.out.c0
    rw [HLA.out, ← HN.out] at c0
    have HR3 := Lib.hid ((HW.out.block _ hs1).trans HRES.out)
    have d0 : wr.cell? ⟨W.heap.size, 0, none⟩ = some (.string ⟨#[]⟩) := by unfold World.cell?; rw [HR3.out]; rfl
    have d1 : wr.cell? ⟨W.heap.size, 1, none⟩ = some (.string ⟨#[]⟩) := by unfold World.cell?; rw [HR3.out]; rfl
    have d2 : wr.cell? ⟨W.heap.size, 2, none⟩ = some (.int .i64 0) := by unfold World.cell?; rw [HR3.out]; rfl
    have g0 : wr.frozen? ⟨W.heap.size, 0, none⟩ = false := by unfold World.frozen?; rw [HR3.out]; simp
    have g1 : wr.frozen? ⟨W.heap.size, 1, none⟩ = false := by unfold World.frozen?; rw [HR3.out]; simp
    have g2 : wr.frozen? ⟨W.heap.size, 2, none⟩ = false := by unfold World.frozen?; rw [HR3.out]; simp
    have HBB := Lib.hid (HB1.out.trans (HW.out.mono HB1.out.size))
    by_cases hlt : k < N
    · obtain ⟨t, ht⟩ : ∃ t, ts[k]? = some t := ⟨_, List.getElem?_eq_getElem (by have := HN.out; omega)⟩
      obtain ⟨y0, y1, y2⟩ := HCL.out wr HM.out.bel k t ht
      have n0 : (0 : Int) ≤ (k : Int) := by omega
      have n1 : (k : Int) < (N : Int) := by omega
      have w2 : IntKind.i64.wrap ((k : Int) + 1) = ((k + 1 : Nat) : Int) := IntWalk.i64_in _ (by omega)
      have HT := Lib.hid ht
      have hst := str_eq t.n nm
      clear ht
      obtain ⟨n, y, r⟩ := t
      by_cases hq : n = nm
      · have HQ := Lib.hid hq
        have hq2 := decide_eq_true hq
        rw [show ({ n := n, k := y, r := r } : Ten).n = n from rfl, hq2] at hst
        clear hq
        go_wp2
        have e := heap_setCell_same _ W.heap.size 2 _ _ (.int .i64 r) (heap_setCell_same _ W.heap.size 1 _ _ (.string y) (heap_setCell_same wr W.heap.size 0 _ _ (.string n) HR3.out))
        refine bodyPost_ret (results_cell_two rfl _ _ W.heap.size 32 #[.string n, .string y, .int .i64 r] (0, 0) _ rfl (e.trans rfl) Try.underlying32 size_ten) rfl ?_
        refine ⟨?_, ((HBB.out.setCell (by simp) _).setCell (by simp) _).setCell (by simp) _⟩
        rw [HF.out, findT_some ts 0 k HT.out HQ.out HNO.out, Nat.zero_add]
        rfl
      · have HQ := Lib.hid hq
        have hq2 := decide_eq_false hq
        rw [show ({ n := n, k := y, r := r } : Ten).n = n from rfl, hq2] at hst
        clear hq
        go_wp2
        go_roundg (N - (k + 1))
        case measure => omega
        case rel =>
          refine ⟨k + 1, by omega, by first | rfl | simp, Lib.hid fun j z hj hz => ?_, HW⟩
          by_cases hjk : j = k
          · subst hjk
            rw [HT.out] at hz
            cases hz
            exact HQ.out
          · exact HNO.out j z (by omega) hz
    · have n1 : ¬ (k : Int) < (N : Int) := by omega
      go_wp2
      have e := heap_setCell_same _ W.heap.size 2 _ _ (.int .i64 0) (heap_setCell_same _ W.heap.size 1 _ _ (.string ⟨#[]⟩) (heap_setCell_same wr W.heap.size 0 _ _ (.string ⟨#[]⟩) HR3.out))
      refine bodyPost_ret (results_cell_two rfl _ _ W.heap.size 32 #[.string ⟨#[]⟩, .string ⟨#[]⟩, .int .i64 0] (0, 0) _ rfl (e.trans rfl) Try.underlying32 size_ten) rfl ?_
      refine ⟨?_, ((HBB.out.setCell (by simp) _).setCell (by simp) _).setCell (by simp) _⟩
      rw [HF.out, findT_none ts 0 fun j x hj => HNO.out j x (by have := (List.getElem?_eq_some_iff.1 hj).1; have := HN.out; omega) hj]
      rfl
end
end Go.Proofs.Ytegfjndlkjfepaa
