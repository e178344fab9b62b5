/- Ledgers: accounts are opened; what the laws see of a ledger. -/
import Derived.Test.YtegfjndlkjfepaaLgO
namespace Go.Proofs.Ytegfjndlkjfepaa
open Go Go.Proofs Go.RowKit Go.Shelf
set_option linter.unusedVariables false
set_option maxRecDepth 100000

attribute [local go_sem] Oper.semAt_some
/-- an account -/
def acell (t : Ten) (x : Int) : Obj := .cells #[.string t.n, .string t.k, .int .i64 t.r, .int .i64 x] 65
section
variable {W W' : World} {b : Nat} {t : Ten} {x : Int}
theorem ac0 (h : W.heap[b]? = some (acell t x)) : W.cell? ⟨b, 0, none⟩ = some (.string t.n) := by unfold World.cell?; rw [h]; rfl
theorem ac1 (h : W.heap[b]? = some (acell t x)) : W.cell? ⟨b, 1, none⟩ = some (.string t.k) := by unfold World.cell?; rw [h]; rfl
theorem ac2 (h : W.heap[b]? = some (acell t x)) : W.cell? ⟨b, 2, none⟩ = some (.int .i64 t.r) := by unfold World.cell?; rw [h]; rfl
theorem ac3 (h : W.heap[b]? = some (acell t x)) : W.cell? ⟨b, 3, none⟩ = some (.int .i64 x) := by unfold World.cell?; rw [h]; rfl
theorem acf (h : W.heap[b]? = some (acell t x)) (i : Nat) : W.frozen? ⟨b, i, none⟩ = false := by unfold World.frozen?; rw [h]; simp [acell]
theorem acset (h : W.heap[b]? = some (acell t x)) (y : Int) : (W.setCell ⟨b, 3, none⟩ (.int .i64 y)).heap[b]? = some (acell t y) := (heap_setCell_same W b 3 _ _ (.int .i64 y) h).trans rfl
end
theorem acell_inj {t t' : Ten} {x x' : Int} (h : acell t x = acell t' x') : t = t' ∧ x = x' := by
  unfold acell at h
  simp at h
  obtain ⟨⟨h1, h2, h3⟩, h4⟩ := (⟨⟨h.1, h.2.1, h.2.2.1⟩, h.2.2.2⟩ : (t.n = t'.n ∧ t.k = t'.k ∧ t.r = t'.r) ∧ x = x')
  cases t; cases t'
  simp at h1 h2 h3
  exact ⟨by rw [h1, h2, h3], h4⟩
theorem mk_any (n : Int) (w : World) : (Instr.makeMap 55 (some (.int .i64 n))).run Try.prog w = .ok (.map (some w.heap.size)) (w.alloc (.map #[] 0)) := by
  simp [Instr.makeMap, run_underlying Try.underlying55, asInt, asIntOf, Result.andThen]
structure OpI (w W : World) (ts : List Ten) (k : Nat) (bl : Nat → Nat) : Prop where
  bel : Below w.heap.size w W
  map : ∃ D, W.ownsMap Try.prog 3 pR w.heap.size k D ∧ PD D k bl
  acc : ∀ (i : Nat) (t : Ten), i < k → ts[i]? = some t → W.heap[bl i]? = some (acell t 0)
  lo : ∀ i, i < k → w.heap.size < bl i ∧ bl i < W.heap.size
  inj : ∀ i j, i < k → j < k → bl i = bl j → i = j
def OpK (w W : World) (ts : List Ten) (k : Nat) : Prop := ∃ bl, OpI w W ts k bl
theorem within_iff {n m : Int} : within n m = true ↔ 1 ≤ n ∧ n ≤ m := by unfold within; simp
theorem tenB_sizes {t : Ten} (h : tenB t = true) : t.n.size ≤ 32 ∧ t.k.size ≤ 64 ∧ 1 ≤ t.r ∧ t.r ≤ 1073741824 := by
  unfold tenB at h
  simp only [Bool.and_eq_true] at h
  obtain ⟨⟨h1, h2⟩, h3⟩ := h
  have h2 := within_iff.1 h2
  have h3 := within_iff.1 h3
  unfold nameB at h1
  simp only [Bool.and_eq_true, decide_eq_true_eq] at h1
  have := h1.1.1.2
  rw [← size_list] at this
  omega
theorem OpI.step {w W W1 W2 : World} {ts : List Ten} {k : Nat} {bl : Nat → Nat} {t : Ten} {D : DataW Unit} (h : OpI w W ts k bl) (ht : ts[k]? = some t) (hW : Below W.heap.size W W1)  {b : Nat} (hbl : W.heap.size ≤ b) (hbs : b < W1.heap.size) (hac : W1.heap[b]? = some (acell t 0)) (hpd : PD D k bl) (ho : W2.ownsMap Try.prog 3 pR w.heap.size (k + 1) (D.put (.int .i64 (k : Int)) (.lit (.int .i64 (b : Int))))) (hD : Maps.Tidy D) (hg : W1.grownBy W2 (some w.heap.size)) :
    OpI w W2 ts (k + 1) (fun i => if i = k then b else bl i) := by
  have hs := h.bel.size
  have hlw : w.heap.size < W.heap.size := by obtain ⟨D', ho', _⟩ := h.map; exact ho'.lt
  refine ⟨(h.bel.trans (hW.mono hs)).grown hg (Nat.le_trans hs hW.size) (fun j e => by simp at e; omega), ⟨_, ho, hpd.put hD⟩, fun i u hi hu => ?_, fun i hi => ?_, fun i j hi hj e => ?_⟩
  · by_cases hik : i = k
    · subst hik
      rw [ht] at hu
      cases hu
      rw [if_pos rfl]
      rw [hg.block b hbs (by simp; omega)]
      exact hac
    · rw [if_neg hik]
      have hl := h.lo i (by omega)
      rw [hg.block _ (by have := hW.size; omega) (by simp; omega), hW.block _ hl.2]
      exact h.acc i u (by omega) hu
  · by_cases hik : i = k
    · rw [if_pos hik]
      exact ⟨by omega, Nat.lt_of_lt_of_le hbs hg.size⟩
    · rw [if_neg hik]
      have hl := h.lo i (by omega)
      exact ⟨hl.1, by have := hW.size; have := hg.size; omega⟩
  · by_cases hik : i = k
    · by_cases hjk : j = k
      · omega
      · rw [if_pos hik, if_neg hjk] at e
        have := (h.lo j (by omega)).2
        omega
    · by_cases hjk : j = k
      · rw [if_neg hik, if_pos hjk] at e
        have := (h.lo i (by omega)).2
        omega
      · rw [if_neg hik, if_neg hjk] at e
        exact h.inj i j (by omega) (by omega) e
set_option maxHeartbeats 4000000 in
theorem opened_any {W : World} {a : Option Addr} {N c : Nat} {ts : List Ten} (h : Tens W (.slice a N c) ts) (hN : N = ts.length) (hm : MayT ts) :
    Calls Try.prog 36 #[.slice a N c] W fun e W' => e = .returned (.map (some W.heap.size)) ∧ OpK W W' ts N := by
  have HN := Lib.hid hN
  have HR := Lib.hid h
  have HM := Lib.hid hm
  have h16 : N ≤ 16 := by have := hm.few; omega
  clear h hN hm
  have hmk := mk_any
  go_enter Try.func36, Try.ntmps36
  go_wp2
  clear hmk
  go_loopg [11] N (fun g s11 wr => ∃ k : Nat, k + g = N ∧ s11 = .int .i64 (k : Int) ∧ Hid (OpK W wr ts k))
  case atStart => exact ⟨0, by omega, rfl, Lib.hid ⟨fun _ => 0, ⟨(Below.refl _ _).alloc (Nat.le_refl _) _, ⟨_, World.ownsMap_made _ _ _ _, PD.empty _⟩, fun i t hi => by omega, fun i hi => by omega, fun i j hi => by omega⟩⟩⟩
  case round =>
    obtain ⟨k, hk, rfl, HI⟩ := hrel
    by_cases hlt : k < N
    · obtain ⟨bl, hI⟩ := HI.out
      have HB := Lib.hid hI.bel
      obtain ⟨b, off, rfl, hbs, hcell⟩ := HR.out.cells.2.2 (by omega)
      obtain ⟨x, hx⟩ : ∃ x, ts[k]? = some x := ⟨_, List.getElem?_eq_getElem (by have := HN.out; omega)⟩
      obtain ⟨hat, hok⟩ := hcell k x hx
      obtain ⟨c0, c1, c2⟩ := hat.below hbs HB.out
      have n0 : (0 : Int) ≤ (k : Int) := by omega
      have n1 : (k : Int) < (N : Int) := by omega
      have w2 : IntKind.i64.wrap ((k : Int) + 1) = ((k + 1 : Nat) : Int) := IntWalk.i64_in _ (by omega)
      have HX := Lib.hid hx
      have hsz := tenB_sizes (HM.out.each k x hx).1
      have HS := Lib.hid hsz
      have HI2 := Lib.hid hI
      clear hcell hx hok hat hI hsz
      obtain ⟨n, y, r⟩ := x
      go_wp2_with fail
      refine (lown_any ⟨n, y, r⟩ _ (by have := HS.out.1; show n.size ≤ 100; exact Nat.le_trans this (by decide)) (by have := HS.out.2.1; show y.size ≤ 100; exact Nat.le_trans this (by decide))).mono ?_
      rintro e w1 ⟨rfl, b1⟩
      have hM := HI2.out.map
      obtain ⟨D, hown, hpd⟩ := hM
      have bW := ((Below.refl wr.heap.size wr).alloc (Nat.le_refl _) (.cells #[.string n, .string y, .int .i64 r] 32)).trans (b1.mono (by simp))
      have BW := Lib.hid (bW.alloc bW.size (acell ⟨n, y, r⟩ 0))
      have HT := Lib.hid (hown.tidy lawP)
      have own1 : (w1.alloc (acell ⟨n, y, r⟩ 0)).ownsMap Try.prog 3 pR W.heap.size k D := by
        obtain ⟨es, clock, hb, F, hs, hD⟩ := hown
        exact ⟨es, clock, (BW.out.block _ (by have := HI2.out.map; obtain ⟨_, ho', _⟩ := this; exact ho'.lt)).trans hb, F, hs, hD⟩
      have HSZ := Lib.hid bW.size
      clear b1 bW hown
      go_wp2_with (first
        | (at_mapUpdate; refine wpList_mapUpdate_own _ rfl _ _ _ 55 rfl 3 61 lawP Try.underlying55 pR W.heap.size k D rfl own1 (by unfold maxLen; omega) _ _ _ rfl rfl (keyP (by simp [Lit.wf, IntKind.min, IntKind.max, IntKind.signed, IntKind.bits]; omega)) _ [] (pR_mk w1.heap.size) ?_; intro w3 hown3 hg3; go_frame)
        | go_in)
      have HST := Lib.hid (show OpK W w3 ts (k + 1) from ⟨_, HI2.out.step HX.out BW.out HSZ.out (by simp) (heap_alloc_new w1 _) hpd hown3 HT.out hg3⟩)
      clear hg3 hown3 hpd own1
      go_roundg (N - (k + 1))
      case measure => omega
      case rel => exact ⟨k + 1, by omega, by first | rfl | simp, HST⟩
    · have n1 : ¬ (k : Int) < (N : Int) := by omega
      go_wp2
      go_ret
      obtain rfl : k = N := by omega
      exact ⟨rfl, HI.out⟩
/-- the blocks of a ledger -/
def LOwn (P M n : Nat) (bl : Nat → Nat) (b : Nat) : Prop := b = P ∨ b = M ∨ ∃ i, i < n ∧ b = bl i
/-- a ledger in memory: its box at P, its map at M, its accounts -/
structure LM (W : World) (P base M : Nat) (bl : Nat → Nat) (ts : List Ten) (lf : List Int) : Prop where
  box : W.heap[P]? = some (.cells #[.map (some M)] 57)
  map : PMap W M ts.length bl
  acc : ∀ (i : Nat) (t : Ten), ts[i]? = some t → ∃ x, lf[i]? = some x ∧ W.heap[bl i]? = some (acell t x)
  inj : ∀ i j, i < ts.length → j < ts.length → bl i = bl j → i = j
  lo : ∀ b, LOwn P M ts.length bl b → base ≤ b
/-- what the laws see of it: what each may spend; own: its blocks -/
structure LD (W : World) (P base : Nat) (own : Nat → Prop) (ts : List Ten) (lf : List Int) : Prop where
  mem : ∃ M bl, LM W P base M bl ts lf ∧ ∀ b, own b ↔ LOwn P M ts.length bl b
  len : lf.length = ts.length
  may : MayT ts
  left : ∀ (i : Nat) (x : Int), lf[i]? = some x → 0 ≤ x ∧ x ≤ 1073741824
section
variable {W W' : World} {P base : Nat} {own : Nat → Prop} {ts : List Ten} {lf : List Int}
theorem LM.lt {M : Nat} {bl : Nat → Nat} (h : LM W P base M bl ts lf) {b : Nat} (hb : LOwn P M ts.length bl b) : base ≤ b ∧ b < W.heap.size := by
  refine ⟨h.lo b hb, ?_⟩
  rcases hb with rfl | rfl | ⟨i, hi, rfl⟩
  · exact (Array.getElem?_eq_some_iff.1 h.box).1
  · exact h.map.lt
  · obtain ⟨x, _, hx⟩ := h.acc i _ (List.getElem?_eq_getElem hi)
    exact (Array.getElem?_eq_some_iff.1 hx).1
theorem LD.blk (h : LD W P base own ts lf) {b : Nat} (hb : own b) : base ≤ b ∧ b < W.heap.size := by
  obtain ⟨M, bl, hm, ho⟩ := h.mem
  exact hm.lt ((ho b).1 hb)
theorem LD.few (h : LD W P base own ts lf) : 1 ≤ ts.length ∧ ts.length ≤ 16 := h.may.few
theorem LD.rate (h : LD W P base own ts lf) {i : Nat} {t : Ten} (ht : ts[i]? = some t) : 1 ≤ t.r ∧ t.r ≤ 1073741824 := (tenB_sizes (h.may.each i t ht).1).2.2
theorem LM.keep {M : Nat} {bl : Nat → Nat} (h : LM W P base M bl ts lf) (hk : ∀ b, LOwn P M ts.length bl b → W'.heap[b]? = W.heap[b]?) : LM W' P base M bl ts lf :=
  ⟨(hk P (.inl rfl)).trans h.box, h.map.stay (hk M (.inr (.inl rfl))), fun i t ht => by
    obtain ⟨x, hx, hc⟩ := h.acc i t ht
    exact ⟨x, hx, (hk (bl i) (.inr (.inr ⟨i, (List.getElem?_eq_some_iff.1 ht).1, rfl⟩))).trans hc⟩, h.inj, h.lo⟩
theorem LD.keep (h : LD W P base own ts lf) (hk : Kp W W' (fun g => ¬ own g)) : LD W' P base own ts lf := by
  obtain ⟨M, bl, hm, ho⟩ := h.mem
  exact ⟨⟨M, bl, hm.keep fun b hb => hk.2 b (hm.lt hb).2 (fun hn => hn ((ho b).2 hb)), ho⟩, h.len, h.may, h.left⟩
theorem LD.below {B : Nat} (h : LD W P base own ts lf) (hk : Below W.heap.size W W') : LD W' P base own ts lf := h.keep ⟨hk.size, fun b hb _ => hk.block b hb⟩
end
set_option maxHeartbeats 4000000 in
/-- New: of tenants that may not be -/
theorem lnew_no {W : World} {v : Value} {ts : List Ten} (h : Tens W v ts) (hm : ¬ MayT ts) : Calls Try.prog 18 #[v] W fun e W' => e = .returned (.tuple #[.pointer none, .int .i64 1]) ∧ Below W.heap.size W W' := by
  obtain ⟨a, c, rfl, hc, hrow⟩ := h
  have K := Lib.hid (maybe_any (W := W) ⟨a, c, rfl, hc, hrow⟩ rfl)
  clear hrow
  go_enter Try.func18, Try.ntmps18
  go_wp2_with fail
  refine K.out.mono ?_
  rintro e w1 ⟨b, rfl, hb, b1⟩
  cases b with
  | true => exact absurd (hb.1 rfl) hm
  | false =>
    go_wp2
    go_ret2
    exact ⟨rfl, b1⟩
set_option maxHeartbeats 4000000 in
/-- New: of tenants that may be -/
theorem lnew_yes {W : World} {v : Value} {ts : List Ten} (h : Tens W v ts) (hm : MayT ts) : Calls Try.prog 18 #[v] W fun e W' => ∃ P own lf, e = .returned (.tuple #[.pointer (some ⟨P, 0, none⟩), .int .i64 0]) ∧ LD W' P W.heap.size own ts lf ∧ (∀ x ∈ lf, x = 0) ∧ Below W.heap.size W W' := by
  obtain ⟨a, c, rfl, hc, hrow⟩ := h
  obtain ⟨N, hN⟩ : ∃ N, N = ts.length := ⟨_, rfl⟩
  have HT := Lib.hid (show Tens W (.slice a N c) ts from ⟨a, c, by rw [hN], hc, hrow⟩)
  have HN := Lib.hid hN
  have HM := Lib.hid hm
  rw [← hN]
  clear hrow hc hN hm
  go_enter Try.func18, Try.ntmps18
  go_wp2_with fail
  refine (maybe_any HT.out HN.out).mono ?_
  rintro e w1 ⟨b, rfl, hb, b1⟩
  have B1 := Lib.hid b1
  cases b with
  | false => have := hb.2 HM.out; cases this
  | true =>
    clear hb b1
    go_wp2_with fail
    refine (opened_any (HT.out.below B1.out) HN.out HM.out).mono ?_
    rintro e w2 ⟨rfl, hK⟩
    have HK := Lib.hid hK
    clear hK
    go_wp2
    go_ret2
    obtain ⟨bl, hI⟩ := HK.out
    have hbox : (w2.alloc (.cells #[.map (some w1.heap.size)] 57)).heap[w2.heap.size]? = some (.cells #[.map (some w1.heap.size)] 57) := heap_alloc_new w2 _
    have hlt : w1.heap.size < w2.heap.size := by obtain ⟨D', ho', _⟩ := hI.map; exact ho'.lt
    have hb2 : Below W.heap.size W w2 := B1.out.trans (hI.bel.mono B1.out.size)
    have hn := HN.out
    refine ⟨_, LOwn w2.heap.size w1.heap.size ts.length bl, List.replicate ts.length 0, rfl, ⟨⟨w1.heap.size, bl, ⟨hbox, ?_, fun i t ht => ⟨0, ?_, ?_⟩, fun i j hi hj e => hI.inj i j (by omega) (by omega) e, fun b hb => ?_⟩, fun b => Iff.rfl⟩, by simp, HM.out, fun i x hx => ?_⟩, fun x hx => (List.mem_replicate.1 hx).2, hb2.alloc hb2.size _⟩
    · obtain ⟨D, ho, hp⟩ := hI.map
      rw [← hn]
      exact ⟨N, D, by have := HM.out.few; omega, ho.alloc _, hp⟩
    · rw [List.getElem?_replicate, if_pos (List.getElem?_eq_some_iff.1 ht).1]
    · have hi := (List.getElem?_eq_some_iff.1 ht).1
      rw [Below.heap_alloc _ _ _ (hI.lo i (by omega)).2]
      exact hI.acc i t (by omega) ht
    · have := B1.out.size
      rcases hb with rfl | rfl | ⟨i, hi, rfl⟩
      · omega
      · exact this
      · have := (hI.lo i (by omega)).1
        omega
    · rw [List.getElem?_replicate] at hx
      split at hx
      · cases hx; omega
      · cases hx
end Go.Proofs.Ytegfjndlkjfepaa
