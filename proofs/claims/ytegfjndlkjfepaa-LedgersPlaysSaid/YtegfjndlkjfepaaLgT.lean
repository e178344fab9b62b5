/- Ledgers: a tick. -/
import Derived.Test.YtegfjndlkjfepaaLgP
namespace Go.Proofs.Ytegfjndlkjfepaa
open Go Go.Proofs Go.RowKit Go.Shelf
set_option linter.unusedVariables false
set_option maxRecDepth 100000

attribute [local go_sem] Oper.semAt_some
def mkP (o : Option Nat) : Value := match o with
  | none => .pointer none
  | some b => .pointer (some ⟨b, 0, none⟩)
theorem next_pm (w : World) {ops : Array Oper} {rest : List Oper} {o : Oper} {a : Act} {Q : Exit → Act → World → Prop} (hg : o.guard = none) (it : Operand) (hop : o.op = Op.next it false)
    (M r c n : Nat) (bl : Nat → Nat) (D : DataW Unit) (left : Lit → Bool) (cnt : Nat)
    (hit : a.eval it = .pointer (some ⟨r, 0, none⟩)) (h : w.ranges Try.prog 3 pR M r c D left cnt) (hp : PD D n bl)
    (hDone : cnt = 0 → (∀ kl, left kl = false) → wpList Try.prog ops Q rest (a.put o.dst (.tuple #[.bool false])) w)
    (hMore : ∀ (i : Nat) (w' : World) (cnt' : Nat), i < n → left (.int .i64 (i : Int)) = true → w'.ranges Try.prog 3 pR M r c D (fun z => left z && !z.sameKey (.int .i64 (i : Int))) cnt' → cnt' < cnt →
      w.grownBy w' (some r) → w'.heap.size = w.heap.size → (Instr.entry (.pointer (some ⟨r, 0, none⟩))).run Try.prog w' = .ok (.tuple #[.int .i64 (i : Int), .pointer (some ⟨bl i, 0, none⟩)]) w' → wpList Try.prog ops Q rest (a.put o.dst (.tuple #[.bool true, .int .i64 (i : Int), .pointer (some ⟨bl i, 0, none⟩)])) w') :
    wpList Try.prog ops Q (o :: rest) a w := by
  refine wpList_next_ranges w hg it hop 3 lawP pR (Value.int .i64) mkP (fun key kl hkey => ?_) (fun v y hv => ?_) M r c D left cnt hit h hDone (fun x c' kl y w' cnt' hkey hlk hv hat hrg hlt hgr hsz hen => ?_)
  · obtain ⟨x, rfl, _⟩ := Maps.keyOf_int_inv Try.underlying3 hkey
    exact ⟨x, rfl⟩
  · rcases pR_inv hv with ⟨rfl, _⟩ | ⟨b, rfl, _⟩
    · exact ⟨none, rfl⟩
    · exact ⟨some b, rfl⟩
  · obtain ⟨x', ex, rfl, _⟩ := Maps.keyOf_int_inv Try.underlying3 hkey
    cases ex
    have hh : Maps.has D (.int .i64 x) = true := Maps.has_true_of_atKey hat
    rw [hp.2.1] at hh
    have hx := of_decide_eq_true hh
    obtain ⟨i, rfl⟩ : ∃ i : Nat, x = (i : Int) := ⟨x.toNat, by omega⟩
    have hi : i < n := by omega
    have e := hat .nil
    rw [hp.2.2 i _ hi] at e
    obtain ⟨d, ps⟩ := y
    simp only at e
    subst e
    have ev := pR_at hv
    rw [ev] at hen ⊢
    exact hMore i w' cnt' hi hlk hrg hlt hgr hsz hen
/-- the tick goes on -/
structure TkI (W wr : World) (P base M : Nat) (bl : Nat → Nat) (own : Nat → Prop) (ts : List Ten) (c r : Nat) (D : DataW Unit) (left : Lit → Bool) (cnt : Nat) : Prop where
  rg : wr.ranges Try.prog 3 pR M r c D left cnt
  lm : ∃ lf, LM wr P base M bl ts lf ∧ lf.length = ts.length ∧ ∀ (i : Nat) (t : Ten), ts[i]? = some t → left (.int .i64 (i : Int)) = false → lf[i]? = some t.r
  kp : Kp W wr own
  bel : Below base W wr
def TkK (W wr : World) (P base M : Nat) (bl : Nat → Nat) (own : Nat → Prop) (ts : List Ten) (c r : Nat) (D : DataW Unit) : Prop := ∃ left cnt, TkI W wr P base M bl own ts c r D left cnt
theorem grown_setCell (W : World) (b i : Nat) (v : Value) : W.grownBy (W.setCell ⟨b, i, none⟩ v) (some b) := ⟨rfl, rfl, rfl, by simp [World.setCell], fun j _ h => heap_setCell_other W _ j _ (fun e => h (by rw [e]))⟩
theorem LM.grown {W W' : World} {P base M : Nat} {bl : Nat → Nat} {ts : List Ten} {lf : List Int} (h : LM W P base M bl ts lf) {row : Option Nat} (hg : W.grownBy W' row) (hr : ∀ b, LOwn P M ts.length bl b → some b ≠ row) : LM W' P base M bl ts lf :=
  h.keep fun b hb => hg.block b (h.lt hb).2 (hr b hb)
section
variable {W wr w1 : World} {P base M c r cnt cnt1 i : Nat} {bl : Nat → Nat} {own : Nat → Prop} {ts : List Ten} {lf : List Int} {D : DataW Unit} {left : Lit → Bool}
/-- an entry has come, and its account may spend its rate -/
theorem TkI.step (h : TkI W wr P base M bl own ts c r D left cnt) (hlw : ∀ b, LOwn P M ts.length bl b → b < r) (ho : ∀ b, own b ↔ LOwn P M ts.length bl b) {t : Ten} (ht : ts[i]? = some t)
    (hrg : w1.ranges Try.prog 3 pR M r c D (fun z => left z && !z.sameKey (.int .i64 (i : Int))) cnt1) (hg : wr.grownBy w1 (some r)) (hr : W.heap.size ≤ r) (hb : base ≤ r) :
    TkI W (w1.setCell ⟨bl i, 3, none⟩ (.int .i64 t.r)) P base M bl own ts c r D (fun z => left z && !z.sameKey (.int .i64 (i : Int))) cnt1 := by
  obtain ⟨lf, hm, hlen, hdone⟩ := h.lm
  have hi := (List.getElem?_eq_some_iff.1 ht).1
  have hm1 : LM w1 P base M bl ts lf := hm.grown hg (fun b hb e => by have := hlw b hb; simp at e; omega)
  obtain ⟨x, hx, hc⟩ := hm1.acc i t ht
  have hoi : own (bl i) := (ho _).2 (.inr (.inr ⟨i, hi, rfl⟩))
  have hM : M ≠ bl i := fun e => by
    obtain ⟨c', D', _, ⟨es, clock, hmm, _⟩, _⟩ := hm1.map
    rw [e, hc] at hmm
    simp [acell] at hmm
  have hgs := grown_setCell w1 (bl i) 3 (.int .i64 t.r)
  refine ⟨hrg.kept hgs (by simpa using hM) (by have := hlw _ ((ho _).1 hoi); simp; omega), ⟨lf.set i t.r, hm1.set ht hx t.r, by rw [List.length_set]; exact hlen, fun j u hu hl => ?_⟩, (h.kp.grown hg (fun g e => .inr (by simp at e; omega))).grown hgs (fun g e => .inl (by simp at e; rw [← e]; exact hoi)), Below.setCell (h.bel.grown hg (by have := h.rg.lt; omega) (fun g e => by simp at e; omega)) (hm.lo _ ((ho _).1 hoi)) _⟩
  by_cases hij : j = i
  · subst hij
    rw [ht] at hu
    cases hu
    rw [List.getElem?_set_self (List.getElem?_eq_some_iff.1 hx).1]
  · rw [List.getElem?_set_ne (fun e => hij e.symm)]
    refine hdone j u hu ?_
    have hne : (Lit.int .i64 (j : Int)).sameKey (.int .i64 (i : Int)) = false := Maps.sameKey_ne (i64_ne (by omega))
    simpa [hne] using hl
end
section
variable {W : World} {P base : Nat} {own : Nat → Prop} {ts : List Ten} {lf : List Int}
def TickAns (W W' : World) (P base : Nat) (own : Nat → Prop) (ts : List Ten) (e : Ending) : Prop := e = .returned (.int .i64 0) ∧ LD W' P base own ts (ts.map (·.r)) ∧ Kp W W' own ∧ Below base W W'
set_option maxHeartbeats 4000000 in
theorem ltick_any (h : LD W P base own ts lf) : Calls Try.prog 15 #[.pointer (some ⟨P, 0, none⟩)] W fun e W' => TickAns W W' P base own ts e := by
  have HL := Lib.hid h
  obtain ⟨⟨M, bl, hm, ho⟩, hlen, hmay, _⟩ := h
  have K0 := Lib.hid (made_yes hm)
  have c0 := hm.c0
  obtain ⟨c, D, hc, hown, hpd⟩ := hm.map
  have HM := Lib.hid hm
  have HO := Lib.hid ho
  have HP := Lib.hid hpd
  clear hm ho hlen hmay hpd
  go_enter Try.func15, Try.ntmps15
  go_wp2_with fail
  refine K0.out.mono ?_
  rintro e w1 ⟨rfl, rfl⟩
  go_wp2_with (first
    | (at_range; refine wpList_range_own _ rfl _ 55 rfl 3 61 lawP Try.underlying55 pR M c D rfl hown ?_; intro w0 hrg0 hg0 hs0)
    | go_in)
  go_frame
  have hlw : ∀ b, LOwn P M ts.length bl b → b < W.heap.size := fun b hb => (HM.out.lt hb).2
  have hbs : base ≤ W.heap.size := by have := HM.out.lt (b := P) (.inl rfl); omega
  have HLW := Lib.hid hlw
  have HI0 := Lib.hid (show TkK W w0 P base M bl own ts c W.heap.size D from ⟨_, _, hrg0, ⟨lf, HM.out.grown hg0 (fun b _ e => by cases e), HL.out.len, fun i t ht hl => by
    rw [HP.out.2.1, decide_eq_true (by have := (List.getElem?_eq_some_iff.1 ht).1; omega)] at hl
    cases hl⟩, Kp.refl.grown hg0 (fun g e => by cases e), (Below.refl _ _).grown hg0 hbs (fun g e => by cases e)⟩)
  clear hrg0 hg0 hs0 hlw c0 K0 hown
  go_loopw [4] (fun _ wr => Hid (TkK W wr P base M bl own ts c W.heap.size D)) (fun _ wr => wr.rangeLeft M W.heap.size)
  case atStart => exact HI0
  case round =>
    obtain ⟨left, cnt, hI⟩ := hrel.out
    have HI := Lib.hid hI
    have hrg := hI.rg
    clear hI
    go_wp2_with (first
      | (at_next; refine next_pm _ rfl _ rfl M W.heap.size c ts.length bl D left cnt rfl hrg HP.out ?_ ?_)
      | go_in)
    · intro hc0 hl0
      go_wp2
      go_ret
      obtain ⟨lf', hm', hlen', hdone⟩ := HI.out.lm
      have el : lf' = ts.map (·.r) := by
        apply List.ext_getElem?
        intro i
        rw [List.getElem?_map]
        cases ht : ts[i]? with
        | none => rw [List.getElem?_eq_none (by rw [hlen']; exact List.getElem?_eq_none_iff.1 ht)]; rfl
        | some t => rw [hdone i t ht (hl0 _)]; rfl
      subst el
      refine ⟨rfl, ⟨⟨M, bl, hm', HO.out⟩, hlen', HL.out.may, fun i x hx => ?_⟩, HI.out.kp, HI.out.bel⟩
      rw [List.getElem?_map] at hx
      cases ht : ts[i]? with
      | none => rw [ht] at hx; cases hx
      | some t =>
        rw [ht] at hx
        cases hx
        have := HL.out.rate ht
        show 0 ≤ t.r ∧ t.r ≤ 1073741824
        omega
    · intro i w1 cnt1 hi hli hrg1 hlt hg1 hs1 hen
      obtain ⟨t, ht⟩ : ∃ t, ts[i]? = some t := ⟨_, List.getElem?_eq_getElem hi⟩
      obtain ⟨x, hx, hac⟩ : ∃ x, True ∧ w1.heap[bl i]? = some (acell t x) := by
        obtain ⟨lf', hm', _⟩ := HI.out.lm
        obtain ⟨x, _, hac⟩ := (hm'.grown hg1 (fun b hb e => by have := HLW.out b hb; simp at e; omega)).acc i t ht
        exact ⟨x, trivial, hac⟩
      have c2 := ac2 hac
      have c3 := ac3 hac
      have f3 := acf hac 3
      have HN := Lib.hid (HI.out.step HLW.out HO.out ht hrg1 hg1 (Nat.le_refl _) hbs)
      have HCL := Lib.hid (show cnt = wr.rangeLeft M W.heap.size from hrg.left_eq.symm)
      clear hx hac ht hrg1 hg1 hs1 hli hrg
      go_wp2
      go_roundw
      case rel => exact Lib.hid ⟨_, _, HN.out⟩
      case measure => rw [HN.out.rg.left_eq, ← HCL.out]; exact hlt
end
end Go.Proofs.Ytegfjndlkjfepaa
