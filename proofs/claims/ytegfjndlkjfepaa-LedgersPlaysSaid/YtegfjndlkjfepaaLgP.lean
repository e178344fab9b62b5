/- Ledgers: what is left, what is spent. -/
import Derived.Test.YtegfjndlkjfepaaLgL
namespace Go.Proofs.Ytegfjndlkjfepaa
open Go Go.Proofs Go.RowKit Go.Shelf
set_option linter.unusedVariables false
set_option maxRecDepth 100000

attribute [local go_sem] Oper.semAt_some
def kOK (k : Int) : Prop := (Lit.int .i64 k).wf = true
theorem kOK_nat {k : Nat} (h : k ≤ 1000000) : kOK (k : Int) := by unfold kOK; simp [Lit.wf, IntKind.min, IntKind.max, IntKind.signed, IntKind.bits]; omega
section
variable {W : World} {P base M n : Nat} {bl : Nat → Nat} {ts : List Ten} {lf : List Int}
set_option maxHeartbeats 2000000 in
theorem at_yes (h : PMap W M n bl) {k : Int} (hx : 0 ≤ k ∧ k < n) (hk : kOK k) : Calls Try.prog 38 #[.map (some M), .int .i64 k] W fun e W' => e = .returned (.tuple #[.pointer (some ⟨bl k.toNat, 0, none⟩), .bool true]) ∧ W = W' := by
  have hl := pm_look_yes h hx hk
  go_enter Try.func38, Try.ntmps38
  go_wp2
  go_ret2
  exact ⟨rfl, rfl⟩
set_option maxHeartbeats 2000000 in
theorem at_no (h : PMap W M n bl) {k : Int} (hx : ¬ (0 ≤ k ∧ k < n)) (hk : kOK k) : Calls Try.prog 38 #[.map (some M), .int .i64 k] W fun e W' => e = .returned (.tuple #[.pointer none, .bool false]) ∧ W = W' := by
  have hl := pm_look_no h hx hk
  go_enter Try.func38, Try.ntmps38
  go_wp2
  go_ret2
  exact ⟨rfl, rfl⟩
theorem LM.c0 (h : LM W P base M bl ts lf) : W.cell? ⟨P, 0, none⟩ = some (.map (some M)) := by unfold World.cell?; rw [h.box]; rfl
theorem neq_map (M : Nat) (W : World) : (binOp .neq 55 (.map (some M)) (.map none)).run Try.prog W = .ok (.bool true) W := by kernel_rfl
theorem neq_nil (W : World) : (binOp .neq 55 (.map none) (.map none)).run Try.prog W = .ok (.bool false) W := by kernel_rfl
set_option maxHeartbeats 2000000 in
theorem made_yes (h : LM W P base M bl ts lf) : Calls Try.prog 29 #[.pointer (some ⟨P, 0, none⟩)] W fun e W' => e = .returned (.bool true) ∧ W = W' := by
  have c0 := h.c0
  clear h
  have hq := neq_map M
  go_enter Try.func29, Try.ntmps29
  go_wp2
  go_ret
  exact ⟨rfl, rfl⟩
set_option maxHeartbeats 2000000 in
theorem made_nil (W : World) : Calls Try.prog 29 #[.pointer none] W fun e W' => e = .returned (.bool false) ∧ W = W' := by
  go_enter Try.func29, Try.ntmps29
  go_wp2
  go_ret
  exact ⟨rfl, rfl⟩
set_option maxHeartbeats 2000000 in
theorem made_empty (c0 : W.cell? ⟨P, 0, none⟩ = some (.map none)) : Calls Try.prog 29 #[.pointer (some ⟨P, 0, none⟩)] W fun e W' => e = .returned (.bool false) ∧ W = W' := by
  have hq := neq_nil
  go_enter Try.func29, Try.ntmps29
  go_wp2
  go_ret
  exact ⟨rfl, rfl⟩
set_option maxHeartbeats 2000000 in
theorem of_yes (h : LM W P base M bl ts lf) {k : Int} (hx : 0 ≤ k ∧ k < ts.length) (hk : kOK k) : Calls Try.prog 28 #[.pointer (some ⟨P, 0, none⟩), .int .i64 k] W fun e W' => e = .returned (.tuple #[.pointer (some ⟨bl k.toNat, 0, none⟩), .int .i64 0]) ∧ W = W' := by
  have K0 := Lib.hid (made_yes h)
  have K1 := Lib.hid (at_yes h.map hx hk)
  have c0 := h.c0
  clear h hx hk
  go_enter Try.func28, Try.ntmps28
  go_wp2_with fail
  refine K0.out.mono ?_
  rintro e w1 ⟨rfl, rfl⟩
  go_wp2_with fail
  refine K1.out.mono ?_
  rintro e w1 ⟨rfl, rfl⟩
  go_wp2
  go_ret2
  exact ⟨rfl, rfl⟩
set_option maxHeartbeats 2000000 in
theorem of_no (h : LM W P base M bl ts lf) {k : Int} (hx : ¬ (0 ≤ k ∧ k < ts.length)) (hk : kOK k) : Calls Try.prog 28 #[.pointer (some ⟨P, 0, none⟩), .int .i64 k] W fun e W' => e = .returned (.tuple #[.pointer none, .int .i64 1]) ∧ W = W' := by
  have K0 := Lib.hid (made_yes h)
  have K1 := Lib.hid (at_no h.map hx hk)
  have c0 := h.c0
  clear h hx hk
  go_enter Try.func28, Try.ntmps28
  go_wp2_with fail
  refine K0.out.mono ?_
  rintro e w1 ⟨rfl, rfl⟩
  go_wp2_with fail
  refine K1.out.mono ?_
  rintro e w1 ⟨rfl, rfl⟩
  go_wp2
  go_ret2
  exact ⟨rfl, rfl⟩
end
/-- what is left at a place; what a spending answers, and leaves -/
def leftA (ts : List Ten) (lf : List Int) (k : Int) : Int := if 0 ≤ k ∧ k < ts.length then lf.getD k.toNat 0 else 0
def leftE (ts : List Ten) (k : Int) : Int := if 0 ≤ k ∧ k < ts.length then 0 else 1
def leftV (ts : List Ten) (lf : List Int) (k : Int) : Int := if 0 ≤ k ∧ k < ts.length then lf.getD k.toNat 0 else -1
def spendE (ts : List Ten) (lf : List Int) (k n : Int) : Int := if 0 ≤ k ∧ k < ts.length ∧ 0 ≤ n then (if lf.getD k.toNat 0 < n then 3 else 0) else 1
def spendL (ts : List Ten) (lf : List Int) (k n : Int) : List Int := if spendE ts lf k n = 0 then lf.set k.toNat (lf.getD k.toNat 0 - n) else lf
theorem getD_of {lf : List Int} {i : Nat} {x : Int} (h : lf[i]? = some x) : lf.getD i 0 = x := by rw [List.getD_eq_getElem?_getD, h]; rfl
section
variable {W : World} {P base : Nat} {own : Nat → Prop} {ts : List Ten} {lf : List Int}
set_option maxHeartbeats 2000000 in
theorem lleft_any (h : LD W P base own ts lf) {k : Int} (hk : kOK k) : Calls Try.prog 24 #[.pointer (some ⟨P, 0, none⟩), .int .i64 k] W fun e W' => e = .returned (.tuple #[.int .i64 (leftA ts lf k), .int .i64 (leftE ts k)]) ∧ W = W' := by
  obtain ⟨⟨M, bl, hm, _⟩, _⟩ := h
  by_cases hx : 0 ≤ k ∧ k < ts.length
  · obtain ⟨x, h1, h2⟩ := hm.acc k.toNat _ (List.getElem?_eq_getElem (by omega))
    have c3 := ac3 h2
    unfold leftA leftE
    rw [if_pos hx, if_pos hx, getD_of h1]
    have K0 := Lib.hid (of_yes hm hx hk)
    clear hx hk hm h1 h2
    go_enter Try.func24, Try.ntmps24
    go_wp2_with fail
    refine K0.out.mono ?_
    rintro e w1 ⟨rfl, rfl⟩
    go_wp2
    go_ret2
    exact ⟨rfl, rfl⟩
  · unfold leftA leftE
    rw [if_neg hx, if_neg hx]
    have K0 := Lib.hid (of_no hm hx hk)
    clear hx hk hm
    go_enter Try.func24, Try.ntmps24
    go_wp2_with fail
    refine K0.out.mono ?_
    rintro e w1 ⟨rfl, rfl⟩
    go_wp2
    go_ret2
    exact ⟨rfl, rfl⟩
theorem LM.set {M : Nat} {bl : Nat → Nat} (h : LM W P base M bl ts lf) {i : Nat} {t : Ten} {x : Int} (ht : ts[i]? = some t) (hx : lf[i]? = some x) (y : Int) : LM (W.setCell ⟨bl i, 3, none⟩ (.int .i64 y)) P base M bl ts (lf.set i y) := by
  have hi := (List.getElem?_eq_some_iff.1 ht).1
  have hb : W.heap[bl i]? = some (acell t x) := by
    obtain ⟨x', h1, h2⟩ := h.acc i t ht
    rw [hx] at h1; cases h1; exact h2
  have hP : P ≠ bl i := fun e => by
    have := h.box
    rw [e, hb] at this
    simp [acell] at this
  have hM : M ≠ bl i := fun e => by
    obtain ⟨c, D, _, ⟨es, clock, hmm, _⟩, _⟩ := h.map
    rw [e, hb] at hmm
    simp [acell] at hmm
  refine ⟨(heap_setCell_other W _ _ _ hP).trans h.box, h.map.stay (heap_setCell_other W _ _ _ hM), fun j u hu => ?_, h.inj, h.lo⟩
  have hj := (List.getElem?_eq_some_iff.1 hu).1
  obtain ⟨x', h1, h2⟩ := h.acc j u hu
  by_cases hij : j = i
  · subst hij
    rw [ht] at hu
    cases hu
    refine ⟨y, ?_, acset hb y⟩
    rw [List.getElem?_set_self (List.getElem?_eq_some_iff.1 hx).1]
  · refine ⟨x', ?_, (heap_setCell_other W _ _ _ (fun e => hij (h.inj j i hj hi e))).trans h2⟩
    rw [List.getElem?_set_ne (fun e => hij e.symm)]
    exact h1
theorem LD.set (h : LD W P base own ts lf) {M : Nat} {bl : Nat → Nat} (hm : LM W P base M bl ts lf) (ho : ∀ b, own b ↔ LOwn P M ts.length bl b) {i : Nat} {t : Ten} {x y : Int} (ht : ts[i]? = some t) (hx : lf[i]? = some x) (hy : 0 ≤ y ∧ y ≤ 1073741824) :
    LD (W.setCell ⟨bl i, 3, none⟩ (.int .i64 y)) P base own ts (lf.set i y) ∧ Kp W (W.setCell ⟨bl i, 3, none⟩ (.int .i64 y)) own ∧ Below base W (W.setCell ⟨bl i, 3, none⟩ (.int .i64 y)) := by
  have hi := (List.getElem?_eq_some_iff.1 ht).1
  have hown : own (bl i) := (ho _).2 (.inr (.inr ⟨i, hi, rfl⟩))
  refine ⟨⟨⟨M, bl, hm.set ht hx y, ho⟩, by rw [List.length_set]; exact h.len, h.may, fun j z hz => ?_⟩, ⟨by simp [World.setCell], fun b _ hn => heap_setCell_other W _ _ _ (fun e => hn (by rw [e]; exact hown))⟩, (Below.refl _ _).setCell (h.blk hown).1 _⟩
  by_cases hij : j = i
  · subst hij
    rw [List.getElem?_set_self (List.getElem?_eq_some_iff.1 hx).1] at hz
    cases hz
    exact hy
  · rw [List.getElem?_set_ne (fun e => hij e.symm)] at hz
    exact h.left j z hz
def SpendAns (W W' : World) (P base : Nat) (own : Nat → Prop) (ts : List Ten) (lf : List Int) (k n : Int) (e : Ending) : Prop :=
  e = .returned (.int .i64 (spendE ts lf k n)) ∧ LD W' P base own ts (spendL ts lf k n) ∧ Kp W W' own ∧ Below base W W'
set_option maxHeartbeats 4000000 in
theorem lspend_any (h : LD W P base own ts lf) {k : Int} (n : Int) (hk : kOK k) : Calls Try.prog 13 #[.pointer (some ⟨P, 0, none⟩), .int .i64 k, .int .i64 n] W fun e W' => SpendAns W W' P base own ts lf k n e := by
  have HL := Lib.hid h
  obtain ⟨⟨M, bl, hm, ho⟩, _⟩ := h
  by_cases hx : 0 ≤ k ∧ k < ts.length
  · have ht := List.getElem?_eq_getElem (l := ts) (i := k.toNat) (by omega)
    obtain ⟨x, h1, h2⟩ := hm.acc k.toNat _ ht
    have c3 := ac3 h2
    have f3 := acf h2 3
    have hr := HL.out.left _ x h1
    have K0 := Lib.hid (of_yes hm hx hk)
    have HX := Lib.hid (getD_of h1)
    have HK := Lib.hid hx
    by_cases hn : 0 ≤ n
    · by_cases hxn : x < n
      · have e0 : spendE ts lf k n = 3 := by unfold spendE; rw [if_pos ⟨hx.1, hx.2, hn⟩, HX.out, if_pos hxn]
        have HE := Lib.hid e0
        clear hx hk hm h1 h2 ho ht e0
        go_enter Try.func13, Try.ntmps13
        go_wp2_with fail
        refine K0.out.mono ?_
        rintro e w1 ⟨rfl, rfl⟩
        go_wp2
        go_ret
        refine ⟨by rw [HE.out]; rfl, ?_, Kp.refl, Below.refl _ _⟩
        unfold spendL
        rw [if_neg (by rw [HE.out]; decide)]
        exact HL.out
      · have e0 : spendE ts lf k n = 0 := by unfold spendE; rw [if_pos ⟨hx.1, hx.2, hn⟩, HX.out, if_neg hxn]
        have HE := Lib.hid e0
        have HS := Lib.hid (HL.out.set hm ho ht h1 (show 0 ≤ x - n ∧ x - n ≤ 1073741824 by omega))
        have ew : IntKind.i64.wrap (x - n) = x - n := IntWalk.i64_in _ (by omega)
        clear hx hk hm h1 h2 ho ht e0
        go_enter Try.func13, Try.ntmps13
        go_wp2_with fail
        refine K0.out.mono ?_
        rintro e w1 ⟨rfl, rfl⟩
        go_wp2
        go_ret
        refine ⟨by rw [HE.out]; rfl, ?_, HS.out.2.1, HS.out.2.2⟩
        unfold spendL
        rw [if_pos HE.out, HX.out]
        exact HS.out.1
    · have e0 : spendE ts lf k n = 1 := by unfold spendE; rw [if_neg (by omega)]
      have HE := Lib.hid e0
      clear hx hk hm h1 h2 ho ht e0
      go_enter Try.func13, Try.ntmps13
      go_wp2_with fail
      refine K0.out.mono ?_
      rintro e w1 ⟨rfl, rfl⟩
      go_wp2
      go_ret
      refine ⟨by rw [HE.out]; rfl, ?_, Kp.refl, Below.refl _ _⟩
      unfold spendL
      rw [if_neg (by rw [HE.out]; decide)]
      exact HL.out
  · have K0 := Lib.hid (of_no hm hx hk)
    have e0 : spendE ts lf k n = 1 := by unfold spendE; rw [if_neg (by omega)]
    have HE := Lib.hid e0
    clear hx hk hm ho e0
    go_enter Try.func13, Try.ntmps13
    go_wp2_with fail
    refine K0.out.mono ?_
    rintro e w1 ⟨rfl, rfl⟩
    go_wp2
    go_ret
    refine ⟨by rw [HE.out]; rfl, ?_, Kp.refl, Below.refl _ _⟩
    unfold spendL
    rw [if_neg (by rw [HE.out]; decide)]
    exact HL.out
end
end Go.Proofs.Ytegfjndlkjfepaa
