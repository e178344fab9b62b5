/- Ledgers: the laws' own ways: left, made, sizes, two. -/
import Derived.Test.YtegfjndlkjfepaaLgF
namespace Go.Proofs.Ytegfjndlkjfepaa
open Go Go.Proofs Go.RowKit Go.Shelf
set_option linter.unusedVariables false
set_option maxRecDepth 100000

attribute [local go_sem] Oper.semAt_some
section
variable {W : World} {P base : Nat} {own : Nat → Prop} {ts : List Ten} {lf : List Int}
set_option maxHeartbeats 2000000 in
/-- the laws' way to ask what is left -/
theorem left_any (h : LD W P base own ts lf) {k : Int} (hk : kOK k) : Calls Try.prog 14 #[.pointer (some ⟨P, 0, none⟩), .int .i64 k] W fun e W' => e = .returned (.int .i64 (leftV ts lf k)) ∧ W = W' := by
  have k0 := lleft_any h hk
  unfold leftA leftE at k0
  by_cases hk : 0 ≤ k ∧ k < ts.length
  · rw [if_pos hk, if_pos hk] at k0
    unfold leftV
    rw [if_pos hk]
    have K0 := Lib.hid k0
    clear h k0
    obtain ⟨X, hX⟩ : ∃ X, X = lf.getD k.toNat 0 := ⟨_, rfl⟩
    rw [← hX] at K0 ⊢
    clear hX
    go_enter Try.func14, Try.ntmps14
    go_wp2_with fail
    refine K0.out.mono ?_
    rintro e w1 ⟨rfl, rfl⟩
    go_wp2
    go_ret
    exact ⟨rfl, rfl⟩
  · rw [if_neg hk, if_neg hk] at k0
    unfold leftV
    rw [if_neg hk]
    have K0 := Lib.hid k0
    clear h k0
    go_enter Try.func14, Try.ntmps14
    go_wp2_with fail
    refine K0.out.mono ?_
    rintro e w1 ⟨rfl, rfl⟩
    go_wp2
    go_ret
    exact ⟨rfl, rfl⟩
/-- a spending that is refused leaves all as it was -/
theorem lspend_err (h : LD W P base own ts lf) {k : Int} (n : Int) (hk : kOK k) {E : Int} (hE : spendE ts lf k n = E) (h0 : E ≠ 0) : Calls Try.prog 13 #[.pointer (some ⟨P, 0, none⟩), .int .i64 k, .int .i64 n] W fun e W' => e = .returned (.int .i64 E) ∧ W = W' := by
  have HL := Lib.hid h
  obtain ⟨⟨M, bl, hm, ho⟩, _⟩ := h
  by_cases hx : 0 ≤ k ∧ k < ts.length
  · have ht := List.getElem?_eq_getElem (l := ts) (i := k.toNat) (by omega)
    obtain ⟨x, h1, h2⟩ := hm.acc k.toNat _ ht
    have c3 := ac3 h2
    have K0 := Lib.hid (of_yes hm hx hk)
    have HX := Lib.hid (getD_of h1)
    by_cases hn : 0 ≤ n
    · by_cases hxn : x < n
      · have e0 : spendE ts lf k n = 3 := by unfold spendE; rw [if_pos ⟨hx.1, hx.2, hn⟩, HX.out, if_pos hxn]
        obtain rfl : E = 3 := by omega
        clear hx hk hm h1 h2 ho ht e0 hE
        go_enter Try.func13, Try.ntmps13
        go_wp2_with fail
        refine K0.out.mono ?_
        rintro e w1 ⟨rfl, rfl⟩
        go_wp2
        go_ret
        exact ⟨rfl, rfl⟩
      · have e0 : spendE ts lf k n = 0 := by unfold spendE; rw [if_pos ⟨hx.1, hx.2, hn⟩, HX.out, if_neg hxn]
        omega
    · have e0 : spendE ts lf k n = 1 := by unfold spendE; rw [if_neg (by omega)]
      obtain rfl : E = 1 := by omega
      clear hx hk hm h1 h2 ho ht e0 hE
      go_enter Try.func13, Try.ntmps13
      go_wp2_with fail
      refine K0.out.mono ?_
      rintro e w1 ⟨rfl, rfl⟩
      go_wp2
      go_ret
      exact ⟨rfl, rfl⟩
  · have K0 := Lib.hid (of_no hm hx hk)
    have e0 : spendE ts lf k n = 1 := by unfold spendE; rw [if_neg (by omega)]
    obtain rfl : E = 1 := by omega
    clear hx hk hm ho e0 hE
    go_enter Try.func13, Try.ntmps13
    go_wp2_with fail
    refine K0.out.mono ?_
    rintro e w1 ⟨rfl, rfl⟩
    go_wp2
    go_ret
    exact ⟨rfl, rfl⟩
set_option maxHeartbeats 2000000 in
theorem lm_no {v : Value} (h : Tens W v ts) (hm : ¬ MayT ts) : Calls Try.prog 12 #[v] W fun e W' => e = .returned (.pointer none) ∧ Below W.heap.size W W' := by
  have K0 := Lib.hid (lnew_no h hm)
  obtain ⟨a, c, rfl, _⟩ : ∃ a c, v = .slice a ts.length c ∧ True := by obtain ⟨a, c, e, _⟩ := h; exact ⟨a, c, e, trivial⟩
  clear h hm
  go_enter Try.func12, Try.ntmps12
  go_wp2_with fail
  refine K0.out.mono ?_
  rintro e w1 ⟨rfl, b1⟩
  go_wp2
  go_ret
  exact ⟨rfl, b1⟩
set_option maxHeartbeats 2000000 in
theorem lm_yes {v : Value} (h : Tens W v ts) (hm : MayT ts) : Calls Try.prog 12 #[v] W fun e W' => ∃ P own, e = .returned (.pointer (some ⟨P, 0, none⟩)) ∧ LD W' P W.heap.size own ts (ts.map (·.r)) ∧ Below W.heap.size W W' := by
  have K0 := Lib.hid (lnew_yes h hm)
  obtain ⟨a, c, rfl, _⟩ : ∃ a c, v = .slice a ts.length c ∧ True := by obtain ⟨a, c, e, _⟩ := h; exact ⟨a, c, e, trivial⟩
  clear h hm
  go_enter Try.func12, Try.ntmps12
  go_wp2_with fail
  refine K0.out.mono ?_
  rintro e w1 ⟨P, own, lf, rfl, hL, _, b1⟩
  have HL := Lib.hid hL
  have HB := Lib.hid b1
  clear hL b1 K0
  go_wp2_with fail
  refine (ltick_any HL.out).mono ?_
  rintro e w2 ⟨rfl, hL2, _, k2⟩
  have HL2 := Lib.hid (show LD w2 P W.heap.size own ts (ts.map (·.r)) from hL2)
  have HB2 := Lib.hid (HB.out.trans k2)
  clear hL2 k2
  go_wp2
  go_ret
  exact ⟨_, own, rfl, HL2.out, HB2.out⟩
end
set_option maxHeartbeats 4000000 in
theorem tsize_any {W : World} {v : Value} {ts : List Ten} (h : Tens W v ts) (hl : ts.length ≤ 1000) :
    Calls Try.prog 11 #[v] W fun e w' => ∃ z : Int, e = .returned (.int .i64 z) ∧ Below W.heap.size W w' := by
  obtain ⟨a, c, rfl, hlc, hrow⟩ := h
  obtain ⟨N, hN⟩ : ∃ N, N = ts.length := ⟨_, rfl⟩
  have HN := Lib.hid hN
  have HL := Lib.hid hl
  clear hl
  rw [← hN] at hlc ⊢
  have HR := Lib.hid hrow
  clear hN hrow
  have k0 : ((0 : Nat) : Int) = 0 := rfl
  go_enter Try.func11, Try.ntmps11
  go_wp2
  go_loopg [3, 4] N (fun g s3 s4 wr => ∃ (k : Nat) (z : Int), k + g = N ∧ s4 = .int .i64 (k : Int) ∧ s3 = .int .i64 z ∧ Hid (Below W.heap.size W wr))
  case atStart => exact ⟨0, N, by omega, rfl, rfl, Lib.hid (Below.refl _ _)⟩
  case round =>
    clear k0
    obtain ⟨k, z, hk, rfl, rfl, HW⟩ := hrel
    by_cases hlt : k < N
    · obtain ⟨b, off, rfl, hbs, hcell⟩ := HR.out (by have := HN.out; omega)
      obtain ⟨x, hx⟩ : ∃ x, ts[k]? = some x := ⟨_, List.getElem?_eq_getElem (by have := HN.out; omega)⟩
      obtain ⟨hat, hok, _⟩ := hcell k x hx
      obtain ⟨c0, c1, _⟩ := hat.below hbs HW.out
      have n0 : (0 : Int) ≤ (k : Int) := by omega
      have n1 : (k : Int) < (N : Int) := by omega
      have w2 : IntKind.i64.wrap ((k : Int) + 1) = ((k + 1 : Nat) : Int) := IntWalk.i64_in _ (by have := HN.out; have := HL.out; omega)
      clear hcell hx hok hat
      by_cases hz : z ≤ 1048576
      · go_wp2
        go_quiet (fail)
        go_wp2
        go_roundg (N - (k + 1))
        case measure => omega
        case rel => exact ⟨k + 1, _, by omega, by first | rfl | simp, rfl, Lib.hid (below_drewN HW.out _)⟩
      · go_wp2
        go_ret
        exact ⟨⟨_, rfl⟩, HW.out⟩
    · have n1 : ¬ (k : Int) < (N : Int) := by omega
      go_wp2
      go_ret
      exact ⟨⟨_, rfl⟩, HW.out⟩
/-- a row of the call's own that holds tenants -/
def tflat (ts : List Ten) : List Value := ts.flatMap tcells
theorem tflat_len : ∀ ts : List Ten, (tflat ts).length = ts.length * 3
  | [] => rfl
  | t :: r => by
    show (tcells t ++ tflat r).length = _
    rw [List.length_append, tflat_len r, List.length_cons]
    show 3 + _ = _
    omega
theorem tflat_get : ∀ (ts : List Ten) (j : Nat) (t : Ten), ts[j]? = some t → ∀ i, i < 3 → (tflat ts)[j * 3 + i]? = (tcells t)[i]?
  | [], j, t, h => by simp at h
  | u :: r, 0, t, h => fun i hi => by
    simp at h
    subst h
    show (tcells u ++ tflat r)[0 * 3 + i]? = _
    rw [List.getElem?_append_left (by show 0 * 3 + i < 3; omega), show 0 * 3 + i = i by omega]
  | u :: r, j + 1, t, h => fun i hi => by
    show (tcells u ++ tflat r)[(j + 1) * 3 + i]? = _
    rw [List.getElem?_append_right (by show 3 ≤ _; omega), show (j + 1) * 3 + i - (tcells u).length = j * 3 + i by show _ - 3 = _; omega]
    exact tflat_get r j t (by simpa using h) i hi
theorem tens_row {W : World} {base : Nat} {v : Value} {ts : List Ten} (h : W.ownsRow base 32 3 v ts.length (tflat ts)) (hok : ∀ t ∈ ts, t.ok) : Tens W v ts := by
  have h0 := h
  rcases h.2 with ⟨rfl, e⟩ | ⟨g, cap, cur, rfl, _, hg, hn, _⟩
  · exact ⟨none, 0, by rw [e], by omega, fun h => by omega⟩
  · refine ⟨_, cap, rfl, hn, fun _ => ⟨g, 0, rfl, (Array.getElem?_eq_some_iff.1 hg).1, fun j t ht => ?_⟩⟩
    have hj := (List.getElem?_eq_some_iff.1 ht).1
    have key : ∀ i, i < 3 → W.cell? ⟨g, 0 + j * 3 + i, none⟩ = (tcells t)[i]? := fun i hi => by
      rw [show 0 + j * 3 + i = j * 3 + i by omega, World.ownsRow.cellAt h0 (j * 3 + i) (by omega), tflat_get ts j t ht i hi]
    exact ⟨⟨key 0 (by omega), key 1 (by omega), key 2 (by omega)⟩, hok t (List.mem_of_getElem? ht)⟩
/-- ann and bob -/
def ann : Ten := ⟨⟨#[97, 110, 110]⟩, ⟨#[107]⟩, 5⟩
def bob : Ten := ⟨⟨#[98, 111, 98]⟩, ⟨#[107]⟩, 2⟩
def AB : List Ten := [ann, bob]
theorem ab_ok : ∀ t ∈ [ann, bob, ann], t.ok := by
  intro t ht
  simp only [List.mem_cons, List.not_mem_nil, or_false] at ht
  rcases ht with rfl | rfl | rfl <;> exact ⟨by decide, by decide, by decide, by decide⟩
set_option maxHeartbeats 2000000 in
theorem two_any (W : World) : Calls Try.prog 27 #[] W fun e W' => e = .returned (.slice (some ⟨W.heap.size, 0, none⟩) 2 2) ∧ W' = W.alloc (.cells (tflat AB).toArray 32) := by
  go_enter Try.func27, Try.ntmps27
  go_wp2
  go_ret
  exact ⟨rfl, rfl⟩
end Go.Proofs.Ytegfjndlkjfepaa
