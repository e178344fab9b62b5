/- Ledgers: may tenants be? as the program asks it. -/
import Derived.Test.YtegfjndlkjfepaaLgN
namespace Go.Proofs.Ytegfjndlkjfepaa
open Go Go.Proofs Go.RowKit Go.Shelf
set_option linter.unusedVariables false
set_option maxRecDepth 100000

attribute [local go_sem] Oper.semAt_some
def hasN (ts : List Ten) (nm : ByteArray) : Bool := ts.any fun x => decide (x.n = nm)
theorem hasN_yes {ts : List Ten} {nm : ByteArray} {k : Nat} {x : Ten} (h : ts[k]? = some x) (e : x.n = nm) : hasN ts nm = true := by
  unfold hasN
  rw [List.any_eq_true]
  exact ⟨x, List.mem_of_getElem? h, decide_eq_true e⟩
theorem hasN_no {ts : List Ten} {nm : ByteArray} (h : ∀ (k : Nat) (x : Ten), ts[k]? = some x → x.n ≠ nm) : hasN ts nm = false := by
  unfold hasN
  rw [List.any_eq_false]
  intro x hx
  obtain ⟨k, hk⟩ := List.getElem?_of_mem hx
  simpa using h k x hk
theorem str_eq (a b : ByteArray) : (a.toList == b.toList) = decide (a = b) := by
  rw [Bool.eq_iff_iff]
  simp only [beq_iff_eq, decide_eq_true_eq, Lib.toList_data]
  constructor
  · intro h; apply ByteArray.ext; exact Array.toList_inj.1 h
  · rintro rfl; rfl
theorem Tens.take {W : World} {a : Option Addr} {n c : Nat} {ts : List Ten} (h : Tens W (.slice a n c) ts) (k : Nat) (hk : k ≤ ts.length) : Tens W (.slice a k c) (ts.take k) := by
  obtain ⟨a', cap, e, hc, h⟩ := h
  simp only [Value.slice.injEq] at e
  obtain ⟨rfl, _, rfl⟩ := e
  have hl : (ts.take k).length = k := by rw [List.length_take]; omega
  refine ⟨a, c, by rw [hl], by omega, fun h0 => ?_⟩
  obtain ⟨b, off, e, hb, hj⟩ := h (by omega)
  refine ⟨b, off, e, hb, fun j t ht => hj j t ?_⟩
  rw [List.getElem?_take] at ht
  split at ht
  · exact ht
  · cases ht
set_option maxHeartbeats 2000000 in
theorem same_any {W : World} {p : Nat} {nm : ByteArray} (x : Ten) (h : W.cell? ⟨p, 0, none⟩ = some (.string nm)) (hp : p < W.heap.size) :
    Calls Try.prog 45 #[.agg #[.string x.n, .string x.k, .int .i64 x.r], .pointer (some ⟨p, 0, none⟩)] W fun e W' => e = .returned (.bool (decide (x.n = nm))) ∧ Below W.heap.size W W' := by
  obtain ⟨n, k, r⟩ := x
  have c0 : ∀ o, (W.alloc o).cell? ⟨p, 0, none⟩ = some (.string nm) := fun o => (((Below.refl W.heap.size W).alloc (Nat.le_refl _) o).cell (p := ⟨p, 0, none⟩) hp).trans h
  show Calls Try.prog 45 #[.agg #[.string n, .string k, .int .i64 r], .pointer (some ⟨p, 0, none⟩)] W fun e W' => e = .returned (.bool (decide (n = nm))) ∧ Below W.heap.size W W'
  go_enter Try.func45, Try.ntmps45
  go_wp2
  go_ret
  exact ⟨ret_bool (str_eq n nm), (Below.refl _ _).alloc (Nat.le_refl _) _⟩
theorem Tens.cells {W : World} {a : Option Addr} {N c : Nat} {ts : List Ten} (h : Tens W (.slice a N c) ts) : N = ts.length ∧ N ≤ c ∧ (0 < N → ∃ b off, a = some ⟨b, off, none⟩ ∧ b < W.heap.size ∧ ∀ (j : Nat) (t : Ten), ts[j]? = some t → TenAt W b (off + j * 3) t ∧ t.ok) := by
  obtain ⟨a', cap, e, hcc, hrow⟩ := h
  simp only [Value.slice.injEq] at e
  obtain ⟨rfl, rfl, rfl⟩ := e
  exact ⟨rfl, hcc, hrow⟩
theorem al_cell (W : World) (cs : Array Value) (T : TypeId) (i : Nat) : (W.alloc (.cells cs T)).cell? ⟨W.heap.size, i, none⟩ = cs[i]? := by
  unfold World.cell?
  rw [heap_alloc_new]
  rfl
def fnS (p : Nat) : Value := .func (.func 45) #[] #[.pointer (some ⟨p, 0, none⟩)]
set_option maxHeartbeats 4000000 in
theorem idx_any {W : World} {a : Option Addr} {N c p : Nat} {ts : List Ten} {nm : ByteArray} (h : Tens W (.slice a N c) ts) (hN : N = ts.length) (hl : N ≤ 1000) (hc : W.cell? ⟨p, 0, none⟩ = some (.string nm)) (hp : p < W.heap.size) :
    Calls Try.prog 51 #[.slice a N c, fnS p] W fun e W' => ∃ z : Int, e = .returned (.int .i64 z) ∧ (0 ≤ z ↔ hasN ts nm = true) ∧ Below W.heap.size W W' := by
  have HN := Lib.hid hN
  have HR := Lib.hid h
  have HC := Lib.hid hc
  clear h hN hc
  unfold fnS
  go_enter Try.func51, Try.ntmps51
  go_wp2
  go_loopg [8] N (fun g s8 wr => ∃ k : Nat, k + g = N ∧ s8 = .int .i64 (k : Int) ∧ Hid (∀ (j : Nat) (x : Ten), j < k → ts[j]? = some x → x.n ≠ nm) ∧ Hid (Below W.heap.size W wr))
  case atStart => exact ⟨0, by omega, rfl, Lib.hid fun j x hj => by omega, Lib.hid (Below.refl _ _)⟩
  case round =>
    obtain ⟨k, hk, rfl, HNO, HW⟩ := hrel
    by_cases hlt : k < N
    · obtain ⟨b, off, rfl, hbs, hcell⟩ := HR.out.cells.2.2 (by omega)
      obtain ⟨x, hx⟩ : ∃ x, ts[k]? = some x := ⟨_, List.getElem?_eq_getElem (by have := HN.out; omega)⟩
      obtain ⟨hat, hok⟩ := hcell k x hx
      obtain ⟨c0, c1, c2⟩ := hat.below hbs HW.out
      have n0 : (0 : Int) ≤ (k : Int) := by omega
      have n1 : (k : Int) < (N : Int) := by omega
      have w2 : IntKind.i64.wrap ((k : Int) + 1) = ((k + 1 : Nat) : Int) := IntWalk.i64_in _ (by omega)
      have HX := Lib.hid hx
      have k1 := Lib.hid (same_any (W := wr) (nm := nm) x ((HW.out.cell (p := ⟨p, 0, none⟩) hp).trans HC.out) (Nat.lt_of_lt_of_le hp HW.out.size))
      clear hcell hx hok hat
      go_wp2_with fail
      refine k1.out.mono ?_
      rintro e w1 ⟨rfl, b1⟩
      have B1 := Lib.hid (HW.out.trans (b1.mono HW.out.size))
      clear b1 k1
      by_cases hq : x.n = nm
      · have hq' := decide_eq_true hq
        rw [hq']
        have HQ := Lib.hid hq
        clear hq hq'
        go_wp2
        go_ret
        exact ⟨_, rfl, ⟨fun _ => hasN_yes HX.out HQ.out, fun _ => by omega⟩, B1.out⟩
      · have hq' := decide_eq_false hq
        rw [hq']
        have HQ := Lib.hid hq
        clear hq hq'
        go_wp2
        go_roundg (N - (k + 1))
        case measure => omega
        case rel =>
          refine ⟨k + 1, by omega, by first | rfl | simp, Lib.hid fun j y hj hy => ?_, B1⟩
          by_cases hjk : j = k
          · subst hjk
            rw [HX.out] at hy
            cases hy
            exact HQ.out
          · exact HNO.out j y (by omega) hy
    · have n1 : ¬ (k : Int) < (N : Int) := by omega
      go_wp2
      go_ret
      refine ⟨_, rfl, ⟨fun h => by omega, fun h => ?_⟩, HW.out⟩
      rw [hasN_no fun j x hj => HNO.out j x (by have := (List.getElem?_eq_some_iff.1 hj).1; have := HN.out; omega) hj] at h
      cases h
set_option maxHeartbeats 4000000 in
theorem cont_any {W : World} {a : Option Addr} {N c p : Nat} {ts : List Ten} {nm : ByteArray} (h : Tens W (.slice a N c) ts) (hN : N = ts.length) (hl : N ≤ 1000) (hc : W.cell? ⟨p, 0, none⟩ = some (.string nm)) (hp : p < W.heap.size) :
    Calls Try.prog 44 #[.slice a N c, fnS p] W fun e W' => e = .returned (.bool (hasN ts nm)) ∧ Below W.heap.size W W' := by
  have K := Lib.hid (idx_any h hN hl hc hp)
  clear h hN hc
  obtain ⟨b, hb⟩ : ∃ b, b = hasN ts nm := ⟨_, rfl⟩
  rw [← hb] at K ⊢
  clear hb
  obtain ⟨F, hF⟩ : ∃ F, F = fnS p := ⟨_, rfl⟩
  rw [← hF] at K ⊢
  clear hF
  go_enter Try.func44, Try.ntmps44
  go_wp2_with fail
  refine K.out.mono ?_
  rintro e w1 ⟨z, rfl, hz, b1⟩
  go_wp2
  go_ret
  refine ⟨ret_bool ?_, b1⟩
  cases b <;> simp at hz <;> first | rfl | (simp; omega)
/-- may tenants be? -/
structure MayT (ts : List Ten) : Prop where
  few : 1 ≤ ts.length ∧ ts.length ≤ 16
  each : ∀ (k : Nat) (x : Ten), ts[k]? = some x → tenB x = true ∧ hasN (ts.take k) x.n = false
def MayAns (W W' : World) (ts : List Ten) (e : Ending) : Prop := ∃ b : Bool, e = .returned (.bool b) ∧ (b = true ↔ MayT ts) ∧ Below W.heap.size W W'
set_option maxHeartbeats 4000000 in
theorem maybe_any {W : World} {a : Option Addr} {N c : Nat} {ts : List Ten} (h : Tens W (.slice a N c) ts) (hN : N = ts.length) :
    Calls Try.prog 35 #[.slice a N c] W fun e W' => MayAns W W' ts e := by
  have HN := Lib.hid hN
  have HR := Lib.hid h
  clear h hN
  go_enter Try.func35, Try.ntmps35
  by_cases h0 : N = 0
  · subst h0
    go_wp2
    go_ret
    exact ⟨false, rfl, ⟨fun h => (by cases h), fun h => by have := h.few; have := HN.out; omega⟩, Below.refl _ _⟩
  by_cases h16 : 16 < N
  · have e0 : ¬ (N : Int) = 0 := by omega
    have e1 : (16 : Int) < (N : Int) := by omega
    go_wp2
    go_ret
    exact ⟨false, rfl, ⟨fun h => (by cases h), fun h => by have := h.few; have := HN.out; omega⟩, Below.refl _ _⟩
  have e0 : ¬ (N : Int) = 0 := by omega
  have e1 : ¬ (16 : Int) < (N : Int) := by omega
  go_wp2
  go_loopg [15] N (fun g s15 wr => ∃ k : Nat, k + g = N ∧ s15 = .int .i64 (k : Int) ∧ Hid (∀ (j : Nat) (x : Ten), j < k → ts[j]? = some x → tenB x = true ∧ hasN (ts.take j) x.n = false) ∧ Hid (Below W.heap.size W wr))
  case atStart => exact ⟨0, by omega, rfl, Lib.hid fun j x hj => by omega, Lib.hid (Below.refl _ _)⟩
  case round =>
    obtain ⟨k, hk, rfl, HNO, HW⟩ := hrel
    by_cases hlt : k < N
    · obtain ⟨b, off, rfl, hbs, hcell⟩ := HR.out.cells.2.2 (by omega)
      obtain ⟨x, hx⟩ : ∃ x, ts[k]? = some x := ⟨_, List.getElem?_eq_getElem (by have := HN.out; omega)⟩
      obtain ⟨hat, hok⟩ := hcell k x hx
      obtain ⟨c0, c1, c2⟩ := hat.below hbs HW.out
      have n0 : (0 : Int) ≤ (k : Int) := by omega
      have n1 : (k : Int) < (N : Int) := by omega
      have n2 : (k : Int) ≤ (c : Int) := by have := HR.out.cells.2.1; omega
      have w2 : IntKind.i64.wrap ((k : Int) + 1) = ((k + 1 : Nat) : Int) := IntWalk.i64_in _ (by omega)
      have HX := Lib.hid hx
      clear hcell hx hok hat
      obtain ⟨n, y, r⟩ := x
      go_wp2_with fail
      refine (tmay_any ⟨n, y, r⟩ _).mono ?_
      rintro e w1 ⟨rfl, b1⟩
      have B1 := Lib.hid (((HW.out.alloc HW.out.size _).trans (b1.mono (Nat.le_trans HW.out.size (by simp)))))
      have cx : w1.cell? ⟨wr.heap.size, 0, none⟩ = some (.string n) := (b1.cell (p := ⟨wr.heap.size, 0, none⟩) (by simp)).trans (al_cell wr _ _ 0)
      have hx1 : wr.heap.size < w1.heap.size := Nat.lt_of_lt_of_le (by simp) b1.size
      clear b1
      cases hb : tenB ⟨n, y, r⟩ with
      | false =>
        have HB := Lib.hid hb
        clear hb
        go_wp2
        go_ret
        exact ⟨false, rfl, ⟨fun h => (by cases h), fun h => by have := (h.each k _ HX.out).1; rw [HB.out] at this; cases this⟩, B1.out⟩
      | true =>
        have HB := Lib.hid hb
        clear hb
        have k2 := Lib.hid (cont_any (nm := n) (p := wr.heap.size) ((HR.out.below B1.out).take k (by have := HN.out; omega)) (by rw [List.length_take]; have := HN.out; omega) (by omega) cx hx1)
        go_wp2_with fail
        refine k2.out.mono ?_
        rintro e w2 ⟨rfl, b2⟩
        have B2 := Lib.hid (B1.out.trans (b2.mono B1.out.size))
        clear b2 k2 cx hx1
        cases hq : hasN (ts.take k) n with
        | true =>
          have HQ := Lib.hid hq
          clear hq
          go_wp2
          go_ret
          exact ⟨false, rfl, ⟨fun h => (by cases h), fun h => by have := (h.each k _ HX.out).2; rw [HQ.out] at this; cases this⟩, B2.out⟩
        | false =>
          have HQ := Lib.hid hq
          clear hq
          go_wp2
          go_roundg (N - (k + 1))
          case measure => omega
          case rel =>
            refine ⟨k + 1, by omega, by first | rfl | simp, Lib.hid fun j z hj hz => ?_, B2⟩
            by_cases hjk : j = k
            · subst hjk
              rw [HX.out] at hz
              cases hz
              exact ⟨HB.out, HQ.out⟩
            · exact HNO.out j z (by omega) hz
    · have n1 : ¬ (k : Int) < (N : Int) := by omega
      go_wp2
      go_ret
      refine ⟨true, rfl, ⟨fun _ => ⟨by have := HN.out; omega, fun j x hj => HNO.out j x (by have := (List.getElem?_eq_some_iff.1 hj).1; have := HN.out; omega) hj⟩, fun _ => rfl⟩, HW.out⟩
end Go.Proofs.Ytegfjndlkjfepaa
