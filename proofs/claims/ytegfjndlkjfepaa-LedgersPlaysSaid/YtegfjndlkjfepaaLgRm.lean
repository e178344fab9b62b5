/- Ledgers: may tenants be? as the document asks it. -/
import Derived.Test.YtegfjndlkjfepaaLgR
namespace Go.Proofs.Ytegfjndlkjfepaa
open Go Go.Proofs Go.RowKit Go.Shelf
set_option linter.unusedVariables false
set_option maxRecDepth 100000

attribute [local go_sem] Oper.semAt_some
theorem tenB_name {n k : ByteArray} {r : Int} (h : nameB n.data.toList = false) : tenB ⟨n, k, r⟩ = false := by unfold tenB; rw [h]; rfl
theorem tenB_no2 {n k : ByteArray} {r : Int} (h : ¬ (1 ≤ (k.size : Int) ∧ (k.size : Int) ≤ 64) ∨ ¬ (1 ≤ r ∧ r ≤ 1073741824)) : tenB ⟨n, k, r⟩ = false := by
  cases hh : tenB ⟨n, k, r⟩ with
  | false => rfl
  | true =>
    exfalso
    unfold tenB at hh
    simp only [Bool.and_eq_true] at hh
    have h2 := within_iff.1 hh.1.2
    have h3 := within_iff.1 hh.2
    rcases h with h | h
    · exact h h2
    · exact h h3
theorem not_may {ts : List Ten} {k : Nat} {x : Ten} (hx : ts[k]? = some x) (h : tenB x = false) : ¬ MayT ts := fun hm => by
  have := (hm.each k x hx).1
  rw [h] at this
  cases this
set_option maxHeartbeats 8000000 in
theorem rmay_any {W : World} {a : Option Addr} {N c : Nat} {ts : List Ten} (h : Tens W (.slice a N c) ts) (hN : N = ts.length) (hsz : ∀ t ∈ ts, t.n.size ≤ maxLen) :
    Calls Try.prog 37 #[.slice a N c] W fun e W' => MayAns W W' ts e := by
  have HN := Lib.hid hN
  have HR := Lib.hid h
  have HSZ := Lib.hid hsz
  clear h hN hsz
  go_enter Try.func37, Try.ntmps37
  by_cases h0 : N < 1
  · have e0 : (N : Int) < 1 := by omega
    go_wp2
    go_ret
    exact ⟨false, rfl, ⟨fun h => (by cases h), fun h => by have := h.few; have := HN.out; omega⟩, Below.refl _ _⟩
  have e0 : ¬ (N : Int) < 1 := by omega
  by_cases h16 : 16 < N
  · have e1 : (16 : Int) < (N : Int) := by omega
    go_wp2
    go_ret
    exact ⟨false, rfl, ⟨fun h => (by cases h), fun h => by have := h.few; have := HN.out; omega⟩, Below.refl _ _⟩
  have e1 : ¬ (16 : Int) < (N : Int) := by omega
  go_wp2
  go_loopg [3] N (fun g s3 wr => ∃ k : Nat, k + g = N ∧ s3 = .int .i64 (k : Int) ∧ Hid (∀ (j : Nat) (x : Ten), j < k → ts[j]? = some x → tenB x = true ∧ hasN (ts.take j) x.n = false) ∧ Hid (Below W.heap.size W wr))
  case atStart => exact ⟨0, by omega, rfl, Lib.hid fun j x hj => by omega, Lib.hid (Below.refl _ _)⟩
  case round =>
    obtain ⟨k, hk, rfl, HNO, HW⟩ := hrel
    by_cases hlt : k < N
    case neg =>
      have n1 : ¬ (k : Int) < (N : Int) := by omega
      go_wp2
      go_ret
      exact ⟨true, rfl, ⟨fun _ => ⟨by have := HN.out; omega, fun j x hj => HNO.out j x (by have := (List.getElem?_eq_some_iff.1 hj).1; have := HN.out; omega) hj⟩, fun _ => rfl⟩, HW.out⟩
    obtain ⟨b, off, rfl, hbs, hcell⟩ := HR.out.cells.2.2 (by omega)
    have HCL := Lib.hid (show ∀ (W' : World), Below W.heap.size W W' → ∀ (j : Nat) (t : Ten), ts[j]? = some t → TenAt W' b (off + j * 3) t from fun W' hW j t ht => (hcell j t ht).1.below hbs hW)
    obtain ⟨x, hx⟩ : ∃ x, ts[k]? = some x := ⟨_, List.getElem?_eq_getElem (by have := HN.out; omega)⟩
    obtain ⟨c0, c1, c2⟩ := HCL.out wr HW.out k x hx
    have n0 : (0 : Int) ≤ (k : Int) := by omega
    have n1 : (k : Int) < (N : Int) := by omega
    have w2 : IntKind.i64.wrap ((k : Int) + 1) = ((k + 1 : Nat) : Int) := IntWalk.i64_in _ (by omega)
    have HX := Lib.hid hx
    have HSX := Lib.hid (HSZ.out x (List.mem_of_getElem? hx))
    clear hcell hx
    obtain ⟨xn, xk, xr⟩ := x
    go_wp2_with fail
    refine (rname_any xn _ HSX.out).mono ?_
    rintro e w1 ⟨rfl, b1⟩
    rw [rname_same]
    have B1 := Lib.hid ((HW.out.alloc HW.out.size _).trans (b1.mono (Nat.le_trans HW.out.size (by simp))))
    have cx : ∀ i, w1.cell? ⟨wr.heap.size, i, none⟩ = #[Value.string xn, .string xk, .int .i64 xr][i]? := fun i => (b1.cell (p := ⟨wr.heap.size, i, none⟩) (by simp)).trans (al_cell wr _ _ i)
    have x0 : w1.cell? ⟨wr.heap.size, 0, none⟩ = some (.string xn) := cx 0
    have x1 : w1.cell? ⟨wr.heap.size, 1, none⟩ = some (.string xk) := cx 1
    have x2 : w1.cell? ⟨wr.heap.size, 2, none⟩ = some (.int .i64 xr) := cx 2
    have hp1 : wr.heap.size < w1.heap.size := Nat.lt_of_lt_of_le (by simp) b1.size
    clear b1 cx c0 c1 c2
    cases hnb : nameB xn.data.toList with
    | false =>
      have HNB := Lib.hid hnb
      clear hnb
      go_wp2
      go_ret
      exact ⟨false, rfl, ⟨fun h => (by cases h), fun h => absurd h (not_may HX.out (tenB_name HNB.out))⟩, B1.out⟩
    | true =>
    have HNB := Lib.hid hnb
    clear hnb
    by_cases q1 : (xk.size : Int) < 1
    case pos =>
      go_wp2
      go_ret
      exact ⟨false, by first | rfl | exact ret_bool (by simp; omega), ⟨fun h => (by cases h), fun h => absurd h (not_may HX.out (tenB_no2 (by left; omega)))⟩, B1.out⟩
    by_cases q2 : (64 : Int) < (xk.size : Int)
    case pos =>
      go_wp2
      go_ret
      exact ⟨false, by first | rfl | exact ret_bool (by simp; omega), ⟨fun h => (by cases h), fun h => absurd h (not_may HX.out (tenB_no2 (by left; omega)))⟩, B1.out⟩
    by_cases q3 : xr < 1
    case pos =>
      go_wp2
      go_ret
      exact ⟨false, by first | rfl | exact ret_bool (by simp; omega), ⟨fun h => (by cases h), fun h => absurd h (not_may HX.out (tenB_no2 (by right; omega)))⟩, B1.out⟩
    by_cases q4 : (1073741824 : Int) < xr
    case pos =>
      go_wp2
      go_ret
      exact ⟨false, by first | rfl | exact ret_bool (by simp; omega), ⟨fun h => (by cases h), fun h => absurd h (not_may HX.out (tenB_no2 (by right; omega)))⟩, B1.out⟩
    have HTB := Lib.hid (show tenB ⟨xn, xk, xr⟩ = true by unfold tenB; rw [HNB.out, within_iff.2 (show 1 ≤ (xk.size : Int) ∧ (xk.size : Int) ≤ 64 by omega), within_iff.2 (show 1 ≤ xr ∧ xr ≤ 1073741824 by omega)]; rfl)
    have k0 : ((0 : Nat) : Int) = 0 := rfl
    go_wp2
    obtain ⟨p, hp⟩ : ∃ p, p = wr.heap.size := ⟨_, rfl⟩
    rw [← hp] at x0 hp1
    have HX0 := Lib.hid x0
    simp only [← hp]
    clear hp x0 x1 x2
    go_loopg [5] k (fun g s5 wr2 => ∃ j : Nat, j + g = k ∧ s5 = .int .i64 (j : Int) ∧ Hid (∀ (i : Nat) (y : Ten), i < j → ts[i]? = some y → y.n ≠ xn) ∧ Hid (Below w1.heap.size w1 wr2))
    case atStart => exact ⟨0, by omega, rfl, Lib.hid fun j x hj => by omega, Lib.hid (Below.refl _ _)⟩
    case round =>
      clear k0
      obtain ⟨j, hj, rfl, HNJ, HW2⟩ := hrel
      by_cases hjk : j < k
      · obtain ⟨y, hy⟩ : ∃ y, ts[j]? = some y := ⟨_, List.getElem?_eq_getElem (by have := HN.out; omega)⟩
        have x0 := (HW2.out.cell (p := ⟨p, 0, none⟩) hp1).trans HX0.out
        obtain ⟨y0, _, _⟩ := HCL.out _ (B1.out.trans (HW2.out.mono B1.out.size)) j y hy
        have m0 : (0 : Int) ≤ (j : Int) := by omega
        have m1 : (j : Int) < (k : Int) := by omega
        have m2 : (j : Int) < (N : Int) := by omega
        have w3 : IntKind.i64.wrap ((j : Int) + 1) = ((j + 1 : Nat) : Int) := IntWalk.i64_in _ (by omega)
        have HYJ := Lib.hid hy
        have hst := str_eq y.n xn
        clear hy
        obtain ⟨yn, yk, yr⟩ := y
        by_cases hq : yn = xn
        · have HQ := Lib.hid hq
          have hq2 := decide_eq_true hq
          rw [show ({ n := yn, k := yk, r := yr } : Ten).n = yn from rfl, hq2] at hst
          clear hq
          go_wp2
          refine wp_region_quiet_lit (by kernel_rfl) (by kernel_rfl) ?_
          repeat (
            with_reducible refine wpQuiet_step (fun Kq hKq => ?_)
            go_simp
            first
              | (with_reducible refine hKq _ ?_; clear hKq Kq)
              | (with_reducible refine q_else (by simp [undef]) ?_
                 with_reducible refine hKq _ ?_
                 clear hKq Kq)
              | (apply Exists.intro
                 with_reducible refine ⟨fun _ => ?_, hKq _ ?_⟩
                 (fail)
                 clear hKq Kq))
          with_reducible refine wpQuiet_nil ?_
          intro _ hw'
          obtain ⟨nq, hw''⟩ := hw'
          subst hw''
          go_wp2
          go_ret
          refine ⟨false, rfl, ⟨fun h => (by cases h), fun h => ?_⟩, below_drewN (B1.out.trans (HW2.out.mono B1.out.size)) _⟩
          have h2 := (h.each k _ HX.out).2
          rw [hasN_yes (k := j) (x := ⟨yn, yk, yr⟩) (by rw [List.getElem?_take, if_pos hjk]; exact HYJ.out) HQ.out] at h2
          cases h2
        · have HQ := Lib.hid hq
          have hq2 := decide_eq_false hq
          rw [show ({ n := yn, k := yk, r := yr } : Ten).n = yn from rfl, hq2] at hst
          clear hq
          go_wp2
          refine wp_region_quiet_lit (by kernel_rfl) (by kernel_rfl) ?_
          repeat (
            with_reducible refine wpQuiet_step (fun Kq hKq => ?_)
            go_simp
            first
              | (with_reducible refine hKq _ ?_; clear hKq Kq)
              | (with_reducible refine q_else (by simp [undef]) ?_
                 with_reducible refine hKq _ ?_
                 clear hKq Kq)
              | (apply Exists.intro
                 with_reducible refine ⟨fun _ => ?_, hKq _ ?_⟩
                 (fail)
                 clear hKq Kq))
          with_reducible refine wpQuiet_nil ?_
          intro _ hw'
          obtain ⟨nq, hw''⟩ := hw'
          subst hw''
          go_wp2
          go_roundg (k - (j + 1))
          case measure => omega
          case rel =>
            refine ⟨j + 1, by omega, by first | rfl | simp, Lib.hid fun i z hi hz => ?_, Lib.hid (below_drewN HW2.out _)⟩
            by_cases hij : i = j
            · subst hij
              rw [HYJ.out] at hz
              cases hz
              exact HQ.out
            · exact HNJ.out i z (by omega) hz
      · have m1 : ¬ (j : Int) < (k : Int) := by omega
        have HHN := Lib.hid (show hasN (ts.take k) xn = false from hasN_no fun i y hy => by
          rw [List.getElem?_take] at hy
          split at hy
          · rename_i hi
            exact HNJ.out i y (by omega) hy
          · cases hy)
        go_wp2
        go_roundg (N - (k + 1))
        case measure => omega
        case rel =>
          refine ⟨k + 1, by omega, by first | rfl | simp, Lib.hid fun i z hi hz => ?_, Lib.hid (B1.out.trans (HW2.out.mono B1.out.size))⟩
          by_cases hik : i = k
          · subst hik
            rw [HX.out] at hz
            cases hz
            exact ⟨HTB.out, HHN.out⟩
          · exact HNO.out i z (by omega) hz
end Go.Proofs.Ytegfjndlkjfepaa
