/- TokensAhead: the walk. -/
import Derived.Test.YtfnblnemdepimaaDoorTkV
import Derived.Test.YtfnblnemdepimaaDoorTkP
import Derived.Test.YtfnblnemdepimaaDoorTkQ
namespace Go.Proofs.YtfnblnemdepimaaDoor
open Go Go.Proofs Go.RowKit Go.Shelf
set_option linter.unusedVariables false
set_option linter.unusedSimpArgs false

/-- the first of them -/
theorem TReads.take {W : World} {v : Value} {ts : List Tk.Tok} (h : TReads W v ts) {a : Option Addr} {n cap : Nat} (hv : v = .slice a n cap) (j c : Nat) (hj : j ≤ ts.length) : TReads W (.slice a j c) (ts.take j) := by
  obtain ⟨a', cap', e, hc⟩ := h
  rw [e] at hv
  simp only [Value.slice.injEq] at hv
  obtain ⟨rfl, rfl, rfl⟩ := hv
  refine ⟨a', c, by rw [List.length_take, Nat.min_eq_left hj], fun hn => ?_⟩
  have hn2 : ts ≠ [] := by rintro rfl; simp at hn
  obtain ⟨b, ha, hb, hcc⟩ := hc hn2
  refine ⟨b, ha, hb, fun i t hi m hm => hcc i t ?_ m hm⟩
  rw [List.getElem?_take] at hi
  split at hi
  · exact hi
  · cases hi
theorem TFresh.cap_le {W : World} {base : Nat} {a : Option Addr} {n cap : Nat} {ts : List Tk.Tok} (h : TFresh W base (.slice a n cap) ts) : n ≤ cap := by
  rcases h.2 with ⟨e, _⟩ | ⟨g, c, cur, e, _, _, hc, _⟩
  · simp only [Value.slice.injEq] at e; omega
  · simp only [Value.slice.injEq] at e; omega
theorem ext_to (s : ByteArray) (z : Nat) : (s.extract 0 z).data.toList = s.data.toList.take z := by
  have := ext_take s 0 z
  rw [Nat.zero_add, List.drop_zero] at this
  rw [this]

set_option maxRecDepth 100000 in
set_option maxHeartbeats 4000000 in
theorem ahead_far {s : ByteArray} {x : Int} {w : World} (hT : HasTab w) (hs : 20000 < s.size) :
    Calls Tryd.prog 6 #[.string s, .int .u16 x] w fun e w' => e = .returned (.bool true) ∧ Below w.heap.size w w' := by
  have hlt := hT.lt
  have HT := Lib.hid hT
  have d1 : decide ((20000 : Int) < (s.size : Int)) = true := by simp; omega
  clear hT
  go_enter Tryd.func6, Tryd.ntmps6
  go_wp2_with fail
  refine (alive_any HT.out).mono ?_
  rintro e w1 ⟨rfl, b1⟩
  have B1 := Lib.hid b1
  clear b1
  go_wp2_with fail
  refine (alive_any (HT.out.below B1.out hlt)).mono ?_
  rintro e w2 ⟨rfl, b2⟩
  have B2 := Lib.hid (then_below B1.out b2)
  clear b2
  go_wp2_with fail
  go_ret
  exact ⟨rfl, B2.out⟩

set_option maxRecDepth 100000 in
set_option maxHeartbeats 8000000 in
theorem ahead_near {s : ByteArray} {n : Nat} {w : World} (hT : HasTab w) (hs : s.size ≤ 20000) (hn : n < 65536) :
    Calls Tryd.prog 6 #[.string s, .int .u16 (n : Int)] w fun e w' => e = .returned (.bool true) ∧ Below w.heap.size w w' := by
  have hlt := hT.lt
  have HT := Lib.hid hT
  have d1 : decide ((20000 : Int) < (s.size : Int)) = false := by simp; omega
  obtain ⟨ts, x, hR⟩ := Tk.Rd.total _ s.data.toList 0 (Nat.le_refl _)
  have HR := Lib.hid hR
  clear hT hR
  cases x with
  | some p =>
    go_enter Tryd.func6, Tryd.ntmps6
    go_wp2_with fail
    refine (alive_any HT.out).mono ?_
    rintro e w1 ⟨rfl, b1⟩
    have B1 := Lib.hid b1
    clear b1
    go_wp2_with fail
    refine (read_any (by omega) (HT.out.below B1.out hlt) HR.out).mono ?_
    rintro e w2 ⟨rfl, b2⟩
    have B2 := Lib.hid (then_below B1.out b2)
    clear b2
    go_wp2_with fail
    go_ret
    exact ⟨rfl, B2.out⟩
  | none =>
    obtain ⟨N, hN⟩ : ∃ N, N = ts.length := ⟨_, rfl⟩
    have hNs : N ≤ s.size := by rw [hN, size_list]; exact HR.out.len
    have HN := Lib.hid hN
    clear hN
    by_cases hz : N = 0
    · have hzi : ((N : Int) == 0) = true := by simp [hz]
      clear hz
      go_enter Tryd.func6, Tryd.ntmps6
      go_wp2_with fail
      refine (alive_any HT.out).mono ?_
      rintro e w1 ⟨rfl, b1⟩
      have B1 := Lib.hid b1
      clear b1
      go_wp2_with fail
      refine (read_any (by omega) (HT.out.below B1.out hlt) HR.out).mono ?_
      rintro e w2 ⟨v, rfl, g2, b2⟩
      have B2 := Lib.hid (then_below B1.out b2)
      obtain ⟨a, cap, rfl, hc⟩ := g2.reads
      rw [← HN.out]
      clear b2 g2 hc
      go_wp2_with fail
      go_ret
      exact ⟨rfl, B2.out⟩
    · have hzi : ((N : Int) == 0) = false := by simp [hz]
      have hz2 : 0 < N := by omega
      clear hz
      obtain ⟨q, hq⟩ : ∃ q, q = n % N := ⟨_, rfl⟩
      have hqN : q < N := by rw [hq]; exact Nat.mod_lt _ hz2
      have hqi : (n : Int) % (N : Int) = (q : Int) := by rw [hq]; simp
      clear hq
      obtain ⟨t, ht⟩ : ∃ t, ts[q]? = some t := ⟨_, List.getElem?_eq_getElem (by rw [← HN.out]; exact hqN)⟩
      obtain ⟨h1, h2, h3⟩ := HR.out.ahead q t ht
      obtain ⟨p, hp⟩ : ∃ p, p = t.pos := ⟨_, rfl⟩
      rw [Nat.zero_add, ← size_list, ← hp] at h2
      rw [Nat.sub_zero, ← hp, ← ext_to] at h3
      have HR3 := Lib.hid h3
      have HTT := Lib.hid ht
      have HP := Lib.hid hp
      clear h1 h3 ht hp
      go_enter Tryd.func6, Tryd.ntmps6
      go_wp2_with fail
      refine (alive_any HT.out).mono ?_
      rintro e w1 ⟨rfl, b1⟩
      have B1 := Lib.hid b1
      clear b1
      go_wp2_with fail
      refine (read_any (by omega) (HT.out.below B1.out hlt) HR.out).mono ?_
      rintro e w2 ⟨v, rfl, g2, b2⟩
      have B2 := Lib.hid (then_below B1.out b2)
      have G2 := Lib.hid g2.reads
      obtain ⟨a, cap, rfl, hc⟩ := g2.reads
      have hcap := g2.cap_le
      rw [← HN.out] at hcap
      try rw [← HN.out]
      have q7 : (q : Int) ≤ (cap : Int) := by omega
      obtain ⟨b, rfl, hb, hcc⟩ := hc (by intro e; have := HTT.out; rw [e] at this; cases this)
      have c2 := hcc q t HTT.out 2 (by omega)
      simp only [tcell, List.getElem?_cons_zero, List.getElem?_cons_succ, Nat.add_zero, ← HP.out] at c2
      clear b2 g2 hcc hc
      have q0 : (0 : Int) ≤ (q : Int) := by omega
      have q1 : (q : Int) < (N : Int) := by omega
      have q2 : decide ((p : Int) < 0) = false := decide_eq_false (by omega)
      have q3 : decide ((s.size : Int) < (p : Int)) = false := by simp; omega
      have q4 : decide (s.size < p) = false := by simp; omega
      have q5 : (0 : Int) ≤ (p : Int) := by omega
      have q6 : (p : Int) ≤ (s.size : Int) := by omega
      go_wp2_with fail
      refine (read_any (s := s.extract 0 p) (by rw [ByteArray.size_extract]; omega) (HT.out.below B2.out hlt) HR3.out).mono ?_
      rintro e w3 ⟨v3, rfl, g3, b3⟩
      have B3 := Lib.hid (then_below B2.out b3)
      have G3 := Lib.hid g3.reads
      have G4 := Lib.hid (G2.out.below b3)
      clear b3 g3 G2
      go_wp2_with fail
      refine (same_yes (ts := ts.take q) G3.out (G4.out.take (by rw [← HN.out]) q cap (by rw [← HN.out]; omega)) (by rw [List.length_take, ← HN.out]; omega)).mono ?_
      rintro e w4 ⟨rfl, nq, rfl⟩
      go_wp2_with fail
      go_ret
      exact ⟨rfl, below_drewN B3.out nq⟩

theorem ahead_any {s : ByteArray} {x : Int} {w : World} (hT : HasTab w) (hx : (Lit.int .u16 x).wf = true) :
    Calls Tryd.prog 6 #[.string s, .int .u16 x] w fun e w' => e = .returned (.bool true) ∧ Below w.heap.size w w' := by
  by_cases h : s.size ≤ 20000
  · simp [Lit.wf, IntKind.min, IntKind.max, IntKind.signed, IntKind.bits] at hx
    obtain ⟨n, rfl⟩ : ∃ n : Nat, x = (n : Int) := ⟨x.toNat, by omega⟩
    exact ahead_near hT h (by omega)
  · exact ahead_far hT (by omega)
end Go.Proofs.YtfnblnemdepimaaDoor
