/- Ledgers: LedgersMay: a tenant alone. -/
import Derived.Test.YtegfjndlkjfepaaLgD2
namespace Go.Proofs.Ytegfjndlkjfepaa
open Go Go.Proofs Go.RowKit Go.Shelf
set_option linter.unusedVariables false
set_option maxRecDepth 100000

attribute [local go_sem] Oper.semAt_some
theorem may_one {t : Ten} : MayT [t] ↔ tenB t = true := by
  constructor
  · intro h; exact (h.each 0 t rfl).1
  · intro h
    refine ⟨by simp, fun k x hx => ?_⟩
    match k, hx with
    | 0, hx => cases hx; exact ⟨h, rfl⟩
theorem tenB_no {n k : ByteArray} {r : Int} (h : ¬ (1 ≤ (k.size : Int) ∧ (k.size : Int) ≤ 64) ∨ ¬ (1 ≤ r ∧ r ≤ 1073741824)) : tenB ⟨n, k, r⟩ = false := by
  cases hh : tenB ⟨n, k, r⟩ with
  | false => rfl
  | true =>
    exfalso
    unfold tenB at hh
    simp only [Bool.and_eq_true] at hh
    have h2 := within_iff.1 hh.1.2
    have h3 := within_iff.1 hh.2
    rcases h with h | h
    · exact h h2
    · exact h h3
theorem may_two {t : Ten} : ¬ MayT [t, t] := fun h => by
  have := (h.each 1 t rfl).2
  rw [show ([t, t].take 1) = [t] from rfl, hasN_yes (k := 0) (x := t) rfl rfl] at this
  cases this
theorem tens_new (W : World) (ts : List Ten) (cs : Array Value) (n : Nat) (hcs : cs = (tflat ts).toArray) (hn : n = ts.length) (hok : ∀ t ∈ ts, t.ok) (h0 : n ≤ 100) : Tens (W.alloc (.cells cs 32)) (.slice (some ⟨W.heap.size, 0, none⟩) n n) ts := by
  subst hcs hn
  exact tens_row (ts := ts) (base := W.heap.size) ⟨tflat_len ts, .inr ⟨W.heap.size, ts.length, _, rfl, Nat.le_refl _, heap_alloc_new W _, Nat.le_refl _, by unfold maxLen; omega, by simp [tflat_len], by rw [← tflat_len]; simp⟩⟩ hok
set_option maxHeartbeats 8000000 in
theorem lmay_all {w : World} {t : Ten} (hok : t.ok) :
    Calls Try.prog 6 #[.agg #[.string t.n, .string t.k, .int .i64 t.r]] w fun e w' => e = .returned (.bool true) ∧ Below w.heap.size w w' := by
  have HO := Lib.hid hok
  obtain ⟨n, k, r⟩ := t
  clear hok
  obtain ⟨W0, hW0⟩ : ∃ W0, W0 = w.alloc (.cells #[.string n, .string k, .int .i64 r] 32) := ⟨_, rfl⟩
  have b0 : Below w.heap.size w W0 := by rw [hW0]; exact alloc_below w _
  have x0 : W0.cell? ⟨w.heap.size, 0, none⟩ = some (.string n) := by rw [hW0]; exact al_cell w _ _ 0
  have x1 : W0.cell? ⟨w.heap.size, 1, none⟩ = some (.string k) := by rw [hW0]; exact al_cell w _ _ 1
  have x2 : W0.cell? ⟨w.heap.size, 2, none⟩ = some (.int .i64 r) := by rw [hW0]; exact al_cell w _ _ 2
  have hs0 : w.heap.size < W0.heap.size := by rw [hW0]; simp
  have HC := Lib.hid (show ∀ W, Below W0.heap.size W0 W → W.cell? ⟨w.heap.size, 0, none⟩ = some (.string n) ∧ W.cell? ⟨w.heap.size, 1, none⟩ = some (.string k) ∧ W.cell? ⟨w.heap.size, 2, none⟩ = some (.int .i64 r) from fun W h => ⟨(h.cell (p := ⟨w.heap.size, 0, none⟩) hs0).trans x0, (h.cell (p := ⟨w.heap.size, 1, none⟩) hs0).trans x1, (h.cell (p := ⟨w.heap.size, 2, none⟩) hs0).trans x2⟩)
  have B0 := Lib.hid b0
  clear b0 x0 x1 x2
  go_enter Try.func6, Try.ntmps6
  go_wp2_with fail
  rw [← hW0]
  clear hW0
  refine (lg_alive _).mono ?_
  rintro e w1 ⟨rfl, b1⟩
  have B1 := Lib.hid b1
  obtain ⟨c0, c1, c2⟩ := HC.out w1 b1
  clear b1
  by_cases hn : 1000 < n.size
  · have ln : (1000 : Int) < (n.size : Int) := by omega
    go_wp2_with fail
    refine (lg_alive _).mono ?_
    rintro e w2 ⟨rfl, b2⟩
    go_wp2
    go_ret
    exact ⟨rfl, (B0.out.trans (B1.out.mono B0.out.size)).trans (b2.mono (Nat.le_trans B0.out.size B1.out.size))⟩
  have ln : ¬ (1000 : Int) < (n.size : Int) := by omega
  by_cases hk : 1000 < k.size
  · have lk : (1000 : Int) < (k.size : Int) := by omega
    go_wp2_with fail
    refine (lg_alive _).mono ?_
    rintro e w2 ⟨rfl, b2⟩
    go_wp2
    go_ret
    exact ⟨rfl, (B0.out.trans (B1.out.mono B0.out.size)).trans (b2.mono (Nat.le_trans B0.out.size B1.out.size))⟩
  have lk : ¬ (1000 : Int) < (k.size : Int) := by omega
  have KN := Lib.hid (fun W => name_any n W (by omega))
  obtain ⟨NB, hNB⟩ : ∃ NB, NB = nameB n.data.toList := ⟨_, rfl⟩
  rw [← hNB] at KN
  have HNB := Lib.hid hNB
  clear hNB
  go_wp2_with fail
  refine (KN.out _).mono ?_
  rintro e w2 ⟨rfl, rfl⟩
  cases NB with
  | false =>
    go_wp2_with fail
    have al1 := alloc_below w1 (.cells #[.string n, .string k, .int .i64 r] 32)
    have T1 := Lib.hid (tens_new w1 [⟨n, k, r⟩] #[.string n, .string k, .int .i64 r] 1 rfl rfl (fun t ht => by simp only [List.mem_cons, List.not_mem_nil, or_false] at ht; rw [ht]; exact HO.out) (by decide))
    have HTB := Lib.hid (show tenB ⟨n, k, r⟩ = false by unfold tenB; rw [← HNB.out]; rfl)
    clear c0 c1 c2
    obtain ⟨W2, hW2⟩ : ∃ W2, W2 = w1.alloc (.cells #[.string n, .string k, .int .i64 r] 32) := ⟨_, rfl⟩
    rw [← hW2] at al1 T1
    have A1 := Lib.hid (B1.out.trans (al1.mono B1.out.size))
    clear al1
    rw [← hW2]
    clear hW2
    refine (lnew_no T1.out (fun h => by have := may_one.1 h; rw [HTB.out] at this; cases this)).mono ?_
    rintro e w3 ⟨rfl, b3⟩
    have A2 := Lib.hid (A1.out.trans (b3.mono A1.out.size))
    obtain ⟨c0, c1, c2⟩ := HC.out w3 A2.out
    clear b3
    have al2 := alloc_below w3 (.cells #[.string n, .string k, .int .i64 r, .string n, .string k, .int .i64 r] 32)
    have T2 := Lib.hid (tens_new w3 [⟨n, k, r⟩, ⟨n, k, r⟩] #[.string n, .string k, .int .i64 r, .string n, .string k, .int .i64 r] 2 rfl rfl (fun t ht => by simp only [List.mem_cons, List.not_mem_nil, or_false] at ht; rcases ht with rfl | rfl <;> exact HO.out) (by decide))
    go_wp2_with fail
    refine (lnew_no T2.out may_two).mono ?_
    rintro e w4 ⟨rfl, b4⟩
    go_wp2
    go_ret
    exact ⟨by first | rfl | exact ret_bool (by simp; omega), B0.out.trans ((A2.out.trans ((al2.trans (b4.mono al2.size)).mono A2.out.size)).mono B0.out.size)⟩
  | true =>
    by_cases h1 : (1 : Int) ≤ (k.size : Int)
    case neg =>
      have gh1 := h1
      go_wp2_with fail
      have al1 := alloc_below w1 (.cells #[.string n, .string k, .int .i64 r] 32)
      have T1 := Lib.hid (tens_new w1 [⟨n, k, r⟩] #[.string n, .string k, .int .i64 r] 1 rfl rfl (fun t ht => by simp only [List.mem_cons, List.not_mem_nil, or_false] at ht; rw [ht]; exact HO.out) (by decide))
      have HTB := Lib.hid (show tenB ⟨n, k, r⟩ = false from tenB_no (by left; omega))
      clear c0 c1 c2
      obtain ⟨W2, hW2⟩ : ∃ W2, W2 = w1.alloc (.cells #[.string n, .string k, .int .i64 r] 32) := ⟨_, rfl⟩
      rw [← hW2] at al1 T1
      have A1 := Lib.hid (B1.out.trans (al1.mono B1.out.size))
      clear al1
      rw [← hW2]
      clear hW2
      refine (lnew_no T1.out (fun h => by have := may_one.1 h; rw [HTB.out] at this; cases this)).mono ?_
      rintro e w3 ⟨rfl, b3⟩
      have A2 := Lib.hid (A1.out.trans (b3.mono A1.out.size))
      obtain ⟨c0, c1, c2⟩ := HC.out w3 A2.out
      clear b3
      have al2 := alloc_below w3 (.cells #[.string n, .string k, .int .i64 r, .string n, .string k, .int .i64 r] 32)
      have T2 := Lib.hid (tens_new w3 [⟨n, k, r⟩, ⟨n, k, r⟩] #[.string n, .string k, .int .i64 r, .string n, .string k, .int .i64 r] 2 rfl rfl (fun t ht => by simp only [List.mem_cons, List.not_mem_nil, or_false] at ht; rcases ht with rfl | rfl <;> exact HO.out) (by decide))
      go_wp2_with fail
      refine (lnew_no T2.out may_two).mono ?_
      rintro e w4 ⟨rfl, b4⟩
      go_wp2
      go_ret
      exact ⟨by first | rfl | exact ret_bool (by simp; omega), B0.out.trans ((A2.out.trans ((al2.trans (b4.mono al2.size)).mono A2.out.size)).mono B0.out.size)⟩
    by_cases h2 : (k.size : Int) ≤ 64
    case neg =>
      have gh2 := h2
      go_wp2_with fail
      have al1 := alloc_below w1 (.cells #[.string n, .string k, .int .i64 r] 32)
      have T1 := Lib.hid (tens_new w1 [⟨n, k, r⟩] #[.string n, .string k, .int .i64 r] 1 rfl rfl (fun t ht => by simp only [List.mem_cons, List.not_mem_nil, or_false] at ht; rw [ht]; exact HO.out) (by decide))
      have HTB := Lib.hid (show tenB ⟨n, k, r⟩ = false from tenB_no (by left; omega))
      clear c0 c1 c2
      obtain ⟨W2, hW2⟩ : ∃ W2, W2 = w1.alloc (.cells #[.string n, .string k, .int .i64 r] 32) := ⟨_, rfl⟩
      rw [← hW2] at al1 T1
      have A1 := Lib.hid (B1.out.trans (al1.mono B1.out.size))
      clear al1
      rw [← hW2]
      clear hW2
      refine (lnew_no T1.out (fun h => by have := may_one.1 h; rw [HTB.out] at this; cases this)).mono ?_
      rintro e w3 ⟨rfl, b3⟩
      have A2 := Lib.hid (A1.out.trans (b3.mono A1.out.size))
      obtain ⟨c0, c1, c2⟩ := HC.out w3 A2.out
      clear b3
      have al2 := alloc_below w3 (.cells #[.string n, .string k, .int .i64 r, .string n, .string k, .int .i64 r] 32)
      have T2 := Lib.hid (tens_new w3 [⟨n, k, r⟩, ⟨n, k, r⟩] #[.string n, .string k, .int .i64 r, .string n, .string k, .int .i64 r] 2 rfl rfl (fun t ht => by simp only [List.mem_cons, List.not_mem_nil, or_false] at ht; rcases ht with rfl | rfl <;> exact HO.out) (by decide))
      go_wp2_with fail
      refine (lnew_no T2.out may_two).mono ?_
      rintro e w4 ⟨rfl, b4⟩
      go_wp2
      go_ret
      exact ⟨by first | rfl | exact ret_bool (by simp; omega), B0.out.trans ((A2.out.trans ((al2.trans (b4.mono al2.size)).mono A2.out.size)).mono B0.out.size)⟩
    by_cases h3 : (1 : Int) ≤ r
    case neg =>
      have gh3 := h3
      go_wp2_with fail
      have al1 := alloc_below w1 (.cells #[.string n, .string k, .int .i64 r] 32)
      have T1 := Lib.hid (tens_new w1 [⟨n, k, r⟩] #[.string n, .string k, .int .i64 r] 1 rfl rfl (fun t ht => by simp only [List.mem_cons, List.not_mem_nil, or_false] at ht; rw [ht]; exact HO.out) (by decide))
      have HTB := Lib.hid (show tenB ⟨n, k, r⟩ = false from tenB_no (by right; omega))
      clear c0 c1 c2
      obtain ⟨W2, hW2⟩ : ∃ W2, W2 = w1.alloc (.cells #[.string n, .string k, .int .i64 r] 32) := ⟨_, rfl⟩
      rw [← hW2] at al1 T1
      have A1 := Lib.hid (B1.out.trans (al1.mono B1.out.size))
      clear al1
      rw [← hW2]
      clear hW2
      refine (lnew_no T1.out (fun h => by have := may_one.1 h; rw [HTB.out] at this; cases this)).mono ?_
      rintro e w3 ⟨rfl, b3⟩
      have A2 := Lib.hid (A1.out.trans (b3.mono A1.out.size))
      obtain ⟨c0, c1, c2⟩ := HC.out w3 A2.out
      clear b3
      have al2 := alloc_below w3 (.cells #[.string n, .string k, .int .i64 r, .string n, .string k, .int .i64 r] 32)
      have T2 := Lib.hid (tens_new w3 [⟨n, k, r⟩, ⟨n, k, r⟩] #[.string n, .string k, .int .i64 r, .string n, .string k, .int .i64 r] 2 rfl rfl (fun t ht => by simp only [List.mem_cons, List.not_mem_nil, or_false] at ht; rcases ht with rfl | rfl <;> exact HO.out) (by decide))
      go_wp2_with fail
      refine (lnew_no T2.out may_two).mono ?_
      rintro e w4 ⟨rfl, b4⟩
      go_wp2
      go_ret
      exact ⟨by first | rfl | exact ret_bool (by simp; omega), B0.out.trans ((A2.out.trans ((al2.trans (b4.mono al2.size)).mono A2.out.size)).mono B0.out.size)⟩
    by_cases h4 : r ≤ 1073741824
    case neg =>
      have gh4 := h4
      go_wp2_with fail
      have al1 := alloc_below w1 (.cells #[.string n, .string k, .int .i64 r] 32)
      have T1 := Lib.hid (tens_new w1 [⟨n, k, r⟩] #[.string n, .string k, .int .i64 r] 1 rfl rfl (fun t ht => by simp only [List.mem_cons, List.not_mem_nil, or_false] at ht; rw [ht]; exact HO.out) (by decide))
      have HTB := Lib.hid (show tenB ⟨n, k, r⟩ = false from tenB_no (by right; omega))
      clear c0 c1 c2
      obtain ⟨W2, hW2⟩ : ∃ W2, W2 = w1.alloc (.cells #[.string n, .string k, .int .i64 r] 32) := ⟨_, rfl⟩
      rw [← hW2] at al1 T1
      have A1 := Lib.hid (B1.out.trans (al1.mono B1.out.size))
      clear al1
      rw [← hW2]
      clear hW2
      refine (lnew_no T1.out (fun h => by have := may_one.1 h; rw [HTB.out] at this; cases this)).mono ?_
      rintro e w3 ⟨rfl, b3⟩
      have A2 := Lib.hid (A1.out.trans (b3.mono A1.out.size))
      obtain ⟨c0, c1, c2⟩ := HC.out w3 A2.out
      clear b3
      have al2 := alloc_below w3 (.cells #[.string n, .string k, .int .i64 r, .string n, .string k, .int .i64 r] 32)
      have T2 := Lib.hid (tens_new w3 [⟨n, k, r⟩, ⟨n, k, r⟩] #[.string n, .string k, .int .i64 r, .string n, .string k, .int .i64 r] 2 rfl rfl (fun t ht => by simp only [List.mem_cons, List.not_mem_nil, or_false] at ht; rcases ht with rfl | rfl <;> exact HO.out) (by decide))
      go_wp2_with fail
      refine (lnew_no T2.out may_two).mono ?_
      rintro e w4 ⟨rfl, b4⟩
      go_wp2
      go_ret
      exact ⟨by first | rfl | exact ret_bool (by simp; omega), B0.out.trans ((A2.out.trans ((al2.trans (b4.mono al2.size)).mono A2.out.size)).mono B0.out.size)⟩
    go_wp2_with fail
    have al1 := alloc_below w1 (.cells #[.string n, .string k, .int .i64 r] 32)
    have T1 := Lib.hid (tens_new w1 [⟨n, k, r⟩] #[.string n, .string k, .int .i64 r] 1 rfl rfl (fun t ht => by simp only [List.mem_cons, List.not_mem_nil, or_false] at ht; rw [ht]; exact HO.out) (by decide))
    have HTB := Lib.hid (show tenB ⟨n, k, r⟩ = true by unfold tenB; rw [← HNB.out, within_iff.2 ⟨h1, h2⟩, within_iff.2 ⟨h3, h4⟩]; rfl)
    clear c0 c1 c2
    obtain ⟨W2, hW2⟩ : ∃ W2, W2 = w1.alloc (.cells #[.string n, .string k, .int .i64 r] 32) := ⟨_, rfl⟩
    rw [← hW2] at al1 T1
    have A1 := Lib.hid (B1.out.trans (al1.mono B1.out.size))
    clear al1
    rw [← hW2]
    clear hW2
    refine (lnew_yes T1.out (may_one.2 HTB.out)).mono ?_
    rintro e w3 ⟨P, own, lf, rfl, _, _, b3⟩
    have A2 := Lib.hid (A1.out.trans (b3.mono A1.out.size))
    obtain ⟨c0, c1, c2⟩ := HC.out w3 A2.out
    clear b3
    have al2 := alloc_below w3 (.cells #[.string n, .string k, .int .i64 r, .string n, .string k, .int .i64 r] 32)
    have T2 := Lib.hid (tens_new w3 [⟨n, k, r⟩, ⟨n, k, r⟩] #[.string n, .string k, .int .i64 r, .string n, .string k, .int .i64 r] 2 rfl rfl (fun t ht => by simp only [List.mem_cons, List.not_mem_nil, or_false] at ht; rcases ht with rfl | rfl <;> exact HO.out) (by decide))
    go_wp2_with fail
    refine (lnew_no T2.out may_two).mono ?_
    rintro e w4 ⟨rfl, b4⟩
    go_wp2
    go_ret
    exact ⟨by first | rfl | exact ret_bool (by simp; omega), B0.out.trans ((A2.out.trans ((al2.trans (b4.mono al2.size)).mono A2.out.size)).mono B0.out.size)⟩
end Go.Proofs.Ytegfjndlkjfepaa
