/- Ledgers: LedgersFinds. -/
import Derived.Test.YtegfjndlkjfepaaLgD2
namespace Go.Proofs.Ytegfjndlkjfepaa
open Go Go.Proofs Go.RowKit Go.Shelf
set_option linter.unusedVariables false
set_option maxRecDepth 100000

attribute [local go_sem] Oper.semAt_some
set_option maxHeartbeats 8000000 in
theorem lfinds_all {w : World} {v : Value} {ts : List Ten} {s : ByteArray} (h : Tens w v ts) :
    Calls Try.prog 5 #[v, .string s] w fun e w' => e = .returned (.bool true) ∧ Below w.heap.size w w' := by
  have HT := Lib.hid h
  obtain ⟨a, c, rfl, hlc, hrow⟩ := h
  obtain ⟨N, hN⟩ : ∃ N, N = ts.length := ⟨_, rfl⟩
  have HN := Lib.hid hN
  rw [← hN] at hlc HT ⊢
  clear hN hrow
  go_enter Try.func5, Try.ntmps5
  go_wp2_with fail
  refine (lg_alive _).mono ?_
  rintro e w1 ⟨rfl, b1⟩
  have B1 := Lib.hid b1
  clear b1
  by_cases h16 : 16 < N
  · have l16 : (16 : Int) < (N : Int) := by omega
    go_wp2_with fail
    refine (lg_alive _).mono ?_
    rintro e w2 ⟨rfl, b2⟩
    go_wp2
    go_ret
    exact ⟨rfl, B1.out.trans (b2.mono B1.out.size)⟩
  have l16 : ¬ (16 : Int) < (N : Int) := by omega
  go_wp2_with fail
  refine (tsize_any (HT.out.below B1.out) (by have := HN.out; omega)).mono ?_
  rintro e w2 ⟨z, rfl, b2⟩
  have B2 := Lib.hid (B1.out.trans (b2.mono B1.out.size))
  clear b2 B1
  by_cases hz : 5000 < z
  · go_wp2_with fail
    refine (lg_alive _).mono ?_
    rintro e w3 ⟨rfl, b3⟩
    go_wp2
    go_ret
    exact ⟨rfl, B2.out.trans (b3.mono B2.out.size)⟩
  by_cases h1000 : 1000 < s.size
  · have l1000 : (1000 : Int) < (s.size : Int) := by omega
    go_wp2_with fail
    refine (lg_alive _).mono ?_
    rintro e w3 ⟨rfl, b3⟩
    go_wp2
    go_ret
    exact ⟨rfl, B2.out.trans (b3.mono B2.out.size)⟩
  have l1000 : ¬ (1000 : Int) < (s.size : Int) := by omega
  by_cases hm : MayT ts
  case neg =>
    go_wp2_with fail
    refine (lm_no (HT.out.below B2.out) hm).mono ?_
    rintro e w3 ⟨rfl, b3⟩
    have B3 := Lib.hid (B2.out.trans (b3.mono B2.out.size))
    clear b3
    go_wp2
    go_ret
    exact ⟨rfl, B3.out⟩
  have HM := Lib.hid hm
  go_wp2_with fail
  refine (lm_yes (HT.out.below B2.out) hm).mono ?_
  rintro e w3 ⟨P, own, rfl, hL, b3⟩
  have B3 := Lib.hid (B2.out.trans (b3.mono B2.out.size))
  have L3 := Lib.hid hL
  have X3 := Lib.hid B2.out.size
  clear hL b3 hm B2
  obtain ⟨X, hX⟩ : ∃ X, X = w2.heap.size := ⟨_, rfl⟩
  rw [← hX] at L3 X3
  clear hX
  have D3 := Lib.hid (show L1 w w3 P X own ts (ts.map (·.r)) from ⟨L3.out, B3.out⟩)
  clear L3 B3 X3
  have k0 : ((0 : Nat) : Int) = 0 := rfl
  go_wp2
  go_loopg [6, 7] N (fun g s6 s7 wr => ∃ (k : Nat) (q : Bool), k + g = N ∧ s7 = .int .i64 (k : Int) ∧ s6 = .bool q ∧ Hid (q = hasN (ts.take k) s) ∧ Hid (L1 w wr P X own ts (ts.map (·.r))))
  case atStart => exact ⟨0, false, by omega, rfl, rfl, Lib.hid (by simp [hasN]), D3⟩
  case round =>
    clear k0 D3
    obtain ⟨k, q, hk, rfl, rfl, HQ, HD⟩ := hrel
    by_cases hlt : k < N
    · obtain ⟨y, hy⟩ : ∃ y, ts[k]? = some y := ⟨_, List.getElem?_eq_getElem (by have := HN.out; omega)⟩
      obtain ⟨b, off, rfl, hb, hc⟩ := HT.out.cells.2.2 (by omega)
      have HCY := Lib.hid (fun (W : World) (hW : Below w.heap.size w W) => (hc k y hy).1.below hb hW)
      have p0 : (0 : Int) ≤ (k : Int) := by omega
      have p1 : (k : Int) < (N : Int) := by omega
      have w2 : IntKind.i64.wrap ((k : Int) + 1) = ((k + 1 : Nat) : Int) := IntWalk.i64_in _ (by omega)
      have HF := Lib.hid (find_self HM.out hy)
      have HY := Lib.hid hy
      obtain ⟨c0, _, _⟩ := HCY.out wr HD.out.bel
      clear hy hc
      obtain ⟨yn, yk, yr⟩ := y
      go_wp2_with fail
      refine (lfind_any (nm := yn) HD.out.ld).mono ?_
      rintro e w1 ⟨rfl, b1⟩
      rw [show findT 0 ts yn = some (k, ⟨yn, yk, yr⟩) from HF.out]
      dsimp only [findV]
      have D1 := Lib.hid (show L1 w w1 P X own ts (ts.map (·.r)) from ⟨HD.out.ld.below (B := 0) b1, HD.out.bel.trans (b1.mono HD.out.bel.size)⟩)
      clear b1 c0
      have al := alloc_below w1 (.cells #[.string yn, .string yk, .int .i64 yr] 32)
      have D2 := Lib.hid (show L1 w (w1.alloc (.cells #[.string yn, .string yk, .int .i64 yr] 32)) P X own ts (ts.map (·.r)) from ⟨D1.out.ld.below (B := 0) al, D1.out.bel.trans (al.mono D1.out.bel.size)⟩)
      have d0 := al_cell w1 #[.string yn, .string yk, .int .i64 yr] 32 0
      have d1 := al_cell w1 #[.string yn, .string yk, .int .i64 yr] 32 1
      have d2 := al_cell w1 #[.string yn, .string yk, .int .i64 yr] 32 2
      obtain ⟨W2, hW2⟩ : ∃ W2, W2 = w1.alloc (.cells #[.string yn, .string yk, .int .i64 yr] 32) := ⟨_, rfl⟩
      rw [← hW2] at D2 d0 d1 d2
      have d0 : W2.cell? ⟨w1.heap.size, 0, none⟩ = some (.string yn) := d0
      have d1 : W2.cell? ⟨w1.heap.size, 1, none⟩ = some (.string yk) := d1
      have d2 : W2.cell? ⟨w1.heap.size, 2, none⟩ = some (.int .i64 yr) := d2
      obtain ⟨c0, c1, c2⟩ := HCY.out W2 D2.out.bel
      have hne := ten_neq ⟨yn, yk, yr⟩
      clear al D1
      go_wp2
      rw [← hW2]
      clear hW2
      refine wp_region_quiet_lit (by kernel_rfl) (by kernel_rfl) ?_
      repeat (
        with_reducible refine wpQuiet_step (fun Kq hKq => ?_)
        go_simp
        first
          | (with_reducible refine hKq _ ?_; clear hKq Kq)
          | (with_reducible refine q_else (by simp [undef]) ?_
             with_reducible refine hKq _ ?_
             clear hKq Kq)
          | (apply Exists.intro
             with_reducible refine ⟨fun _ => ?_, hKq _ ?_⟩
             (fail)
             clear hKq Kq))
      with_reducible refine wpQuiet_nil ?_
      intro _ hw'
      obtain ⟨nq, hw''⟩ := hw'
      subst hw''
      obtain ⟨W3, hW3⟩ : ∃ W3, W3 = W2.drewN nq := ⟨_, rfl⟩
      have D4 := Lib.hid (D2.out.drewN nq)
      rw [← hW3] at D4 ⊢
      clear hW3 D2 d0 d1 d2 c0 c1 c2 hne
      obtain ⟨c0, _, _⟩ := HCY.out W3 D4.out.bel
      have HS := Lib.hid (hasN_snoc (nm := s) HY.out)
      cases q with
      | true =>
        go_wp2
        go_roundg (N - (k + 1))
        case measure => omega
        case rel => exact ⟨k + 1, true, by omega, by first | rfl | simp, rfl, Lib.hid (by rw [HS.out, ← HQ.out]; rfl), D4⟩
      | false =>
        obtain ⟨qb, hqb⟩ : ∃ qb, qb = decide (yn = s) := ⟨_, rfl⟩
        have HB := Lib.hid hqb
        have hst := str_eq yn s
        go_wp2
        go_roundg (N - (k + 1))
        case measure => omega
        case rel => exact ⟨k + 1, decide (yn = s), by omega, by first | rfl | simp, by first | rfl | rw [hst], Lib.hid (by rw [HS.out, ← HQ.out]; rfl), D4⟩
    · obtain rfl : k = N := by omega
      have p1 : ¬ (k : Int) < (k : Int) := by omega
      have hq2 : q = (findT 0 ts s).isSome := by
        have := HQ.out
        rw [List.take_of_length_le (by have := HN.out; omega), hasN_find] at this
        exact this
      obtain ⟨Z, hZ⟩ : ∃ Z, Z = findT 0 ts s := ⟨_, rfl⟩
      rw [← hZ] at hq2
      have HZ := Lib.hid hZ
      clear hZ HQ
      subst hq2
      cases Z with
      | none =>
        go_wp2_with fail
        refine (lfind_any (nm := s) HD.out.ld).mono ?_
        rintro e w1 ⟨rfl, b1⟩
        rw [← HZ.out]
        dsimp only [findV]
        go_wp2
        go_ret
        exact ⟨rfl, HD.out.bel.trans ((b1.alloc b1.size _).mono HD.out.bel.size)⟩
      | some y =>
        go_wp2_with fail
        refine (lfind_any (nm := s) HD.out.ld).mono ?_
        rintro e w1 ⟨rfl, b1⟩
        rw [← HZ.out]
        dsimp only [findV]
        go_wp2
        go_ret
        exact ⟨rfl, HD.out.bel.trans ((b1.alloc b1.size _).mono HD.out.bel.size)⟩
end Go.Proofs.Ytegfjndlkjfepaa
