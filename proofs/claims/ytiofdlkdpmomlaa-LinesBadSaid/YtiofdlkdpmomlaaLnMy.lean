/- LinesMany: its walk. -/
import Derived.Test.YtiofdlkdpmomlaaLnV
namespace Go.Proofs.Ytiofdlkdpmomlaa
open Go Go.Proofs Go.RowKit Go.Shelf
set_option linter.unusedVariables false
set_option linter.unusedSimpArgs false
set_option linter.unnecessarySimpa false

attribute [local go_sem] Oper.semAt_some
/-- what was handed over is not the reader's own -/
theorem arg_keep {w W : World} {v : Value} {n : Nat} {xs : List Value} {own : Nat → Prop} (h : RdC w v n xs) (hb : Below w.heap.size w W) (hp : ∀ b, own b → w.heap.size ≤ b) :
    ∀ W', W.heap.size ≤ W'.heap.size → (∀ b, b < W.heap.size → ¬ own b → W'.heap[b]? = W.heap[b]?) → RdC W' v n xs := by
  intro W' hs hk
  refine rdc_keep (h.below hb) hs fun b off sp c e h0 hlt => hk b hlt fun ho => ?_
  obtain ⟨a, c', e2, _, h2⟩ := h
  rw [e2] at e
  cases e
  obtain ⟨b', off', e3, hlt2, _⟩ := h2 h0
  cases e3
  have := hp b ho
  omega
theorem PutAns.owns {W W' : World} {P base : Nat} {own own' : Nat → Prop} {cur l : List UInt8} {vl vb : Value} (A : PutAns PRd W P base own cur l vl vb own' W') : ∀ b, own' b → base ≤ b := fun b hb => (A.1.lt hb).1
theorem scell_at {ws : List (List UInt8)} {i : Nat} {t : List UInt8} (h : ws[i]? = some t) : (scells ws)[i]? = some (.string ⟨t.toArray⟩) := by unfold scells; rw [List.getElem?_map, h]; rfl
theorem truth_at {bs : List Bool} {i : Nat} {b : Bool} (h : bs[i]? = some b) : (bs.map tcellB)[i]? = some (.bool b) := by rw [List.getElem?_map, h]; rfl
theorem ill_cases {c : UInt8} (h : Ln.ill c = false) : (c.toNat = 9 ∨ 32 ≤ c.toNat) ∧ c.toNat ≤ 126 := by
  unfold Ln.ill at h
  rw [Bool.or_eq_false_iff, Bool.and_eq_false_iff, decide_eq_false_iff_not, decide_eq_false_iff_not] at h
  refine ⟨?_, by omega⟩
  rcases h.1 with h1 | h1
  · exact .inr (by omega)
  · left
    simp at h1
    rw [h1]; rfl
set_option maxRecDepth 100000 in
set_option maxHeartbeats 8000000 in
theorem many_walk {w : World} {v : Value} {l : List UInt8} (hv : RdC w v l.length (bcells l)) (hl : l.length ≤ 200000) :
    Calls Try.prog 4 #[v] w fun e w' => e = .returned (.bool true) ∧ Below w.heap.size w w' := by
  obtain ⟨a, ca, rfl⟩ : ∃ a c, v = .slice a l.length c := by obtain ⟨a, c, e, _⟩ := hv; exact ⟨a, c, e⟩
  obtain ⟨N, hN⟩ : ∃ N, N = l.length := ⟨_, rfl⟩
  rw [← hN] at hv hl ⊢
  have HN := Lib.hid hN
  have HV := Lib.hid hv
  have l1 : ¬ (200000 : Int) < (N : Int) := by omega
  clear hv hN
  go_enter Try.func4, Try.ntmps4
  go_wp2_with fail
  refine (l_alive _).mono ?_
  rintro e w1 ⟨rfl, rr⟩
  have B0 := Lib.hid rr
  clear rr
  go_wp2_with fail
  refine (pnew_any _).mono ?_
  rintro e w2 ⟨P, rfl, ⟨own0, hlow, hr⟩, rr⟩
  have R := Lib.hid (hr w.heap.size B0.out.size)
  have HO := Lib.hid (fun b hb => Nat.le_trans B0.out.size (hlow b hb))
  replace B0 := Lib.hid (then_below B0.out rr)
  clear hr rr hlow
  go_wp2_with fail
  have hk := Lib.hid (arg_keep HV.out B0.out HO.out)
  have hw := pput_any (l := l) R.out (by rw [← HN.out]; exact hk.out) (by rw [← HN.out]; omega) (by simp)
  refine hw.mono ?_
  clear hw hk
  rintro e w3 ⟨vl, vb, own1, rfl, A0⟩
  have A := Lib.hid A0
  clear A0
  have B1 := Lib.hid (B0.out.trans A.out.low)
  obtain ⟨LS, hLS⟩ : ∃ L, L = (Ln.lgo [] l).1 := ⟨_, rfl⟩
  obtain ⟨T, hT⟩ : ∃ T, T = Ln.tens l := ⟨_, rfl⟩
  have hlen : LS.length = T := by rw [hLS, hT, Ln.lgo_tens]
  have LT := Lib.hid (A.out.texts (LS.map (·.1)) (by rw [hLS]))
  have LB := Lib.hid (A.out.truths (LS.map (·.2)) (by rw [hLS]))
  have R2 := Lib.hid (A.out.rd _ rfl)
  have HF := Lib.hid (show ∀ p ∈ LS, Ln.fine p by rw [hLS]; exact Ln.lgo_fine l [])
  have HL := Lib.hid (show (Ln.lgo [] l).2.length = Ln.behind 0 l from Ln.lgo_behind l [])
  rw [List.length_map, hlen] at LT LB
  have HS := Lib.hid hlen
  have HT := Lib.hid hT
  clear A hLS hlen hT B0 R HO
  obtain ⟨al, cl, el⟩ := LT.out.form
  subst el
  obtain ⟨ab, cb, eb⟩ := LB.out.form
  subst eb
  have k0 : ((0 : Nat) : Int) = 0 := rfl
  go_wp2
  go_loopg [7, 8, 9] N (fun g x y z wr => ∃ (k t b : Nat), k + g = N ∧ x = .int .i64 (t : Int) ∧ y = .int .i64 (b : Int) ∧ z = .int .i64 (k : Int) ∧ Hid (t = Ln.tens (l.take k) ∧ b = Ln.behind 0 (l.take k) ∧ t ≤ k ∧ b ≤ k) ∧ wr = w3)
  case atStart => exact ⟨0, 0, 0, by omega, rfl, rfl, rfl, Lib.hid ⟨rfl, rfl, Nat.le_refl _, Nat.le_refl _⟩, rfl⟩
  case round =>
    clear k0
    obtain ⟨k, t, b, hk, rfl, rfl, rfl, HK, hw⟩ := hrel
    subst wr
    have hkt := HK.out.2.2
    by_cases hlt : k < N
    · have w0 : IntKind.i64.wrap ((k : Int) + 1) = ((k + 1 : Nat) : Int) := IntWalk.i64_in _ (by omega)
      have w4 : IntKind.i64.wrap ((t : Int) + 1) = ((t + 1 : Nat) : Int) := IntWalk.i64_in _ (by omega)
      have w5 : IntKind.i64.wrap ((b : Int) + 1) = ((b + 1 : Nat) : Int) := IntWalk.i64_in _ (by omega)
      have n0 : (0 : Int) ≤ (k : Int) := by omega
      have n1 : (k : Int) < (N : Int) := by omega
      obtain ⟨c, hc⟩ : ∃ c, l[k]? = some c := ⟨_, List.getElem?_eq_getElem (by have := HN.out; omega)⟩
      obtain ⟨a', c', e, _, hca⟩ := HV.out.below B1.out
      cases e
      obtain ⟨bb, off, rfl, hb, hcell⟩ := hca (by omega)
      have x0 := hcell k _ (bcells_get hc)
      have htk : l.take (k + 1) = l.take k ++ [c] := by rw [List.take_add_one, hc]; rfl
      have HTK := Lib.hid htk
      obtain ⟨X, hX⟩ : ∃ X : Int, X = (c.toNat : Int) := ⟨_, rfl⟩
      unfold bcell at x0
      rw [← hX] at x0
      have HX := Lib.hid hX
      clear hca hcell hX hc htk
      by_cases h10 : X = 10
      · have HC := Lib.hid (show (c == 10) = true by
          have : c = 10 := UInt8.toNat_inj.1 (by show c.toNat = 10; have := HX.out; omega)
          rw [this]; rfl)
        have HK2 := Lib.hid (show t + 1 = Ln.tens (l.take (k + 1)) ∧ 0 = Ln.behind 0 (l.take (k + 1)) ∧ t + 1 ≤ k + 1 ∧ 0 ≤ k + 1 by
          rw [HTK.out, Ln.tens_snoc, Ln.behind_snoc, if_pos HC.out, if_pos HC.out, ← HK.out.1]
          exact ⟨rfl, rfl, by omega, by omega⟩)
        subst h10
        clear HX HC HTK HK hkt
        go_wp2
        go_roundg (N - (k + 1))
        case measure => omega
        case rel => exact ⟨k + 1, t + 1, 0, by omega, by first | rfl | simp, by first | rfl | simp, by first | rfl | simp, HK2, rfl⟩
      · have y2 : (X == 10) = false := beq_eq_false_iff_ne.2 h10
        have HC := Lib.hid (show ¬ (c == 10) = true by
          intro e
          exact h10 (by rw [HX.out, beq_iff_eq.1 e]; rfl))
        have HK2 := Lib.hid (show t = Ln.tens (l.take (k + 1)) ∧ b + 1 = Ln.behind 0 (l.take (k + 1)) ∧ t ≤ k + 1 ∧ b + 1 ≤ k + 1 by
          rw [HTK.out, Ln.tens_snoc, Ln.behind_snoc, if_neg HC.out, if_neg HC.out, ← HK.out.1, ← HK.out.2.1]
          exact ⟨rfl, rfl, by omega, by omega⟩)
        clear HX HC HTK HK hkt
        go_wp2
        go_roundg (N - (k + 1))
        case measure => omega
        case rel => exact ⟨k + 1, t, b + 1, by omega, by first | rfl | simp, by first | rfl | simp, by first | rfl | simp, HK2, rfl⟩
    · obtain ⟨rfl, rfl⟩ : T = t ∧ k = N := by
        have h0 : k = N := by omega
        refine ⟨?_, h0⟩
        rw [HT.out, HK.out.1, h0, HN.out, List.take_length]
      have HB := Lib.hid (show b = (Ln.lgo [] l).2.length by rw [HL.out, HK.out.2.1, HN.out, List.take_length])
      have l3 : ¬ (k : Int) < (k : Int) := by omega
      have HTK := Lib.hid (show T ≤ 200000 by omega)
      have hkt := HK.out.2.2
      clear HL HT
      rcases Nat.lt_or_ge 70002 b with h7 | h7
      · have m1 : (70002 : Int) < (b : Int) := by omega
        have m2 : ¬ (b : Int) ≤ 70002 := by omega
        have m3 : min (b : Int) 70002 = 70002 := by omega
        go_wp2_with fail
        refine (pleft_at R2.out 70002 (by rw [← HB.out]; omega)).mono ?_
        rintro e w4 ⟨rfl, rr⟩
        have B2 := Lib.hid (then_below B1.out rr)
        have LT2 := Lib.hid (LT.out.below rr)
        have LB2 := Lib.hid (LB.out.below rr)
        clear rr LT LB R2 B1 HB HK
        go_wp2
        go_loopg [10] T (fun g x wr => ∃ i : Nat, i + g = T ∧ x = .int .i64 (i : Int) ∧ wr = w4)
        case atStart => exact ⟨0, by omega, rfl, rfl⟩
        case round =>
          obtain ⟨i, hi, rfl, hw⟩ := hrel
          subst wr
          by_cases hit : i < T
          · have w0 : IntKind.i64.wrap ((i : Int) + 1) = ((i + 1 : Nat) : Int) := IntWalk.i64_in _ (by have := HTK.out; omega)
            have n0 : (0 : Int) ≤ (i : Int) := by omega
            have n1 : (i : Int) < (T : Int) := by omega
            obtain ⟨p, hp⟩ : ∃ p, LS[i]? = some p := ⟨_, List.getElem?_eq_getElem (by have := HS.out; omega)⟩
            obtain ⟨f1, f2, f3⟩ := HF.out p (List.mem_of_getElem? hp)
            obtain ⟨tx, bd⟩ := p
            simp only at f1 f2 f3
            have F3 := Lib.hid f3
            obtain ⟨a1, c1, e1, _, hca1⟩ := LT2.out.rd
            cases e1
            obtain ⟨b1, o1, rfl, hb1, hx1⟩ := hca1 (by omega)
            have x1 := hx1 i _ (scell_at (by rw [List.getElem?_map, hp]; rfl))
            obtain ⟨a2, c2, e2, _, hca2⟩ := LB2.out.rd
            cases e2
            obtain ⟨b2, o2, rfl, hb2, hx2⟩ := hca2 (by omega)
            have x2 := hx2 i _ (truth_at (by rw [List.getElem?_map, hp]; rfl))
            simp only at x1 x2
            obtain ⟨S, hS⟩ : ∃ S : ByteArray, S = ⟨tx.toArray⟩ := ⟨_, rfl⟩
            rw [← hS] at x1
            obtain ⟨M, hM⟩ : ∃ M, M = tx.length := ⟨_, rfl⟩
            have hSz : S.size = M := by rw [hS, hM]; simp [ByteArray.size]
            have HSM := Lib.hid (show S.data.toList = tx ∧ M = tx.length from ⟨by rw [hS], hM⟩)
            have hln : ∀ W : World, (Builtin.len_ #[9] 3 #[.string S]).run Try.prog W = .ok (.int .i64 (M : Int)) W := fun W => by rw [run_len_string W _ _ S (by kernel_rfl), hSz]; rfl
            have l7 : ¬ (70000 : Int) < (M : Int) := by omega
            have l8 : decide ((70000 : Int) < (M : Int)) = false := decide_eq_false l7
            have HSz := Lib.hid hSz
            have hbS : bd = true → S = ⟨#[]⟩ := fun e => by rw [hS, f1 e]
            clear hca1 hca2 hx1 hx2 hp hS hM hSz f1 f2 f3
            cases bd with
            | true =>
              obtain rfl := hbS rfl
              clear hbS
              go_wp2
              go_loopg [11] M (fun g x wy => ∃ j : Nat, j + g = M ∧ x = .int .i64 (j : Int) ∧ wy = w4)
              case atStart => exact ⟨0, by omega, rfl, rfl⟩
              case round =>
                obtain ⟨j, hj, rfl, hw⟩ := hrel
                subst wr
                by_cases hjt : j < M
                · have w1 : IntKind.i64.wrap ((j : Int) + 1) = ((j + 1 : Nat) : Int) := IntWalk.i64_in _ (by omega)
                  have q0 : (0 : Int) ≤ (j : Int) := by omega
                  have q1 : (j : Int) < (M : Int) := by omega
                  have hjs : j < (⟨#[]⟩ : ByteArray).size := by rw [HSz.out]; exact hjt
                  have ix := fun W => lstr_at (⟨#[]⟩ : ByteArray) j hjs W
                  obtain ⟨c, hc⟩ : ∃ c, c = (⟨#[]⟩ : ByteArray)[j] := ⟨_, rfl⟩
                  have hc2 := lget_list (⟨#[]⟩ : ByteArray) j hjs
                  rw [← hc] at ix hc2
                  obtain ⟨g1, g2⟩ := ill_cases (F3.out c (by rw [← HSM.out.1]; exact List.mem_of_getElem? hc2))
                  obtain ⟨X, hX⟩ : ∃ X : Int, X = (c.toNat : Int) := ⟨_, rfl⟩
                  rw [← hX] at ix
                  have g3 : ¬ (126 : Int) < X := by omega
                  have hcs : X = 9 ∨ ¬ X < 32 := by omega
                  clear hc hc2 hX g1 g2 hjs
                  rcases hcs with rfl | hcs
                  all_goals
                    go_wp2
                    go_roundg (M - (j + 1))
                    case measure => omega
                    case rel => exact ⟨j + 1, by omega, by first | rfl | simp, rfl⟩
                · have l4 : ¬ (j : Int) < (M : Int) := by omega
                  go_wp2
                  go_roundg (T - (i + 1))
                  case measure => omega
                  case rel => exact ⟨i + 1, by omega, by first | rfl | simp, rfl⟩
            | false =>
              clear hbS
              go_wp2
              go_loopg [11] M (fun g x wy => ∃ j : Nat, j + g = M ∧ x = .int .i64 (j : Int) ∧ wy = w4)
              case atStart => exact ⟨0, by omega, rfl, rfl⟩
              case round =>
                obtain ⟨j, hj, rfl, hw⟩ := hrel
                subst wr
                by_cases hjt : j < M
                · have w1 : IntKind.i64.wrap ((j : Int) + 1) = ((j + 1 : Nat) : Int) := IntWalk.i64_in _ (by omega)
                  have q0 : (0 : Int) ≤ (j : Int) := by omega
                  have q1 : (j : Int) < (M : Int) := by omega
                  have hjs : j < (S : ByteArray).size := by rw [HSz.out]; exact hjt
                  have ix := fun W => lstr_at (S : ByteArray) j hjs W
                  obtain ⟨c, hc⟩ : ∃ c, c = (S : ByteArray)[j] := ⟨_, rfl⟩
                  have hc2 := lget_list (S : ByteArray) j hjs
                  rw [← hc] at ix hc2
                  obtain ⟨g1, g2⟩ := ill_cases (F3.out c (by rw [← HSM.out.1]; exact List.mem_of_getElem? hc2))
                  obtain ⟨X, hX⟩ : ∃ X : Int, X = (c.toNat : Int) := ⟨_, rfl⟩
                  rw [← hX] at ix
                  have g3 : ¬ (126 : Int) < X := by omega
                  have hcs : X = 9 ∨ ¬ X < 32 := by omega
                  clear hc hc2 hX g1 g2 hjs
                  rcases hcs with rfl | hcs
                  all_goals
                    go_wp2
                    go_roundg (M - (j + 1))
                    case measure => omega
                    case rel => exact ⟨j + 1, by omega, by first | rfl | simp, rfl⟩
                · have l4 : ¬ (j : Int) < (M : Int) := by omega
                  go_wp2
                  go_roundg (T - (i + 1))
                  case measure => omega
                  case rel => exact ⟨i + 1, by omega, by first | rfl | simp, rfl⟩
          · have l4 : ¬ (i : Int) < (T : Int) := by omega
            go_wp2
            go_ret
            exact ⟨rfl, B2.out⟩
      · have m1 : ¬ (70002 : Int) < (b : Int) := by omega
        have m2 : (b : Int) ≤ 70002 := by omega
        have m3 : min (b : Int) 70002 = (b : Int) := by omega
        go_wp2_with fail
        refine (pleft_at R2.out (b : Int) (by rw [← HB.out]; omega)).mono ?_
        rintro e w4 ⟨rfl, rr⟩
        have B2 := Lib.hid (then_below B1.out rr)
        have LT2 := Lib.hid (LT.out.below rr)
        have LB2 := Lib.hid (LB.out.below rr)
        clear rr LT LB R2 B1 HB HK
        go_wp2
        go_loopg [10] T (fun g x wr => ∃ i : Nat, i + g = T ∧ x = .int .i64 (i : Int) ∧ wr = w4)
        case atStart => exact ⟨0, by omega, rfl, rfl⟩
        case round =>
          obtain ⟨i, hi, rfl, hw⟩ := hrel
          subst wr
          by_cases hit : i < T
          · have w0 : IntKind.i64.wrap ((i : Int) + 1) = ((i + 1 : Nat) : Int) := IntWalk.i64_in _ (by have := HTK.out; omega)
            have n0 : (0 : Int) ≤ (i : Int) := by omega
            have n1 : (i : Int) < (T : Int) := by omega
            obtain ⟨p, hp⟩ : ∃ p, LS[i]? = some p := ⟨_, List.getElem?_eq_getElem (by have := HS.out; omega)⟩
            obtain ⟨f1, f2, f3⟩ := HF.out p (List.mem_of_getElem? hp)
            obtain ⟨tx, bd⟩ := p
            simp only at f1 f2 f3
            have F3 := Lib.hid f3
            obtain ⟨a1, c1, e1, _, hca1⟩ := LT2.out.rd
            cases e1
            obtain ⟨b1, o1, rfl, hb1, hx1⟩ := hca1 (by omega)
            have x1 := hx1 i _ (scell_at (by rw [List.getElem?_map, hp]; rfl))
            obtain ⟨a2, c2, e2, _, hca2⟩ := LB2.out.rd
            cases e2
            obtain ⟨b2, o2, rfl, hb2, hx2⟩ := hca2 (by omega)
            have x2 := hx2 i _ (truth_at (by rw [List.getElem?_map, hp]; rfl))
            simp only at x1 x2
            obtain ⟨S, hS⟩ : ∃ S : ByteArray, S = ⟨tx.toArray⟩ := ⟨_, rfl⟩
            rw [← hS] at x1
            obtain ⟨M, hM⟩ : ∃ M, M = tx.length := ⟨_, rfl⟩
            have hSz : S.size = M := by rw [hS, hM]; simp [ByteArray.size]
            have HSM := Lib.hid (show S.data.toList = tx ∧ M = tx.length from ⟨by rw [hS], hM⟩)
            have hln : ∀ W : World, (Builtin.len_ #[9] 3 #[.string S]).run Try.prog W = .ok (.int .i64 (M : Int)) W := fun W => by rw [run_len_string W _ _ S (by kernel_rfl), hSz]; rfl
            have l7 : ¬ (70000 : Int) < (M : Int) := by omega
            have l8 : decide ((70000 : Int) < (M : Int)) = false := decide_eq_false l7
            have HSz := Lib.hid hSz
            have hbS : bd = true → S = ⟨#[]⟩ := fun e => by rw [hS, f1 e]
            clear hca1 hca2 hx1 hx2 hp hS hM hSz f1 f2 f3
            cases bd with
            | true =>
              obtain rfl := hbS rfl
              clear hbS
              go_wp2
              go_loopg [11] M (fun g x wy => ∃ j : Nat, j + g = M ∧ x = .int .i64 (j : Int) ∧ wy = w4)
              case atStart => exact ⟨0, by omega, rfl, rfl⟩
              case round =>
                obtain ⟨j, hj, rfl, hw⟩ := hrel
                subst wr
                by_cases hjt : j < M
                · have w1 : IntKind.i64.wrap ((j : Int) + 1) = ((j + 1 : Nat) : Int) := IntWalk.i64_in _ (by omega)
                  have q0 : (0 : Int) ≤ (j : Int) := by omega
                  have q1 : (j : Int) < (M : Int) := by omega
                  have hjs : j < (⟨#[]⟩ : ByteArray).size := by rw [HSz.out]; exact hjt
                  have ix := fun W => lstr_at (⟨#[]⟩ : ByteArray) j hjs W
                  obtain ⟨c, hc⟩ : ∃ c, c = (⟨#[]⟩ : ByteArray)[j] := ⟨_, rfl⟩
                  have hc2 := lget_list (⟨#[]⟩ : ByteArray) j hjs
                  rw [← hc] at ix hc2
                  obtain ⟨g1, g2⟩ := ill_cases (F3.out c (by rw [← HSM.out.1]; exact List.mem_of_getElem? hc2))
                  obtain ⟨X, hX⟩ : ∃ X : Int, X = (c.toNat : Int) := ⟨_, rfl⟩
                  rw [← hX] at ix
                  have g3 : ¬ (126 : Int) < X := by omega
                  have hcs : X = 9 ∨ ¬ X < 32 := by omega
                  clear hc hc2 hX g1 g2 hjs
                  rcases hcs with rfl | hcs
                  all_goals
                    go_wp2
                    go_roundg (M - (j + 1))
                    case measure => omega
                    case rel => exact ⟨j + 1, by omega, by first | rfl | simp, rfl⟩
                · have l4 : ¬ (j : Int) < (M : Int) := by omega
                  go_wp2
                  go_roundg (T - (i + 1))
                  case measure => omega
                  case rel => exact ⟨i + 1, by omega, by first | rfl | simp, rfl⟩
            | false =>
              clear hbS
              go_wp2
              go_loopg [11] M (fun g x wy => ∃ j : Nat, j + g = M ∧ x = .int .i64 (j : Int) ∧ wy = w4)
              case atStart => exact ⟨0, by omega, rfl, rfl⟩
              case round =>
                obtain ⟨j, hj, rfl, hw⟩ := hrel
                subst wr
                by_cases hjt : j < M
                · have w1 : IntKind.i64.wrap ((j : Int) + 1) = ((j + 1 : Nat) : Int) := IntWalk.i64_in _ (by omega)
                  have q0 : (0 : Int) ≤ (j : Int) := by omega
                  have q1 : (j : Int) < (M : Int) := by omega
                  have hjs : j < (S : ByteArray).size := by rw [HSz.out]; exact hjt
                  have ix := fun W => lstr_at (S : ByteArray) j hjs W
                  obtain ⟨c, hc⟩ : ∃ c, c = (S : ByteArray)[j] := ⟨_, rfl⟩
                  have hc2 := lget_list (S : ByteArray) j hjs
                  rw [← hc] at ix hc2
                  obtain ⟨g1, g2⟩ := ill_cases (F3.out c (by rw [← HSM.out.1]; exact List.mem_of_getElem? hc2))
                  obtain ⟨X, hX⟩ : ∃ X : Int, X = (c.toNat : Int) := ⟨_, rfl⟩
                  rw [← hX] at ix
                  have g3 : ¬ (126 : Int) < X := by omega
                  have hcs : X = 9 ∨ ¬ X < 32 := by omega
                  clear hc hc2 hX g1 g2 hjs
                  rcases hcs with rfl | hcs
                  all_goals
                    go_wp2
                    go_roundg (M - (j + 1))
                    case measure => omega
                    case rel => exact ⟨j + 1, by omega, by first | rfl | simp, rfl⟩
                · have l4 : ¬ (j : Int) < (M : Int) := by omega
                  go_wp2
                  go_roundg (T - (i + 1))
                  case measure => omega
                  case rel => exact ⟨i + 1, by omega, by first | rfl | simp, rfl⟩
          · have l4 : ¬ (i : Int) < (T : Int) := by omega
            go_wp2
            go_ret
            exact ⟨rfl, B2.out⟩
set_option maxHeartbeats 4000000 in
theorem many_great {w : World} {a : Option Addr} {n c : Nat} (h : 200000 < n) :
    Calls Try.prog 4 #[.slice a n c] w fun e w' => e = .returned (.bool true) ∧ Below w.heap.size w w' := by
  have l1 : (200000 : Int) < (n : Int) := by omega
  go_enter Try.func4, Try.ntmps4
  go_wp2_with fail
  refine (l_alive _).mono ?_
  rintro e w1 ⟨rfl, rr⟩
  have B0 := Lib.hid rr
  clear rr
  go_wp2_with fail
  refine (l_alive _).mono ?_
  rintro e w2 ⟨rfl, rr⟩
  replace B0 := Lib.hid (then_below B0.out rr)
  clear rr
  go_wp2_with fail
  go_ret
  exact ⟨rfl, B0.out⟩
theorem many_all {w : World} {v : Value} {l : List UInt8} (hv : RdC w v l.length (bcells l)) :
    Calls Try.prog 4 #[v] w fun e w' => e = .returned (.bool true) ∧ Below w.heap.size w w' := by
  by_cases h : l.length ≤ 200000
  · exact many_walk hv h
  · obtain ⟨a, c, rfl, _⟩ := hv
    exact many_great (by omega)
end Go.Proofs.Ytiofdlkdpmomlaa
