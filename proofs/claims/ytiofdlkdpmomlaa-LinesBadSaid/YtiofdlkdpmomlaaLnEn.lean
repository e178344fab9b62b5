/- LinesEnds: its walk. -/
import Derived.Test.YtiofdlkdpmomlaaLnEi
namespace Go.Proofs.Ytiofdlkdpmomlaa
open Go Go.Proofs Go.RowKit Go.Shelf
set_option linter.unusedVariables false
set_option linter.unusedSimpArgs false
set_option linter.unnecessarySimpa false

attribute [local go_sem] Oper.semAt_some
/-- the lines that the law lays -/
def inks (ls : List (List UInt8)) : List (List UInt8) := ls.map (·.map Ln.ink)
theorem inks_snoc {ls : List (List UInt8)} {i : Nat} {x : List UInt8} (h : ls[i]? = some x) : inks (ls.take (i + 1)) = inks (ls.take i) ++ [x.map Ln.ink] := by
  unfold inks
  rw [List.take_add_one, h, List.map_append]
  rfl
def EnL (ls : List (List UInt8)) (i : Nat) (B : List UInt8) : Prop := Ln.lgo [] B = ((inks (ls.take i)).map (fun x => (x, false)), []) ∧ B.length ≤ 202 * i
theorem EnL.next {ls : List (List UInt8)} {i : Nat} {B x : List UInt8} (h : EnL ls i B) (hx : ls[i]? = some x) (hl : x.length ≤ 200) (both : Bool) : EnL ls (i + 1) (B ++ (x.map Ln.ink ++ (if both then [13] else []) ++ [10])) := by
  have hg := Ln.lgo_good (l := x.map Ln.ink) (Ln.ink_not13 x) (by rw [List.length_map]; omega)
  have hg2 : Ln.lgo [] (x.map Ln.ink ++ (if both then [13] else []) ++ [10]) = ([(x.map Ln.ink, false)], []) := by
    cases both with
    | true => exact hg.2
    | false => simpa using hg.1
  refine ⟨?_, ?_⟩
  · rw [Ln.lgo_append, h.1, hg2, inks_snoc hx, List.map_append]
    rfl
  · have := h.2
    simp only [List.length_append, List.length_map, List.length_singleton]
    split <;> simp <;> omega
theorem take_ink {x : List UInt8} {k : Nat} {c : UInt8} (h : x[k]? = some c) : (x.take (k + 1)).map Ln.ink = (x.take k).map Ln.ink ++ [Ln.ink c] := by
  rw [List.take_add_one, h, List.map_append]; rfl
set_option maxRecDepth 100000 in
set_option maxHeartbeats 8000000 in
theorem ends_walk {w : World} {v : Value} {ls : List (List UInt8)} {n : Nat} (hv : RowB w v ls) (hl : ls.length ≤ 60) (hn : n < 18446744073709551616) :
    Calls Try.prog 5 #[v, .int .u64 (n : Int)] w fun e w' => e = .returned (.bool true) ∧ Below w.heap.size w w' := by
  obtain ⟨a, c, rfl, hlc, hrow⟩ := hv
  obtain ⟨N, hN⟩ : ∃ N, N = ls.length := ⟨_, rfl⟩
  have HN := Lib.hid hN
  rw [← hN] at hl hlc ⊢
  have HR := Lib.hid hrow
  have l1 : ¬ (60 : Int) < (N : Int) := by omega
  clear hN hrow
  go_enter Try.func5, Try.ntmps5
  go_wp2_with fail
  refine (l_alive _).mono ?_
  rintro e w1 ⟨rfl, rr⟩
  have HE := Lib.hid (EnI.start w w1 rr)
  clear rr
  go_wp2
  have k0 : ((0 : Nat) : Int) = 0 := rfl
  go_loopg [5, 6, 7] N (fun g vb vw s7 wr => ∃ (i : Nat) (B : List UInt8), i + g = N ∧ s7 = .int .i64 (i : Int) ∧ Hid (EnI w wr vb vw B (inks (ls.take i))) ∧ Hid (EnL ls i B))
  case atStart => exact ⟨0, [], by omega, rfl, by simpa [inks] using HE, Lib.hid ⟨by simp [inks, Ln.lgo], by simp⟩⟩
  case round =>
    clear HE k0
    obtain ⟨i, B, hig, rfl, HE, HL⟩ := hrel
    by_cases hlt : i < N
    · obtain ⟨b, off, rfl, hb, hcell⟩ := HR.out (by have := HN.out; omega)
      obtain ⟨x, hx⟩ : ∃ x, ls[i]? = some x := ⟨_, List.getElem?_eq_getElem (by have := HN.out; omega)⟩
      obtain ⟨xa, xc, c0, hxr, hx47⟩ := rowb_at hcell hb HE.out.bel hx
      have n0 : (0 : Int) ≤ (i : Int) := by omega
      have n1 : (i : Int) < (N : Int) := by omega
      obtain ⟨M, hM⟩ : ∃ M, M = x.length := ⟨_, rfl⟩
      rw [← hM] at c0
      have HX := Lib.hid hx
      have HM := Lib.hid hM
      have HC := Lib.hid hcell
      clear hcell hxr hx hM
      by_cases h200 : 200 < M
      · have l2 : (200 : Int) < (M : Int) := by omega
        have HB := Lib.hid HE.out.bel
        go_wp2
        go_ret
        exact ⟨rfl, HB.out⟩
      · have l2 : ¬ (200 : Int) < (M : Int) := by omega
        obtain ⟨ba, bc, hbf⟩ := lform_row HE.out.b
        subst hbf
        obtain ⟨F, hF⟩ : ∃ F, F = B.length := ⟨_, rfl⟩
        have HF := Lib.hid hF
        have HFb := Lib.hid (show F ≤ 202 * 60 by rw [hF]; have := HL.out.2; omega)
        rw [← hF] at HE ⊢
        clear hF
        have k0 : ((0 : Nat) : Int) = 0 := rfl
        go_wp2
        go_loopg [5, 9] M (fun g vb s9 wy => ∃ k : Nat, k + g = M ∧ s9 = .int .i64 (k : Int) ∧ Hid (EnI w wy vb u6 (B ++ (x.take k).map Ln.ink) (inks (ls.take i))))
        case atStart => exact ⟨0, by omega, rfl, by simpa using HE⟩
        case round =>
          clear k0 HE c0
          obtain ⟨k, hk, rfl, HE⟩ := hrel
          obtain ⟨xa, xc, c0, hxr, _⟩ := rowb_at HC.out hb HE.out.bel HX.out
          rw [← HM.out] at c0
          obtain ⟨bb, nb, cb, e, hnb⟩ := lform3 HE.out.b
          subst e
          have HNB := Lib.hid hnb
          clear hnb
          by_cases hkM : k < M
          · obtain ⟨_, _, e, hMc, hxr2⟩ := hxr
            cases e
            obtain ⟨b2, off2, rfl, hb2, hc2⟩ := hxr2 (by have := HM.out; omega)
            obtain ⟨y, hy⟩ : ∃ y, x[k]? = some y := ⟨_, List.getElem?_eq_getElem (by have := HM.out; omega)⟩
            have c1 := hc2 k _ (bcells_get hy)
            obtain ⟨X, hX⟩ : ∃ X : Int, X = (y.toNat : Int) := ⟨_, rfl⟩
            obtain ⟨Y, hY⟩ : ∃ Y : Int, Y = ((Ln.ink y).toNat : Int) := ⟨_, rfl⟩
            unfold bcell at c1
            rw [← hX] at c1
            have hYn := Ln.ink_nat y
            have hyt := y.toNat_lt
            have w2 : (32 + X.tmod 95) % 256 = Y := by rw [hY, hYn, Int.tmod_eq_emod_of_nonneg (by omega)]; omega
            have w3 : IntKind.i64.wrap ((k : Int) + 1) = ((k + 1 : Nat) : Int) := IntWalk.i64_in _ (by omega)
            have q0 : (0 : Int) ≤ (k : Int) := by omega
            have q1 : (k : Int) < (M : Int) := by omega
            obtain ⟨v', W', hr, hE⟩ := HE.out.byte (Ln.ink y) (by have := HFb.out; have := HF.out; simp only [List.length_append, List.length_map, List.length_take]; omega) hY 22
            have HE2 := Lib.hid (show EnI w W' v' u6 (B ++ (x.take (k + 1)).map Ln.ink) (inks (ls.take i)) by rw [take_ink hy, ← List.append_assoc]; exact hE)
            obtain ⟨va', vn', vc', e, -⟩ := lform3 HE2.out.b
            subst e
            have HRun := Lib.hid hr
            clear hY hYn hyt hX hc2 hr hE hy hxr2
            go_wp2_with (first
              | (at_builtin; refine wpList_spread rfl _ _ _ rfl _ _ _ _ rfl rfl HRun.out ?_)
              | fail)
            go_roundg (M - (k + 1))
            case measure => omega
            case rel => exact ⟨k + 1, by omega, by first | rfl | simp, HE2⟩
          · have q1 : ¬ (k : Int) < (M : Int) := by omega
            obtain rfl : k = M := by omega
            have HE1 := Lib.hid (show EnI w wr (.slice bb nb cb) u6 (B ++ x.map Ln.ink) (inks (ls.take i)) by
              have h := HE.out
              rwa [List.take_of_length_le (by have := HM.out; omega)] at h)
            clear HE hxr
            have hnb2 := Lib.hid (show nb = B.length + x.length by have h := HNB.out; rw [List.length_append, List.length_map, List.length_take] at h; have := HM.out; omega)
            have hFn : F ≤ nb := by have := HF.out; have := hnb2.out; omega
            have hbc : nb ≤ cb := by obtain ⟨_, _, e, h, _⟩ := own_rdc HE1.out.b; cases e; have := HNB.out; have := hnb2.out; simp only [List.length_append, List.length_map] at h; omega
            have hbk := fun W0 => back_run W0 bb nb cb F hFn hbc
            have hbk2 := fun W0 => back_runAt W0 bb nb cb F hFn hbc
            obtain ⟨A1, hA1⟩ : ∃ A1 : Option Addr, A1 = if cb = F then bb else bb.map (·.add (F * 1)) := ⟨_, rfl⟩
            rw [← hA1] at hbk hbk2
            have hlen : (B ++ x.map Ln.ink).length = nb := by rw [List.length_append, List.length_map]; exact hnb2.out.symm
            have hrb : RdC wr (.slice bb (B ++ x.map Ln.ink).length cb) (B ++ x.map Ln.ink).length (bcells (B ++ x.map Ln.ink)) := by have h := own_rdc HE1.out.b; rw [hlen] at h ⊢; exact h
            have hbr := back_rdc hrb F (by have := HF.out; rw [List.length_append]; omega)
            rw [hlen, show (B ++ x.map Ln.ink).drop F = x.map Ln.ink by rw [HF.out]; simp, ← hA1] at hbr
            have hcv := conv_of hbr
            obtain ⟨S, hS⟩ : ∃ S : ByteArray, S = ⟨(x.map Ln.ink).toArray⟩ := ⟨_, rfl⟩
            rw [← hS] at hcv
            have hSS : Value.string S = scell (x.map Ln.ink) := by rw [hS]; rfl
            obtain ⟨v', W', hr, hE⟩ := HE1.out.text (x.map Ln.ink) (by unfold inks; rw [List.length_map, List.length_take]; omega) hSS 27
            rw [← inks_snoc HX.out] at hE
            have HE2 := Lib.hid hE
            have HRun := Lib.hid hr
            obtain ⟨M1, hM1⟩ : ∃ M1, M1 = nb - F := ⟨_, rfl⟩
            obtain ⟨c1, hc1⟩ : ∃ c1, c1 = cb - F := ⟨_, rfl⟩
            rw [← hM1, ← hc1] at hbk hbk2 hcv
            obtain ⟨vw', nw', cw', e, -⟩ := lform3 HE2.out.t
            subst e
            obtain ⟨aw, kw, dw, e, -⟩ := lform3 HE1.out.t
            subst e
            clear hlen hrb hbr hA1 hS hSS hr hE hM1 hc1 hFn hbc
            go_wp2_with (first
              | (at_builtin; refine wpList_spread rfl _ _ _ rfl _ _ _ _ rfl rfl HRun.out ?_; refine Hid.out ?_)
              | fail)
            refine Lib.hid ?_
            have hBl := Lib.hid (show (B ++ x.map Ln.ink).length ≤ 800000 by have := HFb.out; have := HF.out; have := HM.out; simp only [List.length_append, List.length_map]; omega)
            obtain ⟨v3, W3, hr3, hE3⟩ := HE2.out.byte 13 (by have := hBl.out; omega) (X := 13) rfl 22
            obtain ⟨a3, n3, c3, e, -⟩ := lform3 hE3.b
            subst e
            obtain ⟨v4, W4, hr4, hE4⟩ := hE3.byte 10 (by have := hBl.out; rw [List.length_append, List.length_singleton]; omega) (X := 10) rfl 22
            obtain ⟨a4, n4, c4, e, -⟩ := lform3 hE4.b
            subst e
            obtain ⟨v5, W5, hr5, hE5⟩ := HE2.out.byte 10 (by have := hBl.out; omega) (X := 10) rfl 22
            obtain ⟨a5, n5, c5, e, -⟩ := lform3 hE5.b
            subst e
            have HR3 := Lib.hid hr3
            have HR4 := Lib.hid hr4
            have HR5 := Lib.hid hr5
            have HT := Lib.hid (show EnI w W4 (.slice a4 n4 c4) (.slice vw' nw' cw') (B ++ (x.map Ln.ink ++ (if true then [13] else []) ++ [10])) (inks (ls.take (i + 1))) by
              simpa [List.append_assoc] using hE4)
            have HU := Lib.hid (show EnI w W5 (.slice a5 n5 c5) (.slice vw' nw' cw') (B ++ (x.map Ln.ink ++ (if false then [13] else []) ++ [10])) (inks (ls.take (i + 1))) by
              simpa [List.append_assoc] using hE5)
            have HLT := Lib.hid (HL.out.next HX.out (by have := HM.out; omega) true)
            have HLU := Lib.hid (HL.out.next HX.out (by have := HM.out; omega) false)
            have w3 : IntKind.i64.wrap ((i : Int) + 1) = ((i + 1 : Nat) : Int) := IntWalk.i64_in _ (by omega)
            clear hr3 hr4 hr5 hE3 hE4 hE5 HL HE2 HE1 HRun c0 hcv hbk hbk2
            go_wp2_with (at_builtin; refine Hid.out ?_)
            · refine Lib.hid ?_
              trace "A"
              refine wpList_spread rfl _ _ _ rfl _ _ _ _ rfl rfl HR3.out ?_
              go_wp2_with (at_builtin; refine wpList_spread rfl _ _ _ rfl _ _ _ _ rfl rfl HR4.out ?_)
              go_roundg (N - (i + 1))
              case measure => omega
              case rel => exact ⟨i + 1, _, by omega, by first | rfl | simp, HT, HLT⟩
            · refine Lib.hid ?_
              trace "B"
              refine wpList_spread rfl _ _ _ rfl _ _ _ _ rfl rfl HR5.out ?_
              go_wp2
              go_roundg (N - (i + 1))
              case measure => omega
              case rel => exact ⟨i + 1, _, by omega, by first | rfl | simp, HU, HLU⟩
    · have n1 : ¬ (i : Int) < (N : Int) := by omega
      obtain rfl : i = N := by omega
      have hls : inks (ls.take i) = inks ls := by rw [List.take_of_length_le (by have := HN.out; omega)]
      have HL1 := Lib.hid (show Ln.lgo [] B = ((inks ls).map (fun x => (x, false)), []) ∧ B.length ≤ 202 * 60 by
        have h := HL.out
        unfold EnL at h
        rw [hls] at h
        exact ⟨h.1, by have := h.2; omega⟩)
      rw [hls] at HE
      have HWL := Lib.hid (show (inks ls).length = i by unfold inks; rw [List.length_map]; exact HN.out.symm)
      obtain ⟨bb, nb, cb, e, hnb⟩ := lform3 HE.out.b
      subst e
      obtain ⟨aw, kw, dw, e, hkw⟩ := lform3 HE.out.t
      subst e
      have HNB := Lib.hid hnb
      have HKW := Lib.hid hkw
      clear hls hnb hkw HL
      go_wp2_with fail
      refine (pnew_any _).mono ?_
      rintro e w3 ⟨P, rfl, ⟨own0, hlow, hr⟩, rr⟩
      have R := Lib.hid (hr w.heap.size HE.out.bel.size)
      have hav := Lib.hid (HE.out.seen rr hlow)
      have HW := Lib.hid (Held.below (held_own (own := own0) HE.out.t (fun g e ho => by have := (World.ownsRow.lt HE.out.t g e).2; have := hlow g ho; omega)) rr)
      have B0 := Lib.hid (then_below HE.out.bel rr)
      clear hr rr hlow HE
      go_wp2_with fail
      refine (pput_any (l := B) R.out hav.out (by have := HL1.out.2; omega) (by simp)).mono ?_
      rintro e w4 ⟨vl, vbd, own1, rfl, A0⟩
      have A := Lib.hid A0
      clear A0 hav
      have La := Lib.hid (A.out.texts (inks ls) (by rw [HL1.out.1, List.map_map]; exact List.map_id _))
      have Lb := Lib.hid (A.out.truths (List.replicate i false) (by rw [HL1.out.1, List.map_map, ← HWL.out]; exact List.map_const' ..))
      replace HW := Lib.hid (A.out.held A.out.size HW.out)
      replace R := Lib.hid (A.out.rd [] (by rw [HL1.out.1]))
      replace B0 := Lib.hid (B0.out.trans A.out.low)
      clear A
      obtain ⟨al, cl, e⟩ := La.out.form
      subst e
      obtain ⟨ad, cd, e⟩ := Lb.out.form
      subst e
      have HB := Lib.hid (show RdC w4 (.slice ad i cd) i ((List.replicate i false).map tcellB) by have h := Lb.out.rd; rw [List.length_replicate] at h; exact h)
      rw [List.length_replicate]
      clear Lb
      have k0 : ((0 : Nat) : Int) = 0 := rfl
      go_wp2
      go_loopg [14] i (fun g s14 wy => ∃ j : Nat, j + g = i ∧ s14 = .int .i64 (j : Int) ∧ wy = w4)
      case atStart => exact ⟨0, by omega, rfl, rfl⟩
      case round =>
        clear k0
        obtain ⟨j, hj, rfl, hw⟩ := hrel
        subst wr
        by_cases hji : j < i
        · have q0 : (0 : Int) ≤ (j : Int) := by omega
          have q1 : (j : Int) < (i : Int) := by omega
          have w3 : IntKind.i64.wrap ((j : Int) + 1) = ((j + 1 : Nat) : Int) := IntWalk.i64_in _ (by omega)
          obtain ⟨_, _, e, _, hc⟩ := HB.out
          cases e
          obtain ⟨b2, off2, rfl, hb2, hc2⟩ := hc (by omega)
          have c1 := hc2 j (.bool false) (by rw [List.getElem?_map, List.getElem?_replicate, if_pos hji]; rfl)
          clear hc hc2
          go_wp2
          go_roundg (i - (j + 1))
          case measure => omega
          case rel => exact ⟨j + 1, by omega, by first | rfl | simp, rfl⟩
        · have q1 : ¬ (j : Int) < (i : Int) := by omega
          clear HB
          go_wp2_with fail
          have hs := sameTexts_any La.out.rd (by have h := HW.out.rd; rw [show (Value.slice aw kw dw) = .slice aw kw dw from rfl] at h; exact h) (by have := HWL.out; omega)
          refine hs.mono ?_
          rintro e w5 ⟨rfl, rr⟩
          replace R := Lib.hid (R.out.below rr)
          replace B0 := Lib.hid (then_below B0.out rr)
          clear rr hs
          go_wp2_with fail
          refine (pleft_at R.out 0 (by decide)).mono ?_
          rintro e w6 ⟨rfl, rr⟩
          replace B0 := Lib.hid (then_below B0.out rr)
          clear rr
          go_wp2_with fail
          go_ret
          exact ⟨by first | rfl | simp, B0.out⟩
set_option maxHeartbeats 4000000 in
theorem ends_great {w : World} {a : Option Addr} {k c n : Nat} (h : 60 < k) :
    Calls Try.prog 5 #[.slice a k c, .int .u64 (n : Int)] w fun e w' => e = .returned (.bool true) ∧ Below w.heap.size w w' := by
  have l1 : (60 : Int) < (k : Int) := by omega
  go_enter Try.func5, Try.ntmps5
  go_wp2_with fail
  refine (l_alive _).mono ?_
  rintro e w1 ⟨rfl, rr⟩
  have B0 := Lib.hid rr
  clear rr
  go_wp2_with fail
  refine (l_alive _).mono ?_
  rintro e w2 ⟨rfl, rr⟩
  replace B0 := Lib.hid (then_below B0.out rr)
  clear rr
  go_wp2_with fail
  go_ret
  exact ⟨rfl, B0.out⟩
theorem ends_all {w : World} {v : Value} {ls : List (List UInt8)} {n : Nat} (hv : RowB w v ls) (hn : n < 18446744073709551616) :
    Calls Try.prog 5 #[v, .int .u64 (n : Int)] w fun e w' => e = .returned (.bool true) ∧ Below w.heap.size w w' := by
  by_cases h : ls.length ≤ 60
  · exact ends_walk hv h hn
  · obtain ⟨a, c, rfl, _⟩ := hv
    exact ends_great (by omega)
end Go.Proofs.Ytiofdlkdpmomlaa
