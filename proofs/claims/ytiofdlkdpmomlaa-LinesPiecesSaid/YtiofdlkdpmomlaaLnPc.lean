/- LinesPieces: its walk. -/
import Derived.Test.YtiofdlkdpmomlaaLnPa
namespace Go.Proofs.Ytiofdlkdpmomlaa
open Go Go.Proofs Go.RowKit Go.Shelf
set_option linter.unusedVariables false
set_option linter.unusedSimpArgs false
set_option linter.unnecessarySimpa false

attribute [local go_sem] Oper.semAt_some
theorem pc_start {w w4 : World} {P2 : Nat} {own2 : Nat → Prop} {l : List UInt8} {N : Nat} {A : Option Addr} {c : Nat} (hN : N = l.length) (hv : RdC w (.slice A N c) N (bcells l)) (hb : Below w.heap.size w w4) (h : PRd w4 P2 w.heap.size own2 []) :
    PcI w w4 w4 P2 own2 own2 l 0 N A c (.slice none 0 0) (.slice none 0 0) :=
  ⟨by omega, hv, hb, hb.size, Nat.le_refl _, fun _ _ _ => rfl, h, fun b hb => .inl hb, SFresh.nil _ _, BFresh.nil _ _, fun g e => (by cases e), fun g e => (by cases e)⟩
theorem PcI.old {w w4 W : World} {P2 : Nat} {own20 own2 : Nat → Prop} {l : List UInt8} {d N : Nat} {A : Option Addr} {c : Nat} {vy vo v : Value} {n : Nat} {xs : List Value} (I : PcI w w4 W P2 own20 own2 l d N A c vy vo)
    (h : RdC w4 v n xs) (hf : ∀ g, v.ownBlock = some g → ¬ own20 g) : RdC W v n xs :=
  rdc_keep h I.hs (fun b off sp c e _ hb => I.hk b hb (hf b (by rw [e]; rfl)))
theorem PcI.one {w w4 W : World} {P1 P2 : Nat} {own1 own20 own2 : Nat → Prop} {l cur : List UInt8} {d N : Nat} {A : Option Addr} {c : Nat} {vy vo : Value} (I : PcI w w4 W P2 own20 own2 l d N A c vy vo)
    (h : PRd w4 P1 w.heap.size own1 cur) (hd : ∀ b, own20 b → ¬ own1 b) : PRd W P1 w.heap.size own1 cur :=
  h.keep I.hs (fun b hb => I.hk b (h.lt hb).2 (fun h2 => hd b h2 hb))
theorem ncell_at {ks : List UInt16} {i : Nat} {x : UInt16} (h : ks[i]? = some x) : (ncells ks)[i]? = some (.int .u16 (x.toNat : Int)) := by unfold ncells; rw [List.getElem?_map, h]; rfl
theorem bcut_front (l : List UInt8) (d k : Nat) : (bcells (l.drop d)).take k = bcells ((l.drop d).take k) := by unfold bcells; rw [List.map_take]
theorem bcut_back (l : List UInt8) (d k : Nat) : (bcells (l.drop d)).drop k = bcells (l.drop (d + k)) := by unfold bcells; rw [← List.map_drop, List.drop_drop]
set_option maxRecDepth 100000 in
set_option maxHeartbeats 8000000 in
theorem pieces_walk {w : World} {v va : Value} {l : List UInt8} {ks : List UInt16} (hv : RdC w v l.length (bcells l)) (ha : RdC w va ks.length (ncells ks)) (hl : l.length ≤ 200000) (hk : ks.length ≤ 100) :
    Calls Try.prog 3 #[v, va] w fun e w' => e = .returned (.bool true) ∧ Below w.heap.size w w' := by
  obtain ⟨a, ca, rfl⟩ : ∃ a c, v = .slice a l.length c := by obtain ⟨a, c, e, _⟩ := hv; exact ⟨a, c, e⟩
  obtain ⟨aa, cc, rfl⟩ : ∃ a c, va = .slice a ks.length c := by obtain ⟨a, c, e, _⟩ := ha; exact ⟨a, c, e⟩
  obtain ⟨N, hN⟩ : ∃ N, N = l.length := ⟨_, rfl⟩
  obtain ⟨M, hM⟩ : ∃ M, M = ks.length := ⟨_, rfl⟩
  rw [← hN] at hv hl ⊢
  rw [← hM] at ha hk ⊢
  have HN := Lib.hid hN
  have HM := Lib.hid hM
  have HV := Lib.hid hv
  have HA := Lib.hid ha
  have l1 : ¬ (200000 : Int) < (N : Int) := by omega
  have l2 : ¬ (100 : Int) < (M : Int) := by omega
  clear hv hN ha hM
  go_enter Try.func3, Try.ntmps3
  go_wp2_with fail
  refine (l_alive _).mono ?_
  rintro e w1 ⟨rfl, rr⟩
  have B0 := Lib.hid rr
  clear rr
  go_wp2_with fail
  refine (pnew_any _).mono ?_
  rintro e w2 ⟨P1, rfl, ⟨own1, hlow, hr⟩, rr⟩
  have R1 := Lib.hid (hr w.heap.size B0.out.size)
  have HO1 := Lib.hid (fun b hb => Nat.le_trans B0.out.size (hlow b hb))
  replace B0 := Lib.hid (then_below B0.out rr)
  clear hr rr hlow
  go_wp2_with fail
  refine (pnew_any _).mono ?_
  rintro e w3 ⟨P2, rfl, ⟨own2, hlow, hr⟩, rr⟩
  have R2 := Lib.hid (hr w.heap.size B0.out.size)
  have HO2 := Lib.hid (fun b hb => Nat.le_trans B0.out.size (hlow b hb))
  have D := Lib.hid (show ∀ b, own2 b → ¬ own1 b from fun b hb h1 => by have := (R1.out.lt h1).2; have := hlow b hb; omega)
  replace R1 := Lib.hid (R1.out.below rr)
  replace B0 := Lib.hid (then_below B0.out rr)
  clear hr rr hlow
  go_wp2_with fail
  have hk1 := Lib.hid (arg_keep HV.out B0.out HO1.out)
  have hw := pput_any (l := l) R1.out (by rw [← HN.out]; exact hk1.out) (by rw [← HN.out]; omega) (by simp)
  refine hw.mono ?_
  clear hw hk1
  rintro e w4 ⟨vx, vb, own1', rfl, A0⟩
  have A := Lib.hid A0
  clear A0
  obtain ⟨LS, hLS⟩ : ∃ L, L = (Ln.lgo [] l).1 := ⟨_, rfl⟩
  have HS := Lib.hid hLS
  have X := Lib.hid (A.out.texts (LS.map (·.1)) (by rw [hLS])).rd
  have XB := Lib.hid (A.out.truths (LS.map (·.2)) (by rw [hLS])).rd
  have D1 := Lib.hid (show ∀ b, own2 b → ¬ own1' b from fun b hb h1 => by
    rcases A.out.2.2.2.2.2.1 b h1 with h | h
    · exact D.out b hb h
    · have := (R2.out.lt hb).2; omega)
  have FX := Lib.hid (show ∀ g, (vx.ownBlock = some g ∨ vb.ownBlock = some g) → ¬ own2 g from fun g hg hb => by
    have h2 := (R2.out.lt hb).2
    rcases hg with hg | hg
    · have := (World.ownsRow.lt A.out.2.1 g hg).1; omega
    · have := (World.ownsRow.lt A.out.2.2.1 g hg).1; omega)
  replace R2 := Lib.hid (R2.out.keep A.out.size (fun b hb => A.out.2.2.2.2.1 b (R2.out.lt hb).2 (D.out b hb)))
  have R3 := Lib.hid (A.out.rd _ rfl)
  replace B0 := Lib.hid (B0.out.trans A.out.low)
  clear hLS A R1 D HO1
  have HL := Lib.hid hl
  have I0 := Lib.hid (pc_start HN.out HV.out B0.out R2.out)
  clear hl R2 B0 HV
  go_wp2
  go_loopg [10, 11, 12, 13] M (fun g vy vo vr vi wr => ∃ (i d n c : Nat) (A : Option Addr) (own3 : Nat → Prop), i + g = M ∧ vi = .int .i64 (i : Int) ∧ vr = .slice A n c ∧ Hid (n = N - d) ∧ Hid (PcI w w4 wr P2 own2 own3 l d N A c vy vo))
  case atStart => exact ⟨0, 0, N, ca, a, own2, by omega, rfl, rfl, Lib.hid (by omega), I0⟩
  case round =>
    clear I0
    obtain ⟨i, d, n, c, A, own3, hi, rfl, rfl, Hn, I⟩ := hrel
    have R := Lib.hid (show RdC w (.slice A n c) n (bcells (l.drop d)) by rw [Hn.out]; exact I.out.rest)
    have HO3 := Lib.hid (show ∀ b, own3 b → w.heap.size ≤ b from fun b hb => (I.out.r2.lt hb).1)
    have hdl := Lib.hid (show (l.drop d).length = n by rw [List.length_drop, Hn.out, HN.out])
    have hcl := Lib.hid (show (Ln.lgo [] (l.take d)).2.length ≤ 1000000 by
      rw [Ln.lgo_behind]
      exact Nat.le_trans (Ln.behind_le (l.take d)) (by rw [List.length_take]; have := HL.out; have := HN.out; omega))
    by_cases hit : i < M
    · have w0 : IntKind.i64.wrap ((i : Int) + 1) = ((i + 1 : Nat) : Int) := IntWalk.i64_in _ (by omega)
      have n0 : (0 : Int) ≤ (i : Int) := by omega
      have n1 : (i : Int) < (M : Int) := by omega
      obtain ⟨p, hp⟩ : ∃ p, ks[i]? = some p := ⟨_, List.getElem?_eq_getElem (by have := HM.out; omega)⟩
      obtain ⟨a1, c1, e1, _, hca1⟩ := HA.out.below I.out.b
      cases e1
      obtain ⟨b1, o1, rfl, hb1, hx1⟩ := hca1 (by omega)
      have x1 := hx1 i _ (ncell_at hp)
      obtain ⟨q, hq⟩ : ∃ q, q = p.toNat := ⟨_, rfl⟩
      rw [← hq] at x1
      have hq2 : q < 65536 := by rw [hq]; exact p.toNat_lt
      have w1 : IntKind.i64.wrap (q : Int) = (q : Int) := IntWalk.i64_in _ (by omega)
      clear hca1 hx1 hp hq
      rcases Nat.lt_or_ge n q with hnq | hnq
      · have m1 : min (q : Int) (n : Int) = (n : Int) := by omega
        obtain ⟨A1, sl1, r1⟩ := cut_front R.out (show n ≤ n by omega)
        obtain ⟨A2, sl2, r2⟩ := cut_back R.out (show n ≤ n by omega)
        rw [bcut_front] at r1
        rw [bcut_back] at r2
        have R1 := Lib.hid r1
        have Q2 := Lib.hid r2
        have hpl := Lib.hid (show ((l.drop d).take n).length = n by rw [List.length_take, hdl.out]; omega)
        have KK := Lib.hid (show n ≤ N - d by rw [← Hn.out]; omega)
        clear r1 r2
        go_wp2_with fail
        have hav := Lib.hid (arg_keep R1.out I.out.b HO3.out)
        have hw := pput_any (l := (l.drop d).take n) I.out.r2 (by rw [hpl.out]; exact hav.out) (by rw [hpl.out]; have := HL.out; have := KK.out; omega) hcl.out
        refine hw.mono ?_
        clear hw hav
        rintro e w5 ⟨vl, vm, own4, rfl, A0⟩
        have An := Lib.hid A0
        clear A0
        obtain ⟨vy', W2, hap1, y1, g1⟩ := pc_texts HN.out (by rw [← HN.out]; exact HL.out) I.out An.out
        have Y1 := Lib.hid y1
        have G1 := Lib.hid g1
        have HAP1 := Lib.hid hap1
        obtain ⟨vo', W3, hap2, o1, g2⟩ := pc_truths HN.out (by rw [← HN.out]; exact HL.out) I.out An.out g1
        have I2 := Lib.hid (pc_next HN.out I.out KK.out An.out y1 g1 o1 g2 (by rw [← Nat.sub_sub, ← Hn.out]; exact Q2.out))
        have HAP2 := Lib.hid hap2
        clear hap1 hap2 y1 g1 o1 g2 An Y1 G1 R1 R I hcl hdl HO3 sl1
        have Hn2 := Lib.hid (show n - n = N - (d + n) by have := Hn.out; omega)
        go_wp2_with (first
          | (at_builtin; refine wpList_spread rfl _ _ _ rfl _ _ _ _ rfl rfl HAP1.out ?_)
          | (at_builtin; refine wpList_spread rfl _ _ _ rfl _ _ _ _ rfl rfl HAP2.out ?_)
          | fail)
        go_roundg (M - (i + 1))
        case measure => omega
        case rel => exact ⟨i + 1, d + n, n - n, c - n, A2, own4, by omega, by first | rfl | simp, by first | rfl | simp, Hn2, I2⟩
      · have m1 : min (q : Int) (n : Int) = (q : Int) := by omega
        obtain ⟨A1, sl1, r1⟩ := cut_front R.out (show q ≤ n by omega)
        obtain ⟨A2, sl2, r2⟩ := cut_back R.out (show q ≤ n by omega)
        rw [bcut_front] at r1
        rw [bcut_back] at r2
        have R1 := Lib.hid r1
        have Q2 := Lib.hid r2
        have hpl := Lib.hid (show ((l.drop d).take q).length = q by rw [List.length_take, hdl.out]; omega)
        have KK := Lib.hid (show q ≤ N - d by rw [← Hn.out]; omega)
        clear r1 r2
        go_wp2_with fail
        have hav := Lib.hid (arg_keep R1.out I.out.b HO3.out)
        have hw := pput_any (l := (l.drop d).take q) I.out.r2 (by rw [hpl.out]; exact hav.out) (by rw [hpl.out]; have := HL.out; have := KK.out; omega) hcl.out
        refine hw.mono ?_
        clear hw hav
        rintro e w5 ⟨vl, vm, own4, rfl, A0⟩
        have An := Lib.hid A0
        clear A0
        obtain ⟨vy', W2, hap1, y1, g1⟩ := pc_texts HN.out (by rw [← HN.out]; exact HL.out) I.out An.out
        have Y1 := Lib.hid y1
        have G1 := Lib.hid g1
        have HAP1 := Lib.hid hap1
        obtain ⟨vo', W3, hap2, o1, g2⟩ := pc_truths HN.out (by rw [← HN.out]; exact HL.out) I.out An.out g1
        have I2 := Lib.hid (pc_next HN.out I.out KK.out An.out y1 g1 o1 g2 (by rw [← Nat.sub_sub, ← Hn.out]; exact Q2.out))
        have HAP2 := Lib.hid hap2
        clear hap1 hap2 y1 g1 o1 g2 An Y1 G1 R1 R I hcl hdl HO3 sl1
        have Hn2 := Lib.hid (show n - q = N - (d + q) by have := Hn.out; omega)
        go_wp2_with (first
          | (at_builtin; refine wpList_spread rfl _ _ _ rfl _ _ _ _ rfl rfl HAP1.out ?_)
          | (at_builtin; refine wpList_spread rfl _ _ _ rfl _ _ _ _ rfl rfl HAP2.out ?_)
          | fail)
        go_roundg (M - (i + 1))
        case measure => omega
        case rel => exact ⟨i + 1, d + q, n - q, c - q, A2, own4, by omega, by first | rfl | simp, by first | rfl | simp, Hn2, I2⟩
    · have l4 : ¬ (i : Int) < (M : Int) := by omega
      obtain rfl : i = M := by omega
      obtain ⟨A2, -, r2⟩ := cut_back R.out (Nat.le_refl n)
      rw [bcut_back] at r2
      have Q2 := Lib.hid r2
      have KK := Lib.hid (show n ≤ N - d by rw [← Hn.out]; exact Nat.le_refl _)
      have hpl := Lib.hid (show (l.drop d).take n = l.drop d by rw [List.take_of_length_le]; rw [hdl.out]; exact Nat.le_refl _)
      have hT := Lib.hid (show l.take (d + n) = l by rw [List.take_of_length_le]; have := Hn.out; have := HN.out; have := I.out.le; omega)
      clear r2
      go_wp2_with fail
      have hav := Lib.hid (arg_keep R.out I.out.b HO3.out)
      have hw := pput_any (l := (l.drop d).take n) I.out.r2 (by rw [hpl.out, hdl.out]; exact hav.out) (by rw [hpl.out, hdl.out]; have := HL.out; have := KK.out; omega) hcl.out
      refine hw.mono ?_
      clear hw hav
      rintro e w5 ⟨vl, vm, own4, rfl, A0⟩
      have An := Lib.hid A0
      clear A0
      obtain ⟨vy', W2, hap1, y1, g1⟩ := pc_texts HN.out (by rw [← HN.out]; exact HL.out) I.out An.out
      have Y1 := Lib.hid y1
      have G1 := Lib.hid g1
      have HAP1 := Lib.hid hap1
      clear hap1 y1 g1
      go_wp2_with (first
        | (at_builtin; refine wpList_spread rfl _ _ _ rfl _ _ _ _ rfl rfl HAP1.out ?_)
        | (at_builtin; refine wpList_spread_on (by rfl) _ _ _ rfl _ _ _ _ rfl rfl HAP1.out ?_)
        | fail)
      have HMID := Lib.hid (pc_mid I.out An.out G1.out)
      have X2 := Lib.hid (show RdC W2 vx (LS.map (·.1)).length (scells (LS.map (·.1))) from rdc_keep X.out HMID.out.1 (fun b off sp c e _ hb => HMID.out.2 b hb (FX.out b (.inl (by rw [e]; rfl)))))
      have Y2 := Lib.hid (show RdC W2 vy' (LS.map (·.1)).length (scells (LS.map (·.1))) by
        have h := own_rdc Y1.out
        rw [hT.out, ← HS.out] at h
        exact h)
      have HLS := Lib.hid (show LS.length ≤ 200000 by
        rw [HS.out, Ln.lgo_tens]
        have h1 := List.length_filter_le (fun c => c == 10) l
        have h2 := HN.out
        have h3 := HL.out
        unfold Ln.tens
        omega)
      refine (sameTexts_any Y2.out X2.out (by rw [List.length_map]; have := HLS.out; omega)).mono ?_
      rintro e w7 ⟨rfl, rr⟩
      have g2 := G1.out.then rr
      have y2 := SFresh.below Y1.out rr
      obtain ⟨vo', W3, hap2, o1, g3⟩ := pc_truths HN.out (by rw [← HN.out]; exact HL.out) I.out An.out g2
      have I2 := Lib.hid (pc_next HN.out I.out KK.out An.out y2 g2 o1 g3 (by rw [← Nat.sub_sub, ← Hn.out]; exact Q2.out))
      have HAP2 := Lib.hid hap2
      clear hap2 y2 g2 o1 g3 rr X2 Y2 HMID An Y1 G1 HAP1 R I hcl hdl HO3
      go_wp2_with (first
        | (at_builtin; refine wpList_spread_on (by rfl) _ _ _ rfl _ _ _ _ rfl rfl HAP2.out ?_)
        | fail)
      have X3 := Lib.hid (I2.out.old XB.out (fun g hg => FX.out g (.inr hg)))
      have Y3 := Lib.hid (show RdC W3 vo' (LS.map (·.2)).length ((LS.map (·.2)).map tcellB) by
        have h := own_rdc I2.out.o
        rw [hT.out, ← HS.out] at h
        exact h)
      refine (sameBools_any Y3.out X3.out (by rw [List.length_map]; have := HLS.out; omega)).mono ?_
      rintro e w8 ⟨rfl, rr⟩
      have R5 := Lib.hid ((I2.out.one R3.out D1.out).below rr)
      have R6 := Lib.hid (show PRd w8 P2 w.heap.size own4 (Ln.lgo [] l).2 by
        have h := I2.out.r2.below rr
        rw [hT.out] at h
        exact h)
      have B7 := Lib.hid (I2.out.b.trans (rr.mono I2.out.b.size))
      obtain ⟨Z, hZ⟩ : ∃ Z : Int, Z = ((min (Ln.lgo [] l).2.length 70002 : Nat) : Int) := ⟨_, rfl⟩
      have HZ := Lib.hid hZ
      clear rr I2 X3 Y3 HAP2 hZ
      go_wp2_with fail
      refine (pleft_at R5.out Z HZ.out).mono ?_
      rintro e w9 ⟨rfl, rr⟩
      replace R6 := Lib.hid (R6.out.below rr)
      replace B7 := Lib.hid (B7.out.trans (rr.mono B7.out.size))
      clear rr
      go_wp2_with fail
      refine (pleft_at R6.out Z HZ.out).mono ?_
      rintro e w10 ⟨rfl, rr⟩
      replace B7 := Lib.hid (B7.out.trans (rr.mono B7.out.size))
      clear rr
      go_wp2_with fail
      go_ret
      exact ⟨by first | rfl | simp, B7.out⟩
set_option maxHeartbeats 4000000 in
theorem pieces_great {w : World} {a a' : Option Addr} {n c m c' : Nat} (h : 200000 < n) :
    Calls Try.prog 3 #[.slice a n c, .slice a' m c'] w fun e w' => e = .returned (.bool true) ∧ Below w.heap.size w w' := by
  have l1 : (200000 : Int) < (n : Int) := by omega
  go_enter Try.func3, Try.ntmps3
  go_wp2_with fail
  refine (l_alive _).mono ?_
  rintro e w1 ⟨rfl, rr⟩
  have B0 := Lib.hid rr
  clear rr
  go_wp2_with fail
  refine (l_alive _).mono ?_
  rintro e w2 ⟨rfl, rr⟩
  replace B0 := Lib.hid (then_below B0.out rr)
  clear rr
  go_wp2_with fail
  go_ret
  exact ⟨rfl, B0.out⟩
set_option maxHeartbeats 4000000 in
theorem pieces_great2 {w : World} {a a' : Option Addr} {n c m c' : Nat} (h : n ≤ 200000) (h2 : 100 < m) :
    Calls Try.prog 3 #[.slice a n c, .slice a' m c'] w fun e w' => e = .returned (.bool true) ∧ Below w.heap.size w w' := by
  have l1 : ¬ (200000 : Int) < (n : Int) := by omega
  have l2 : (100 : Int) < (m : Int) := by omega
  go_enter Try.func3, Try.ntmps3
  go_wp2_with fail
  refine (l_alive _).mono ?_
  rintro e w1 ⟨rfl, rr⟩
  have B0 := Lib.hid rr
  clear rr
  go_wp2_with fail
  refine (l_alive _).mono ?_
  rintro e w2 ⟨rfl, rr⟩
  replace B0 := Lib.hid (then_below B0.out rr)
  clear rr
  go_wp2_with fail
  go_ret
  exact ⟨rfl, B0.out⟩
theorem pieces_all {w : World} {v va : Value} {l : List UInt8} {ks : List UInt16} (hv : RdC w v l.length (bcells l)) (ha : RdC w va ks.length (ncells ks)) :
    Calls Try.prog 3 #[v, va] w fun e w' => e = .returned (.bool true) ∧ Below w.heap.size w w' := by
  by_cases h : l.length ≤ 200000
  · by_cases h2 : ks.length ≤ 100
    · exact pieces_walk hv ha h h2
    · obtain ⟨a, c, rfl, _⟩ := hv
      obtain ⟨a', c', rfl, _⟩ := ha
      exact pieces_great2 h (by omega)
  · obtain ⟨a, c, rfl, _⟩ := hv
    obtain ⟨a', c', rfl, _⟩ := ha
    exact pieces_great (by omega)
end Go.Proofs.Ytiofdlkdpmomlaa
