/- LinesPuts: its walk. -/
import Derived.Test.YthpbcfoaabacgaaGreatDoorLnPz
namespace Go.Proofs.YthpbcfoaabacgaaGreatDoor
open Go Go.Proofs Go.RowKit Go.Shelf
set_option linter.unusedVariables false
set_option linter.unusedSimpArgs false

attribute [local go_sem] Oper.semAt_some
theorem then_low {w W W' : World} (h : Below w.heap.size w W) (hb : Below W.heap.size W W') : Below w.heap.size w W' := h.trans (hb.mono h.size)
set_option maxRecDepth 100000 in
set_option maxHeartbeats 16000000 in
theorem puts_walk {w : World} {v : Value} {ls : List (List UInt8)} (hv : RowB w v ls) :
    Calls Tryz.prog 3 #[v] w fun e w' => e = .returned (.bool true) ∧ Below w.heap.size w w' := by
  have HS := Lib.hid (sizes_any hv (Below.refl _ _))
  obtain ⟨a, c, rfl, hlc, hrow⟩ := hv
  obtain ⟨N, hN⟩ : ∃ N, N = ls.length := ⟨_, rfl⟩
  have HN := Lib.hid hN
  rw [← hN] at hlc HS ⊢
  have HR := Lib.hid hrow
  clear hN hrow
  go_enter Tryz.func3, Tryz.ntmps3
  go_wp2_with fail
  refine HS.out.mono ?_
  rintro e w0 ⟨z, rfl, hz, rfl⟩
  have HZ := Lib.hid hz
  clear hz HS
  by_cases h3 : 300000 < z
  · have l1 : (300000 : Int) < (z : Int) := by omega
    go_wp2
    go_ret
    exact ⟨rfl, Below.refl _ _⟩
  · have l1 : ¬ (300000 : Int) < (z : Int) := by omega
    have HZ2 := Lib.hid (show szs ls ≤ 300000 by have := HZ.out (by omega); omega)
    clear HZ
    have HN3 := Lib.hid (show N ≤ 300000 by have := szs_few ls; have := HZ2.out; have := HN.out; omega)
    go_wp2_with fail
    refine (pnew_any _).mono ?_
    rintro e w1 ⟨P, rfl, ⟨own0, hlow, hr⟩, rr⟩
    have R := Lib.hid (hr w.heap.size (Nat.le_refl _))
    have HL0 := Lib.hid (show ∀ b, own0 b → b < w1.heap.size from fun b hb => ((hr w.heap.size (Nat.le_refl _)).lt hb).2)
    have B0 := Lib.hid rr
    clear hr rr hlow
    go_wp2_with fail
    refine (rnew_any _).mono ?_
    rintro e w2 ⟨rfl, hm, rr⟩
    obtain ⟨Q, hQ⟩ : ∃ Q, Q = w1.heap.size := ⟨_, rfl⟩
    rw [← hQ] at hm ⊢
    have HM := Lib.hid (hm w.heap.size)
    replace R := Lib.hid (show PRd w2 P w.heap.size own0 [] from R.out.below rr)
    have HQ := Lib.hid (show w.heap.size ≤ Q ∧ (∀ b, own0 b → b < Q) from ⟨by rw [hQ]; exact B0.out.size, fun b hb => by rw [hQ]; exact HL0.out b hb⟩)
    replace B0 := Lib.hid (then_low B0.out rr)
    clear hm rr hQ HL0
    go_wp2
    obtain ⟨B, hB⟩ : ∃ B, B = w2.heap.size := ⟨_, rfl⟩
    obtain ⟨wb, hwb⟩ : ∃ wb, wb = w2.alloc (.cells #[.int .i64 0, .slice none 0 0, .slice none 0 0, .slice none 0 0, .slice none 0 0, .slice none 0 0, .slice none 0 0, .slice none 0 0, .slice none 0 0, .slice none 0 0, .slice none 0 0, .slice none 0 0, .slice none 0 0] 41) := ⟨_, rfl⟩
    have h0 : BT wb B 0 (.slice none 0 0) (.slice none 0 0) [] [] := by rw [hwb, hB]; exact BT.new _
    have q0 : Below w2.heap.size w2 wb := by rw [hwb]; exact (Below.refl _ _).alloc (Nat.le_refl _) _
    have hQB : Q < B := by rw [hB]; exact (Array.getElem?_eq_some_iff.1 HM.out.box).1
    have HP := Lib.hid (show PL w wb P Q B 0 own0 (.slice none 0 0) (.slice none 0 0) (.slice none 0 0) [] [] [] [] [] [] from by
      refine ⟨R.out.below q0, HM.out.kp (R := fun _ => False) ⟨q0.size, fun b hl _ => q0.block b hl⟩ (fun _ _ e => e), h0, then_low B0.out q0, HQ.out.1, by rw [hB]; exact B0.out.size, fun g hg hm => ?_, fun g hg hm => ?_, fun g hg hm => ?_, fun x hx => (by cases hx), fun x hx => (by cases hx), fun x hx => (by cases hx), fun x hx => (by cases hx), List.Pairwise.nil, List.Pairwise.nil, fun x hx => (by cases hx), List.Sublist.refl _, List.Sublist.refl _⟩
      · have := HQ.out.2 g hg
        rcases hm with rfl | e
        · omega
        · cases e
      · have := HQ.out.2 g hg
        rcases hm with rfl | e | e
        · omega
        · cases e
        · cases e
      · rcases hg with rfl | e
        · rcases hm with rfl | e | e
          · omega
          · cases e
          · cases e
        · cases e)
    rw [← hB, ← hwb]
    clear h0 q0 hQB hB hwb R HM HQ B0
    have k0 : ((0 : Nat) : Int) = 0 := rfl
    go_loopg [6] N (fun g s6 wr => ∃ (i n : Nat) (own : Nat → Prop) (rb u v : Value) (cur : List UInt8) (eb et : List (Value × Nat)) (Lb Lt : List Value), i + g = N ∧ s6 = .int .i64 (i : Int) ∧ Hid (PL w wr P Q B n own rb u v cur cur eb et Lb Lt) ∧ Hid (cur.length ≤ szs (ls.take i)) ∧ Hid (Cnt N i n u v eb et))
    case atStart => exact ⟨0, 0, own0, _, _, _, [], [], [], [], [], by omega, rfl, HP, Lib.hid (by simp [szs]), Lib.hid ⟨fun e he => (by cases he), fun e he => (by cases he), by omega, fun _ => ⟨rfl, rfl⟩, by simp, by simp, .inr ⟨rfl, rfl, rfl, rfl, rfl⟩⟩⟩
    case round =>
      clear HP k0
      obtain ⟨i, n, own, rb, u, v, cur, eb, et, Lb, Lt, hig, rfl, HP, HC, HT⟩ := hrel
      by_cases hlt : i < N
      · obtain ⟨b, off, rfl, hbs, hcell⟩ := HR.out (by have := HN.out; omega)
        obtain ⟨x, hx⟩ : ∃ x, ls[i]? = some x := ⟨_, List.getElem?_eq_getElem (by have := HN.out; omega)⟩
        obtain ⟨xa, xc, c0, hxw, hxr⟩ := rowb_at hcell hbs HP.out.bel hx
        obtain ⟨M, hM⟩ : ∃ M, M = x.length := ⟨_, rfl⟩
        have hnx := szs_next hx
        have htk := szs_take_le ls (i + 1)
        have HM := Lib.hid (show M = x.length ∧ szs (ls.take (i + 1)) = szs (ls.take i) + 1 + M ∧ M ≤ 300000 ∧ cur.length ≤ 300000 ∧ (Ln.lgo cur x).1.length ≤ 300000 ∧ (Ln.lgo cur x).2.length ≤ szs (ls.take (i + 1)) by
          have h1 := HZ2.out
          have h2 := HC.out
          have h3 := Ln.lgo_few x cur
          have h4 := Ln.lgo_left x cur
          exact ⟨hM, by omega, by omega, by omega, by omega, by omega⟩)
        rw [← hM] at c0
        have HXW := Lib.hid hxw
        have HXR := Lib.hid hxr
        have HCL := Lib.hid hcell
        have HX := Lib.hid hx
        have n0 : (0 : Int) ≤ (i : Int) := by omega
        have n1 : (i : Int) < (N : Int) := by omega
        clear hcell hx hxw hxr hM hnx htk HC
        go_wp2_with fail
        have htw := twinB_any x _ wr (by have := HM.out; omega) HXR.out
        rw [← HM.out.1] at htw
        refine htw.mono ?_
        clear htw
        rintro e w3 ⟨t, rfl, htw, rr⟩
        have HP3 := Lib.hid (HP.out.below rr)
        have HLO := Lib.hid (show ∀ g, own g → g < wr.heap.size from fun g hg => (HP.out.r.lt hg).2)
        have HMO := Lib.hid (show ∀ g, OwnM Q rb g → g < wr.heap.size from fun g hg => HP.out.m.ltQ hg)
        have HTW := Lib.hid htw
        obtain ⟨g1, c1, rfl, hgc, hgB, hgs, _⟩ := htw
        rw [← HM.out.1] at HTW hgc ⊢
        have HSU := Lib.hid (show (eb.map (·.1)).Sublist Lb ∧ (et.map (·.1)).Sublist Lt from ⟨HP.out.sb, HP.out.st⟩)
        have HCW := Lib.hid ((HP.out.bel.cell (p := ⟨b, off + i, none⟩) hbs).symm.trans c0)
        clear rr HP c0
        go_wp2_with fail
        refine (pput_any (l := x) HP3.out.r (fun W' hs hk => (HTW.out.kept hs (fun g hB hg e => hk g hg (fun ho => by have := HLO.out g ho; omega))).rdc) (by have := HM.out; omega) (by have := HM.out; omega)).mono ?_
        rintro e w4 ⟨vl, vb, own', rfl, A⟩
        have HP4 := Lib.hid (HP3.out.put A (by have := HM.out; omega))
        have HTW4 := Lib.hid (HTW.out.kept A.2.2.2.1.size (fun g hB hg e => A.2.2.2.2.1 g hg (fun ho => by have := HLO.out g ho; omega)))
        obtain ⟨a4, L4, c4, rfl, hL4⟩ : ∃ a L c, vl = .slice a L c ∧ L = (Ln.lgo cur x).1.length := by
          obtain ⟨a, c, e⟩ := lform_row A.2.1
          exact ⟨a, _, c, e, by rw [List.length_map]⟩
        obtain ⟨a5, L5, c5, rfl⟩ : ∃ a L c, vb = .slice a L c := by
          obtain ⟨a, c, e⟩ := lform_row A.2.2.1
          exact ⟨a, _, c, e⟩
        have HA4 := Lib.hid (show SFresh w4 w3.heap.size (.slice a4 L4 c4) ((Ln.lgo cur x).1.map (·.1)) ∧ BFresh w4 w3.heap.size (.slice a5 L5 c5) ((Ln.lgo cur x).1.map (·.2)) ∧ ∀ g, OwnM Q rb g → g < w3.heap.size from ⟨A.2.1, A.2.2.1, fun g hg => HP3.out.m.ltQ hg⟩)
        have HL4 := Lib.hid hL4
        have cz := (HP4.out.bel.cell (p := ⟨b, off + i, none⟩) hbs).trans HCW.out
        clear A hL4 HTW HP3 HLO
        go_wp2_with fail
        refine (rput_any (l := x) HP4.out.m HP4.out.bq (fun W' hk => by
          have h := HP4.out.argk HXW.out hk
          rwa [← HM.out.1] at h ⊢) (by have := HM.out; omega) (by have := HM.out; omega)).mono ?_
        rintro e w5 ⟨vw, vo, rb', rfl, S⟩
        have HP5 := Lib.hid (HP4.out.doc S.rd S.kp S.lo S.rk)
        have hS : ∀ g, g < w4.heap.size → ¬ OwnM Q rb g → w5.heap[g]? = w4.heap[g]? := fun g h1 h2 => S.kp.2 g h1 h2
        have HTW5 := Lib.hid (HTW4.out.kept S.kp.1 (fun g hB hg _ => hS g hg (fun hm => by have := HMO.out g hm; omega)))
        have HA5 := Lib.hid (show SFresh w5 w3.heap.size (.slice a4 L4 c4) ((Ln.lgo cur x).1.map (·.1)) ∧ BFresh w5 w3.heap.size (.slice a5 L5 c5) ((Ln.lgo cur x).1.map (·.2)) ∧ SFresh w5 w4.heap.size vw ((Ln.lgo cur x).1.map (·.1)) ∧ BFresh w5 w4.heap.size vo ((Ln.lgo cur x).1.map (·.2)) from
          ⟨kp_row S.kp HA4.out.1 (fun g e hm => by have := (World.ownsRow.lt HA4.out.1 g e).1; have := HA4.out.2.2 g hm; omega), kp_row S.kp HA4.out.2.1 (fun g e hm => by have := (World.ownsRow.lt HA4.out.2.1 g e).1; have := HA4.out.2.2 g hm; omega), S.tl, S.tb⟩)
        clear S hS HP4 HTW4 HA4 HMO
        go_wp2_with fail
        refine (sameTexts_any (own_rdc HA5.out.1) (own_rdc HA5.out.2.2.1) (by rw [List.length_map]; have := HM.out; omega)).mono ?_
        rintro e w6 ⟨rfl, b6⟩
        have HP6 := Lib.hid (HP5.out.below b6)
        have HTW6 := Lib.hid (HTW5.out.kept b6.size (fun g _ hg _ => b6.block g hg))
        have HA6 := Lib.hid (show RdC w6 (.slice a5 L5 c5) ((Ln.lgo cur x).1.map (·.2)).length (((Ln.lgo cur x).1.map (·.2)).map tcellB) ∧ RdC w6 vo ((Ln.lgo cur x).1.map (·.2)).length (((Ln.lgo cur x).1.map (·.2)).map tcellB) from ⟨(own_rdc HA5.out.2.1).below b6, (own_rdc HA5.out.2.2.2).below b6⟩)
        clear b6 HP5 HTW5 HA5
        go_wp2_with fail
        refine (sameBools_any HA6.out.1 HA6.out.2 (by rw [List.length_map]; have := HM.out; omega)).mono ?_
        rintro e w7 ⟨rfl, b7⟩
        have HP7 := Lib.hid (HP6.out.below b7)
        have HTW7 := Lib.hid (HTW6.out.kept b7.size (fun g _ hg _ => b7.block g hg))
        clear b7 HP6 HTW6 HA6
        have r7 := pleft_any HP7.out.r
        have m7 := rleft_any HP7.out.m
        obtain ⟨X, hX⟩ : ∃ X : Int, X = ((min (Ln.lgo cur x).2.length 70002 : Nat) : Int) := ⟨_, rfl⟩
        rw [← hX] at r7 m7
        have r7 := Lib.hid r7
        have m7 := Lib.hid m7
        have eX : (X == X) = true := by simp
        clear hX
        go_wp2_with fail
        refine r7.out.mono ?_
        rintro e w8 ⟨rfl, rfl⟩
        go_wp2_with fail
        refine m7.out.mono ?_
        rintro e w8 ⟨rfl, rfl⟩
        clear r7 m7
        have cz := (HP7.out.bel.cell (p := ⟨b, off + i, none⟩) hbs).trans HCW.out
        go_wp2_with fail
        refine (leftB_any x _ _ wr.heap.size _ (by have := HM.out; omega) HTW7.out (by have h := HP7.out.argk HXW.out Kp.refl; rwa [← HM.out.1] at h ⊢)).mono ?_
        rintro e w8 ⟨rfl, b8⟩
        have HP8 := Lib.hid (HP7.out.below b8)
        have wi : IntKind.i64.wrap ((i : Int) + 1) = ((i + 1 : Nat) : Int) := IntWalk.i64_in _ (by have := HN3.out; omega)
        have HCN := Lib.hid (show (Ln.lgo cur x).2.length ≤ szs (ls.take (i + 1)) by have := HM.out; omega)
        clear b8 HP7 HTW7 cz HXW HXR HX HM
        by_cases hfew : N ≤ 20 ∧ L4 ≤ 50
        · have l20 : (N : Int) ≤ 20 := by omega
          have l50 : (L4 : Int) ≤ 50 := by omega
          go_wp2_with fail
          refine (bt_texts HP8.out.k (by have := HT.out.few; omega) (by have := HT.out.lt; omega)).mono ?_
          rintro e w9 ⟨rfl, v', k9, lo9, kp9, rk9⟩
          have HP9 := Lib.hid (HP8.out.book k9 (kp_mono kp9 (fun g hg => by
            rcases hg with e | e
            · exact .inl e
            · exact .inr (.inr e))) lo9 (fun g hg => by
            rcases hg with e | e | e
            · exact .inl (.inl e)
            · exact .inl (.inr (.inl e))
            · rcases rk9 g e with e | e
              · exact .inl (.inr (.inr e))
              · exact .inr e) (HSU.out.1.trans (List.sublist_append_left ..)) (by rw [List.map_append]; exact List.Sublist.append HSU.out.2 (List.Sublist.refl _)))
          clear k9 lo9 kp9 rk9 HP8
          go_wp2_with fail
          refine (bt_bools HP9.out.k (by have := HT.out.few; omega) (by have := HT.out.lb; omega)).mono ?_
          rintro e w10 ⟨rfl, u', k10, lo10, kp10, rk10⟩
          have HP10 := Lib.hid (HP9.out.book k10 (kp_mono kp10 (fun g hg => by
            rcases hg with e | e
            · exact .inl e
            · exact .inr (.inl e))) lo10 (fun g hg => by
            rcases hg with e | e | e
            · exact .inl (.inl e)
            · rcases rk10 g e with e | e
              · exact .inl (.inr (.inl e))
              · exact .inr e
            · exact .inl (.inr (.inr e))) (by rw [List.map_append]; exact List.Sublist.append HSU.out.1 (List.Sublist.refl _)) HP9.out.st)
          clear k10 lo10 kp10 rk10 HP9
          have HT2 := Lib.hid (HT.out.more (u' := u') (v' := v') (a := .slice a4 L4 c4) (b := .slice a5 L5 c5) hfew.1)
          go_wp2
          go_roundg (N - (i + 1))
          case measure => omega
          case rel => exact ⟨i + 1, _, _, _, _, _, _, _, _, _, _, by omega, by first | rfl | simp, HP10, HCN, HT2⟩
        · have HT2 := Lib.hid HT.out.skip
          by_cases h20 : N ≤ 20
          · have l20 : (N : Int) ≤ 20 := by omega
            have l50 : ¬ (L4 : Int) ≤ 50 := by omega
            go_wp2
            go_roundg (N - (i + 1))
            case measure => omega
            case rel => exact ⟨i + 1, _, _, _, _, _, _, _, _, _, _, by omega, by first | rfl | simp, HP8, HCN, HT2⟩
          · have l20 : ¬ (N : Int) ≤ 20 := by omega
            go_wp2
            go_roundg (N - (i + 1))
            case measure => omega
            case rel => exact ⟨i + 1, _, _, _, _, _, _, _, _, _, _, by omega, by first | rfl | simp, HP8, HCN, HT2⟩
      · obtain rfl : i = N := by omega
        have n1 : ¬ (i : Int) < (i : Int) := by omega
        have hz := q_new wr (.cells #[.bool false, .slice none 0 0] 56)
        have z0 : (wr.alloc (.cells #[.bool false, .slice none 0 0] 56)).cell? ⟨wr.heap.size, 0, none⟩ = some (.bool false) := by rw [cell_of_row _ wr.heap.size 0 _ _ _ hz]; rfl
        have HA := Lib.hid (HP.out.apartZ HT.out (Nat.le_refl _) HN3.out (.cells #[.bool false, .slice none 0 0] 56))
        have HZ := Lib.hid hz
        have HZ0 := Lib.hid z0
        clear hz z0 HP HT
        go_wp2_with fail
        refine (pput_nil _ _).mono ?_
        rintro e w11 ⟨rfl, rfl⟩
        go_wp2_with fail
        refine (pput_zero HZ0.out _).mono ?_
        rintro e w11 ⟨rfl, rfl⟩
        go_wp2_with fail
        refine HA.out.mono ?_
        rintro e w12 ⟨rfl, q1, q2⟩
        have HB := Lib.hid q1
        have z1 : w12.cell? ⟨wr.heap.size, 1, none⟩ = some (.slice none 0 0) := by rw [cell_of_row w12 wr.heap.size 1 _ _ _ (q2.trans HZ.out)]; rfl
        clear q1 q2 HA HZ HZ0
        have Z1 := Lib.hid z1
        clear z1
        go_wp2_with fail
        refine (pleft_nil _).mono ?_
        rintro e w13 ⟨rfl, rfl⟩
        go_wp2_with fail
        refine (pleft_zero Z1.out).mono ?_
        rintro e w13 ⟨rfl, rfl⟩
        go_wp2
        go_ret
        exact ⟨rfl, HB.out⟩
end Go.Proofs.YthpbcfoaabacgaaGreatDoor
