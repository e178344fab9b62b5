/- Lines: the program's Put, of any bytes. -/
import Derived.Test.YthpbcfoaabacgaaGreatDoorLnCd
namespace Go.Proofs.YthpbcfoaabacgaaGreatDoor
open Go Go.Proofs Go.RowKit Go.Shelf
set_option linter.unusedVariables false
set_option linter.unusedSimpArgs false
set_option linter.unnecessarySimpa false

attribute [local go_sem] Oper.semAt_some
set_option maxRecDepth 100000
theorem info_boolL : (Tryz.prog.info? 4).map (fun i => (i.zero, i.size, i.bytes)) = some (some (.bool false), 1, 1) := by kernel_rfl
theorem info_strL : (Tryz.prog.info? 9).map (fun i => (i.zero, i.size, i.bytes)) = some (some (.string ⟨#[]⟩), 1, 16) := by kernel_rfl
theorem ne10 {c : UInt8} {X : Int} (hX : X = (c.toNat : Int)) (h : X ≠ 10) : (c == 10) = false := by rw [beq_eq_false_iff_ne]; intro e; exact h (by rw [hX, e]; rfl)
theorem eq10 {c : UInt8} {X : Int} (hX : X = (c.toNat : Int)) (h : X = 10) : (c == 10) = true := by
  have : c = 10 := UInt8.toNat_inj.1 (by show c.toNat = 10; omega)
  rw [this]; rfl
/-- the bytes v, whatever turns but the reader's own blocks -/
def Seen (w : World) (P : Nat) (kb0 : Value) (v : Value) (l : List UInt8) : Prop := ∀ W, Kp w W (fun b => b = P ∨ kb0.ownBlock = some b) → RdC W v l.length (bcells l)
theorem Seen.back {w : World} {P : Nat} {kb0 : Value} {a : Option Addr} {c : Nat} {l : List UInt8} (h : Seen w P kb0 (.slice a l.length c) l) {k : Nat} (hk : k ≤ l.length) :
    Seen w P kb0 (.slice (if c = k then a else a.map (·.add (k * 1))) (l.drop k).length (c - k)) (l.drop k) := fun W hW => by
  have := back_rdc (h W hW) k hk
  rwa [← List.length_drop] at this
set_option maxHeartbeats 8000000 in
theorem pput_q {w : World} {P base : Nat} {kb0 v : Value} {cur0 l : List UInt8} (h : PR w P base kb0 cur0) (hp : base ≤ P) (hv : Seen w P kb0 v l) (hl : l.length ≤ 1000000) (hc : cur0.length ≤ 1000000) :
    Calls Tryz.prog 8 #[.pointer (some ⟨P, 0, none⟩), v] w fun e w' => ∃ vl vb kb, e = .returned (.tuple #[vl, vb, .int .i64 0]) ∧ PQ w P base kb0 w' kb (Ln.lgo cur0 l).2 vl ((Ln.lgo cur0 l).1.map (·.1)) vb ((Ln.lgo cur0 l).1.map (·.2)) := by
  have hbox : w.cell? ⟨P, 0, none⟩ = some (.bool true) := by rw [cell_of_row w P 0 _ _ _ h.box]; rfl
  have hPlt := h.lt
  obtain ⟨a0, ca, rfl⟩ : ∃ a c, v = .slice a l.length c := by obtain ⟨a, c, e, _⟩ := hv w Kp.refl; exact ⟨a, c, e⟩
  obtain ⟨i1, hi1, hz1, hy1, hx1⟩ := q_info info_strL
  obtain ⟨i3, hi3, hz3, hy3, hx3⟩ := q_info info_boolL
  obtain ⟨N, hN⟩ : ∃ N, N = l.length := ⟨_, rfl⟩
  rw [← hN] at hl
  have HN := Lib.hid (show N = l.length ∧ N ≤ 1000000 ∧ cur0.length ≤ 1000000 from ⟨hN, hl, hc⟩)
  rw [← hN] at hv ⊢
  have H0 := Lib.hid (PQ.start h hp)
  have HV := Lib.hid hv
  have HI1 := Lib.hid hi1; have HZ1 := Lib.hid hz1; have HY1 := Lib.hid hy1; have HX1 := Lib.hid hx1
  have HI3 := Lib.hid hi3; have HZ3 := Lib.hid hz3; have HY3 := Lib.hid hy3; have HX3 := Lib.hid hx3
  clear h hp hv hl hc hN hi1 hz1 hy1 hx1 hi3 hz3 hy3 hx3
  go_enter Tryz.func8, Tryz.ntmps8
  go_wp2
  go_step3
  go_wp2
  clear hbox
  go_step3
  go_wp2
  go_loopg [1, 4, 5] N (fun g s1 s4 s5 wr => ∃ (d : Nat) (cur m : List UInt8) (kb : Value) (D : List (List UInt8 × Bool)) (a : Option Addr) (c : Nat), d + g = N ∧ s1 = .slice a m.length c ∧ Hid (m = l.drop d ∧ m.length = g) ∧ Hid (Seen w P kb0 (.slice a m.length c) m) ∧ Hid (PQ w P base kb0 wr kb cur s4 (D.map (·.1)) s5 (D.map (·.2))) ∧ Hid (Told2 cur0 l d cur D))
  case atStart => exact ⟨0, cur0, l, kb0, [], a0, ca, by omega, by rw [← HN.out.1], Lib.hid ⟨by simp, HN.out.1.symm⟩, Lib.hid (by rw [← HN.out.1]; exact HV.out), H0, Lib.hid (Told2.start _ _)⟩
  case round =>
    clear H0 HV
    obtain ⟨d, cur, m, kb, D, a, c, hdg, rfl, HM, HV, HS, HT⟩ := hrel
    obtain ⟨M, hM⟩ : ∃ M, M = m.length := ⟨_, rfl⟩
    have HMM := Lib.hid hM
    rw [← hM] at HV ⊢
    clear hM
    have hMg : M = gk := by rw [HMM.out]; exact HM.out.2
    subst hMg
    have hbd := Lib.hid (show D.length ≤ 1000000 ∧ cur.length ≤ 1000000 + d ∧ M ≤ 1000000 by have h1 := HT.out.1; have h2 := HT.out.2.1; have := HN.out; omega)
    have k0 : ((0 : Nat) : Int) = 0 := rfl
    go_wp2
    go_loopg [1, 4, 5, 22] M (fun g2 s1 s4 s5 s22 wy => ∃ i : Nat, i + g2 = M ∧ s1 = .slice a M c ∧ s4 = u4 ∧ s5 = u5 ∧ s22 = .int .i64 (i : Int) ∧ wy = wr ∧ Hid (∀ j x, j < i → m[j]? = some x → (x == 10) = false))
    case atStart => exact ⟨0, by omega, rfl, rfl, rfl, rfl, rfl, Lib.hid (fun j x hj => absurd hj (Nat.not_lt_zero _))⟩
    case round =>
      clear k0
      obtain ⟨i, hig, rfl, rfl, rfl, rfl, rfl, HNO⟩ := hrel
      have hrd0 := HV.out wr HS.out.kp
      rw [← HMM.out] at hrd0
      obtain ⟨a1, c1, e1, hmc, hca⟩ := hrd0
      cases e1
      by_cases hlt : i < M
      · obtain ⟨b, off, rfl, hb, hcell⟩ := hca (by omega)
        obtain ⟨x, hx⟩ : ∃ x, m[i]? = some x := ⟨_, List.getElem?_eq_getElem (by have := HMM.out; omega)⟩
        have x0 := hcell i _ (bcells_get hx)
        have HX0 := Lib.hid hx
        obtain ⟨X, hX⟩ : ∃ X : Int, X = (x.toNat : Int) := ⟨_, rfl⟩
        unfold bcell at x0
        rw [← hX] at x0
        have HX := Lib.hid hX
        have hRD : RdC wr (.slice (some ⟨b, off, none⟩) m.length c) m.length (bcells m) := by have h := HV.out wr HS.out.kp; rwa [HMM.out] at h
        have hcut := Lib.hid (lrdc_cut hRD i (by have := HMM.out; omega))
        clear hca hcell hx hX hRD
        have n0 : (0 : Int) ≤ (i : Int) := by omega
        have l0 : (i : Int) < (M : Int) := by omega
        have w0 : IntKind.i64.wrap ((i : Int) + 1) = ((i + 1 : Nat) : Int) := IntWalk.i64_in _ (by have := hbd.out; omega)
        by_cases h10 : X = 10
        · have HT2 := Lib.hid (HM.out.1 ▸ HT.out.line (i := i) (c := x) (by rw [← HM.out.1]; exact HNO.out) (by rw [← HM.out.1]; exact HX0.out) (eq10 HX.out h10))
          subst h10
          have hct := fun W0 => cut_run W0 (some ⟨b, off, none⟩) M c i (by omega)
          have hct2 := fun W0 => cut_runAt W0 (some ⟨b, off, none⟩) M c i (by omega)
          obtain ⟨LT, LB, hLn⟩ : ∃ LT LB, Ln.line (cur ++ m.take i) = (LT, LB) := ⟨_, _, rfl⟩
          obtain ⟨S, hS⟩ : ∃ S : ByteArray, S = ⟨LT.toArray⟩ := ⟨_, rfl⟩
          have hSS : Value.string S = scell LT := by rw [hS]; rfl
          have HSS := Lib.hid hSS
          have HL := Lib.hid (show ∀ W kb, PR W P base kb (cur ++ m.take i) → Calls Tryz.prog 19 #[.pointer (some ⟨P, 0, none⟩)] W fun e w' => e = .returned (.tuple #[.string S, .bool (!LB)]) ∧ Below W.heap.size W w' from fun W kb h => by
            have := pline_any h
            rw [hLn] at this
            rw [hSS]
            exact this)
          rw [hLn] at HT2
          obtain ⟨I1, hI1⟩ : ∃ I1, I1 = i + 1 := ⟨_, rfl⟩
          obtain ⟨A1, hA1⟩ : ∃ A1 : Option Addr, A1 = if c = I1 then some ⟨b, off, none⟩ else (some (⟨b, off, none⟩ : Addr)).map (·.add (I1 * 1)) := ⟨_, rfl⟩
          have hbk := fun W0 => back_run W0 (some ⟨b, off, none⟩) M c I1 (by omega) hmc
          have hbk2 := fun W0 => back_runAt W0 (some ⟨b, off, none⟩) M c I1 (by omega) hmc
          rw [← hA1] at hbk hbk2
          have HV2 := Lib.hid (show Seen w P kb0 (.slice A1 (m.drop I1).length (c - I1)) (m.drop I1) by
            rw [hA1]
            have h := HV.out
            rw [HMM.out] at h
            exact h.back (by have := HMM.out; omega))
          rw [← hI1] at w0 HT2
          obtain ⟨M1, hM1⟩ : ∃ M1, M1 = M - I1 := ⟨_, rfl⟩
          obtain ⟨c1, hc1⟩ : ∃ c1, c1 = c - I1 := ⟨_, rfl⟩
          rw [← hM1, ← hc1] at hbk hbk2
          rw [← hc1] at HV2
          have HK := Lib.hid (show I1 = i + 1 ∧ M1 = M - I1 ∧ (m.drop I1).length = M1 ∧ I1 ≤ M from ⟨hI1, hM1, by rw [List.length_drop, ← HMM.out, hM1], by omega⟩)
          clear hLn hS hSS hA1 hI1 hM1 hc1
          go_wp2_with fail
          refine (pkeep_any HS.out.rd HS.out.bp hcut.out (by have := hbd.out; have := HMM.out; rw [List.length_take]; omega)).mono ?_
          rintro e w1 ⟨kb1, rfl, q1, q2⟩
          have HS1 := Lib.hid (HS.out.chg q1 q2)
          clear q1 q2 hcut
          go_wp2_with fail
          refine (HL.out _ _ HS1.out.rd).mono ?_
          rintro e w2 ⟨rfl, q2⟩
          have HS2 := Lib.hid (HS1.out.below q2)
          clear q2
          go_wp2_with (at_builtin; go_loud (refine qwpList_append_or _ rfl _ _ 44 rfl w.heap.size 9 i1 (.string ⟨#[]⟩) 1 16 Tryz.underlying44 HI1.out HZ1.out HY1.out HX1.out rfl (by decide) _ _ _ rfl (World.ownsRow.alloc HS2.out.tl _) ⟨w2.heap.size, 0, none⟩ 1 1 [.string S] rfl rfl (World.news_of_block (cs := #[.string S]) (t := 9) (fr := (0, 0)) (q_new w2 _)) (by simp [Value.oneCell']) (by unfold maxLen; have := hbd.out; simp only [List.length_map]; omega) (by have := hbd.out; simp only [List.length_map]; omega) (by have := HS2.out.size; simp; omega) ?_); intro v1 w3 qown qor; have hown := Lib.hid qown; have hor := Lib.hid qor; clear qown qor; refine Hid.out ?_)
          refine Lib.hid ?_
          have hown2 := Lib.hid (show w3.ownsRow w.heap.size 9 1 v1 ((D.map (·.1)).length + 1) (scells (D.map (·.1)) ++ [scell LT]) by have h := hown.out; rw [HSS.out] at h; exact h)
          have HS3 := Lib.hid (HS2.out.text _ hown2.out hor.out)
          clear hown hor hown2
          go_wp2_with (at_builtin; go_loud (refine qwpList_append_or _ rfl _ _ 45 rfl w.heap.size 4 i3 (.bool false) 1 1 Tryz.underlying45 HI3.out HZ3.out HY3.out HX3.out rfl (by decide) _ _ _ rfl (World.ownsRow.alloc HS3.out.tb _) ⟨w3.heap.size, 0, none⟩ 1 1 [.bool LB] rfl rfl (World.news_of_block (cs := #[.bool LB]) (t := 4) (fr := (0, 0)) (q_new w3 _)) (by simp [Value.oneCell']) (by unfold maxLen; have := hbd.out; simp only [List.length_map]; omega) (by have := hbd.out; simp only [List.length_map]; omega) (by have := HS3.out.size; simp; omega) ?_); intro v2 w5 qown qor; have hown := Lib.hid qown; have hor := Lib.hid qor; clear qown qor; refine Hid.out ?_)
          refine Lib.hid ?_
          have HS4 := Lib.hid (HS3.out.truth _ hown.out hor.out)
          clear hown hor
          go_wp2_with fail
          refine (pforget_any HS4.out.rd).mono ?_
          rintro e w6 ⟨kb2, rfl, q1, q2⟩
          have HS5 := Lib.hid (show PQ w P base kb0 w6 kb2 [] v1 ((D ++ [(LT, LB)]).map (·.1)) v2 ((D ++ [(LT, LB)]).map (·.2)) by rw [List.map_append, List.map_append]; exact HS4.out.chg q1 q2)
          clear q1 q2
          go_wp2
          go_roundg M1
          case measure => have := HK.out; omega
          case rel => exact ⟨d + I1, [], m.drop I1, kb2, D ++ [(LT, LB)], A1, c1, by have := HK.out; omega, by rw [HK.out.2.2.1], Lib.hid ⟨by rw [HM.out.1, List.drop_drop], HK.out.2.2.1⟩, HV2, HS5, HT2⟩
        · have HI := Lib.hid (show ∀ j y, j < i + 1 → m[j]? = some y → (y == 10) = false from fun j y hj hy => by
            by_cases e : j = i
            · subst e
              rw [HX0.out] at hy
              cases hy
              exact ne10 HX.out h10
            · exact HNO.out j y (by omega) hy)
          have y0 : (X == 10) = false := beq_eq_false_iff_ne.2 h10
          clear hcut HX HX0
          go_wp2
          go_roundg (M - (i + 1))
          case measure => omega
          case rel => exact ⟨i + 1, by omega, rfl, rfl, rfl, by first | rfl | simp, rfl, HI⟩
      · obtain rfl : i = M := by omega
        have l0 : ¬ (i : Int) < (i : Int) := by omega
        have HE := Lib.hid (show Ln.lgo cur0 l = (D, cur ++ m) by rw [HM.out.1]; exact HT.out.rest (by rw [← HM.out.1, ← HMM.out]; exact HNO.out))
        have hRD := Lib.hid (show RdC wr (.slice a i c) m.length (bcells m) from HV.out wr HS.out.kp)
        clear hca
        go_wp2_with fail
        refine (pkeep_any HS.out.rd HS.out.bp hRD.out (by have := hbd.out; have := HMM.out; omega)).mono ?_
        rintro e w1 ⟨kb1, rfl, q1, q2⟩
        have HS1 := Lib.hid (HS.out.chg q1 q2)
        clear q1 q2
        go_wp2
        unfold Exit.noGoto
        go_ret3
        rw [HE.out]
        exact ⟨_, _, _, rfl, HS1.out⟩
end Go.Proofs.YthpbcfoaabacgaaGreatDoor
