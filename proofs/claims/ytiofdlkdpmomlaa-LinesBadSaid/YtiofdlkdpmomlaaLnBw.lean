/- LinesBad: its walk. -/
import Derived.Test.YtiofdlkdpmomlaaLnBe
import Derived.Deep.RegionLaw
import Derived.Deep.QuietTactic
namespace Go.Proofs.Ytiofdlkdpmomlaa
open Go Go.Proofs Go.RowKit Go.Shelf
set_option linter.unusedVariables false
set_option linter.unusedSimpArgs false
set_option linter.unnecessarySimpa false

attribute [local go_sem] Oper.semAt_some
theorem grew_nil {W W' : World} {v' : Value} (h : Grew W W' (.slice none 0 0) v') : Below W.heap.size W W' := by
  rcases h with ⟨_, h⟩ | ⟨_, h⟩
  · exact ⟨h.os, h.tape, h.output, h.size, fun k hk => h.block k hk (by simp [Value.ownBlock])⟩
  · exact ⟨h.os, h.tape, h.output, h.size, fun k hk => h.block k hk (by simp)⟩
theorem step_spread2 {P : Program} {w : World} {ops : Array Oper} {o : Oper} {a : Act} {K : Act → World → Prop} {Q : Exit → Act → World → Prop} {E : Prop} (hgd : o.guard = none) (s x : Operand) (t : TypeId)
    (ho : o.op = .call { callee := .builtin .append, args := #[s, x], argTypes := #[t, t] }) (ty : TypeId) (hty : o.type = ty) (v u v' : Value) (w' : World) (hs : a.eval s = v) (hx : a.eval x = u)
    (hr : (Builtin.append_ #[t, t] ty #[v, u]).run P w = .ok v' w') (hK : K (a.put o.dst v') w') : if Region.wanted o (yielded ops a.tmps) = true then Oper.wp P o a w K Q else E :=
  step_spread hgd s x t ho v u v' w' hs hx (by rw [hty]; exact hr) hK
/-- the drawn region: a byte put in, in both orders -/
theorem bd_spoil {w0 W : World} {vb vw : Value} {sa : Option Addr} {sc M nn : Nat} {B S0 : List UInt8} {ws : List (List UInt8)} (h : Bd w0 W vb (.slice sa M sc) (.slice none 0 0) vw B S0 [] ws) (hM : S0.length = M) (hn : nn ≤ M) (hl : M ≤ 100000) (c : UInt8) {X : Int} (hX : X = (c.toNat : Int)) {A1 : Option Addr} (hA1 : A1 = if sc = nn then sa else sa.map (·.add (nn * 1))) (t : TypeId) :
    (∃ v1 W1 v2 W2 v3 W3, (Builtin.append_ #[22, 22] t #[.slice none 0 0, .slice sa nn sc]).run Try.prog W.drew = .ok v1 W1 ∧
      (Builtin.append_ #[22, 22] t #[v1, .slice (some ⟨W1.heap.size, 0, none⟩) 1 1]).run Try.prog (W1.alloc (.cells #[.int .u8 X] 5)) = .ok v2 W2 ∧
      (Builtin.append_ #[22, 22] t #[v2, .slice A1 (M - nn) (sc - nn)]).run Try.prog W2 = .ok v3 W3 ∧ Bd w0 W3 vb v3 (.slice none 0 0) vw B (S0.take nn ++ [c] ++ S0.drop nn) [] ws) ∧
    (∃ v1 W1 v2 W2 v3 W3, (Builtin.append_ #[22, 22] t #[.slice none 0 0, .slice sa nn sc]).run Try.prog (W.drew.alloc (.cells #[.int .u8 X] 5)) = .ok v1 W1 ∧
      (Builtin.append_ #[22, 22] t #[v1, .slice (some ⟨W.heap.size, 0, none⟩) 1 1]).run Try.prog W1 = .ok v2 W2 ∧
      (Builtin.append_ #[22, 22] t #[v2, .slice A1 (M - nn) (sc - nn)]).run Try.prog W2 = .ok v3 W3 ∧ Bd w0 W3 vb v3 (.slice none 0 0) vw B (S0.take nn ++ [c] ++ S0.drop nn) [] ws) := by
  subst hM
  have hft : (S0.take nn).length = nn := by rw [List.length_take]; omega
  have hfd : (S0.drop nn).length = S0.length - nn := List.length_drop ..
  have hform : ∀ {W : World} {v1 v3 vw : Value} {B1 B3 : List UInt8} {ws : List (List UInt8)}, Bd w0 W v1 (.slice sa S0.length sc) v3 vw B1 S0 B3 ws → RdC W (.slice sa nn sc) (S0.take nn).length (bcells (S0.take nn)) ∧ RdC W (.slice A1 (S0.length - nn) (sc - nn)) (S0.drop nn).length (bcells (S0.drop nn)) := fun h => by
    refine ⟨lrdc_cut (own_rdc h.r2) nn hn, ?_⟩
    rw [hA1]
    exact back_rdc (own_rdc h.r2) nn hn
  have hff := form_own h.r2
  have hf1 : Form (.slice sa nn sc) (S0.take nn).length := by
    rw [hft]
    rcases hff with ⟨e, h0⟩ | ⟨ad, c, e⟩
    · simp only [Value.slice.injEq] at e
      obtain ⟨rfl, _, rfl⟩ := e
      exact .inl ⟨by rw [show nn = 0 by omega], by omega⟩
    · simp only [Value.slice.injEq] at e
      obtain ⟨rfl, _, rfl⟩ := e
      exact .inr ⟨_, _, rfl⟩
  have hf2 : Form (.slice A1 (S0.length - nn) (sc - nn)) (S0.drop nn).length := by
    rw [hfd, hA1]
    rcases hff with ⟨e, h0⟩ | ⟨ad, c, e⟩
    · simp only [Value.slice.injEq] at e
      obtain ⟨rfl, _, rfl⟩ := e
      refine .inl ⟨?_, by omega⟩
      rw [show nn = 0 by omega, h0]
      rfl
    · simp only [Value.slice.injEq] at e
      obtain ⟨rfl, _, rfl⟩ := e
      refine .inr ?_
      split
      · exact ⟨_, _, rfl⟩
      · exact ⟨_, _, rfl⟩
  constructor
  · obtain ⟨v1, W1, r1, h1, _⟩ := h.drew.s13.more (hform h.drew).1 hf1 (by rw [hft]; simp; omega) t
    obtain ⟨v2, W2, r2, h2⟩ := h1.byte c (by rw [List.length_append, hft]; simp; omega) hX t
    obtain ⟨v3, W3, r3, h3, _⟩ := h2.more (hform h2).2 hf2 (by rw [List.length_append, List.length_append, hft, hfd]; simp; omega) t
    exact ⟨v1, W1, v2, W2, v3, W3, r1, r2, r3, by simpa using h3.s12.s13.nil3⟩
  · have hal := alloc_below W.drew (.cells #[.int .u8 X] 5)
    have hd := h.drew.below hal
    obtain ⟨v1, W1, r1, h1, g1⟩ := hd.s13.more (hform hd).1 hf1 (by rw [hft]; simp; omega) t
    subst hX
    have hlit : RdC W1 (.slice (some ⟨W.heap.size, 0, none⟩) 1 1) [c].length (bcells [c]) := (lit_rdc W.drew (t := 5) (xs := bcells [c]) (cs := #[.int .u8 (c.toNat : Int)]) rfl (m := 1) rfl).below (grew_nil g1)
    obtain ⟨v2, W2, r2, h2, _⟩ := h1.more hlit (.inr ⟨_, _, rfl⟩) (by rw [List.length_append, hft]; simp; omega) t
    obtain ⟨v3, W3, r3, h3, _⟩ := h2.more (hform h2).2 hf2 (by rw [List.length_append, List.length_append, hft, hfd]; simp; omega) t
    exact ⟨v1, W1, v2, W2, v3, W3, r1, r2, r3, by simpa using h3.s12.s13.nil3⟩

set_option maxRecDepth 100000 in
set_option maxHeartbeats 16000000 in
theorem bad_walk {w : World} {v : Value} {ls : List (List UInt8)} {cc : UInt8} {p q : Nat} (hv : RowB w v ls) (h3 : 3 ≤ ls.length) (h30 : ls.length ≤ 30) (hc : cc ≠ 10) (hp : p < 256) (hq : q < 256) :
    Calls Try.prog 8 #[v, .int .u8 (cc.toNat : Int), .agg #[.int .u8 (p : Int), .int .u8 (q : Int)]] w fun e w' => e = .returned (.bool true) ∧ Below w.heap.size w w' := by
  obtain ⟨a, c, rfl, hlc, hrow⟩ := hv
  obtain ⟨N, hN⟩ : ∃ N, N = ls.length := ⟨_, rfl⟩
  have HN := Lib.hid hN
  rw [← hN] at h3 h30 hlc ⊢
  obtain ⟨b, off, rfl, hb, hcell⟩ := hrow (by omega)
  have HC := Lib.hid hcell
  have HCC := Lib.hid hc
  obtain ⟨X, hX⟩ : ∃ X : Int, X = (cc.toNat : Int) := ⟨_, rfl⟩
  rw [← hX]
  have HXX := Lib.hid hX
  have hX10 : X ≠ 10 := fun e => hc (UInt8.toNat_inj.1 (by show cc.toNat = 10; omega))
  have y10 : (X == 10) = false := beq_eq_false_iff_ne.2 hX10
  obtain ⟨K, hK⟩ : ∃ K, K = p % N := ⟨_, rfl⟩
  have HK := Lib.hid (show K < N by rw [hK]; exact Nat.mod_lt _ (by omega))
  have hKt : (p : Int).tmod (N : Int) = (K : Int) := by rw [Int.tmod_eq_emod_of_nonneg (by omega), hK]; omega
  have hN0 : ((N : Int) == 0) = false := beq_eq_false_iff_ne.2 (by omega)
  have hN1 : (N : Int) ≠ 0 := by omega
  have l1 : ¬ (N : Int) < 3 := by omega
  have l2 : ¬ (30 : Int) < (N : Int) := by omega
  obtain ⟨w0, hw0⟩ : ∃ w0, w0 = w.alloc (.cells #[.int .u8 (p : Int), .int .u8 (q : Int)] 45) := ⟨_, rfl⟩
  have HB0 := Lib.hid (show Below w.heap.size w w0 by rw [hw0]; exact alloc_below w _)
  have HG0 := Lib.hid (show w0.heap.size = w.heap.size + 1 ∧ w0.heap[w.heap.size]? = some (.cells #[.int .u8 (p : Int), .int .u8 (q : Int)] 45 (0, 0)) by
    rw [hw0]
    exact ⟨by simp, heap_alloc_new w _⟩)
  clear hN hrow hcell hc hX hX10 hK
  go_enter Try.func8, Try.ntmps8
  go_wp2_with fail
  rw [← hw0]
  refine (l_alive _).mono ?_
  rintro e w1 ⟨rfl, rr⟩
  have HE := Lib.hid (Bd.start rr)
  have c0 : w1.cell? ⟨w.heap.size, 0, none⟩ = some (.int .u8 (p : Int)) := by
    have hg : w1.heap[w.heap.size]? = _ := (rr.block w.heap.size (by rw [HG0.out.1]; omega)).trans HG0.out.2
    rw [cell_of_row w1 w.heap.size 0 _ _ _ hg]; rfl
  clear rr hw0
  have k0 : ((0 : Nat) : Int) = 0 := rfl
  go_wp2
  clear c0
  go_loopg [8, 9, 10] N (fun g vb vw s10 wr => ∃ (i : Nat) (B : List UInt8), i + g = N ∧ s10 = .int .i64 (i : Int) ∧ Hid (Bd w0 wr vb (.slice none 0 0) (.slice none 0 0) vw B [] [] (Ln.badlines K q cc (ls.take i))) ∧ Hid (Ln.BdL K q cc ls i B) ∧ Hid (∀ j x, j < i → ls[j]? = some x → x.length ≤ 100))
  case atStart => exact ⟨0, [], by omega, rfl, by simpa [Ln.badlines] using HE, Lib.hid ⟨by simp [Ln.badlines, Ln.lgo], by simp⟩, Lib.hid (fun j x hj => absurd hj (Nat.not_lt_zero _))⟩
  case round =>
    clear HE k0
    obtain ⟨i, B, hig, rfl, HE, HL, HSM0⟩ := hrel
    by_cases hlt : i < N
    · obtain ⟨x, hx⟩ : ∃ x, ls[i]? = some x := ⟨_, List.getElem?_eq_getElem (by have := HN.out; omega)⟩
      have hbw := then_below HB0.out HE.out.bel
      obtain ⟨xa, xc, c0, hxr, hx47⟩ := rowb_at HC.out hb hbw hx
      have n0 : (0 : Int) ≤ (i : Int) := by omega
      have n1 : (i : Int) < (N : Int) := by omega
      obtain ⟨M, hM⟩ : ∃ M, M = x.length := ⟨_, rfl⟩
      rw [← hM] at c0
      have HX := Lib.hid hx
      have HM := Lib.hid hM
      have HBW := Lib.hid hbw
      clear hxr hx hM hbw
      by_cases h100 : 100 < M
      · have l2 : (100 : Int) < (M : Int) := by omega
        go_wp2
        go_ret
        exact ⟨rfl, HBW.out⟩
      · have l2 : ¬ (100 : Int) < (M : Int) := by omega
        have HSM1 := Lib.hid (show ∀ j y, j < i + 1 → ls[j]? = some y → y.length ≤ 100 from fun j y hj hy => by
          by_cases e : j = i
          · subst e
            rw [HX.out] at hy
            cases hy
            have := HM.out; omega
          · exact HSM0.out j y (by omega) hy)
        have HBl := Lib.hid (show B.length ≤ 103 * 30 by have := HL.out.2; omega)
        clear HBW
        have k0 : ((0 : Nat) : Int) = 0 := rfl
        go_wp2
        go_loopg [11, 12] M (fun g vs s12 wy => ∃ k : Nat, k + g = M ∧ s12 = .int .i64 (k : Int) ∧ Hid (Bd w0 wy u8 vs (.slice none 0 0) u9 B ((x.take k).map Ln.ink) [] (Ln.badlines K q cc (ls.take i))))
        case atStart => exact ⟨0, by omega, rfl, by simpa using HE⟩
        case round =>
          clear k0 HE c0
          obtain ⟨k, hk, rfl, HE⟩ := hrel
          obtain ⟨xa, xc, c0, hxr, _⟩ := rowb_at HC.out hb (then_below HB0.out HE.out.bel) HX.out
          rw [← HM.out] at c0
          by_cases hkM : k < M
          · obtain ⟨_, _, e, hMc, hxr2⟩ := hxr
            cases e
            obtain ⟨b2, off2, rfl, hb2, hc2⟩ := hxr2 (by have := HM.out; omega)
            obtain ⟨y, hy⟩ : ∃ y, x[k]? = some y := ⟨_, List.getElem?_eq_getElem (by have := HM.out; omega)⟩
            have c1 := hc2 k _ (bcells_get hy)
            obtain ⟨XX, hX⟩ : ∃ X : Int, X = (y.toNat : Int) := ⟨_, rfl⟩
            obtain ⟨Y, hY⟩ : ∃ Y : Int, Y = ((Ln.ink y).toNat : Int) := ⟨_, rfl⟩
            unfold bcell at c1
            rw [← hX] at c1
            have hYn := Ln.ink_nat y
            have hyt := y.toNat_lt
            have w2 : (32 + XX.tmod 95) % 256 = Y := by rw [hY, hYn, Int.tmod_eq_emod_of_nonneg (by omega)]; omega
            have w3 : IntKind.i64.wrap ((k : Int) + 1) = ((k + 1 : Nat) : Int) := IntWalk.i64_in _ (by omega)
            have q0 : (0 : Int) ≤ (k : Int) := by omega
            have q1 : (k : Int) < (M : Int) := by omega
            obtain ⟨v', W', hr, hE⟩ := HE.out.s12.byte (Ln.ink y) (by simp only [List.length_map, List.length_take]; omega) hY 22
            have HE2 := Lib.hid (show Bd w0 W' u8 v' (.slice none 0 0) u9 B ((x.take (k + 1)).map Ln.ink) [] (Ln.badlines K q cc (ls.take i)) by rw [take_ink hy]; exact hE.s12)
            obtain ⟨va', vn', vc', e, -⟩ := lform3 HE2.out.r2
            subst e
            obtain ⟨bb, nb, cb, e, -⟩ := lform3 HE.out.r2
            subst e
            have HRun := Lib.hid hr
            clear hY hYn hyt hX hc2 hr hE hy hxr2
            go_wp2_with (at_builtin; refine Hid.out ?_)
            refine Lib.hid ?_
            refine wpList_spread rfl _ _ _ rfl _ _ _ _ rfl rfl HRun.out ?_
            go_wp2
            go_roundg (M - (k + 1))
            case measure => omega
            case rel => exact ⟨k + 1, by omega, by first | rfl | simp, HE2⟩
          · have q1 : ¬ (k : Int) < (M : Int) := by omega
            obtain rfl : k = M := by omega
            obtain ⟨S0, hS0⟩ : ∃ S0, S0 = x.map Ln.ink := ⟨_, rfl⟩
            have HS0 := Lib.hid (show S0 = x.map Ln.ink ∧ S0.length = k from ⟨hS0, by rw [hS0, List.length_map]; exact HM.out.symm⟩)
            have HE1 := Lib.hid (show Bd w0 wr u8 u11 (.slice none 0 0) u9 B S0 [] (Ln.badlines K q cc (ls.take i)) by
              have h := HE.out
              rwa [List.take_of_length_le (by have := HM.out; omega), ← hS0] at h)
            clear HE hxr hS0
            obtain ⟨sa, sc, e⟩ := lform_row HE1.out.r2
            rw [HS0.out.2] at e
            subst e
            obtain ⟨aw, nw, cw, e, -⟩ := lform3 HE1.out.t
            subst e
            obtain ⟨ab, nb, cb, e, -⟩ := lform3 HE1.out.r1
            subst e
            by_cases hiK : i = K
            · subst hiK
              have cq : wr.cell? ⟨w.heap.size, 1, none⟩ = some (.int .u8 (q : Int)) := by
                have hg : wr.heap[w.heap.size]? = _ := (HE1.out.bel.block w.heap.size (by rw [HG0.out.1]; omega)).trans HG0.out.2
                rw [cell_of_row wr w.heap.size 1 _ _ _ hg]; rfl
              obtain ⟨nn, hnn⟩ : ∃ nn, nn = q % (k + 1) := ⟨_, rfl⟩
              have hn1 : nn ≤ k := by rw [hnn]; have := Nat.mod_lt q (show 0 < k + 1 by omega); omega
              have hqt : (q : Int).tmod ((k : Int) + 1) = (nn : Int) := by rw [Int.tmod_eq_emod_of_nonneg (by omega), hnn, Int.natCast_emod, Int.natCast_add]; rfl
              have hk1 : ((k : Int) + 1 == 0) = false := beq_eq_false_iff_ne.2 (by omega)
              have hk2 : (k : Int) + 1 ≠ 0 := by omega
              have hkc : k ≤ sc := by obtain ⟨_, _, e, h, _⟩ := own_rdc HE1.out.r2; cases e; have := HS0.out.2; omega
              obtain ⟨A1, hA1⟩ : ∃ A1 : Option Addr, A1 = if sc = nn then sa else sa.map (·.add (nn * 1)) := ⟨_, rfl⟩
              obtain ⟨⟨t1, X1, t2, X2, t3, X3, ra1, ra2, ra3, hD⟩, ⟨s1, Y1, s2, Y2, s3, Y3, rb1, rb2, rb3, hE⟩⟩ := bd_spoil HE1.out HS0.out.2 hn1 (by omega) cc HXX.out hA1 22
              have hct := fun W0 => cut_run W0 sa k sc nn (by omega)
              have hct2 := fun W0 => cut_runAt W0 sa k sc nn (by omega)
              have hbk := fun W0 => back_run W0 sa k sc nn hn1 hkc
              have hbk2 := fun W0 => back_runAt W0 sa k sc nn hn1 hkc
              rw [← hA1] at hbk hbk2
              have hz : S0.take nn ++ [cc] ++ S0.drop nn ++ (if cc == 13 then [120] else []) = Ln.badline i q cc i x := by
                unfold Ln.badline Ln.spoil
                rw [if_pos rfl, HS0.out.1, ← HM.out, hnn]
              have HZZ := Lib.hid hz
              have HLL := Lib.hid (show (S0.take nn ++ [cc] ++ S0.drop nn).length = k + 1 by simp only [List.length_append, List.length_take, List.length_drop, List.length_singleton]; have := HS0.out.2; omega)
              obtain ⟨M1, hM1⟩ : ∃ M1, M1 = k - nn := ⟨_, rfl⟩
              obtain ⟨c1, hc1⟩ : ∃ c1, c1 = sc - nn := ⟨_, rfl⟩
              rw [← hM1, ← hc1] at hbk hbk2 ra3 rb3
              have w4 : IntKind.i64.wrap ((k : Int) + 1) = ((k : Int) + 1) := IntWalk.i64_in _ (by omega)
              have q2 : (0 : Int) ≤ (nn : Int) := by omega
              clear hnn hA1 hM1 hc1
              go_wp2
              go_region_law ((first
                | (refine step_spread2 rfl _ _ _ (by rfl) 22 rfl (.slice none 0 0) (.slice sa nn sc) t1 X1 (by rfl) (by rfl) (by with_reducible exact ra1) ?_)
                | (refine step_spread2 rfl _ _ _ (by rfl) 22 rfl (.slice none 0 0) (.slice sa nn sc) s1 Y1 (by rfl) (by rfl) rb1 ?_)
                | (refine step_spread2 rfl _ _ _ (by rfl) 22 rfl t1 (.slice (some ⟨X1.heap.size, 0, none⟩) 1 1) t2 X2 (by rfl) (by rfl) (by with_reducible exact ra2) ?_)
                | (refine step_spread2 rfl _ _ _ (by rfl) 22 rfl s1 (.slice (some ⟨wr.heap.size, 0, none⟩) 1 1) s2 Y2 (by rfl) (by rfl) rb2 ?_)
                | (refine step_spread2 rfl _ _ _ (by rfl) 22 rfl t2 (.slice A1 M1 c1) t3 X3 (by rfl) (by rfl) (by with_reducible exact ra3) ?_)
                | (refine step_spread2 rfl _ _ _ (by rfl) 22 rfl s2 (.slice A1 M1 c1) s3 Y3 (by rfl) (by rfl) rb3 ?_)
                | fail))
              · have HD := Lib.hid hD
                obtain ⟨ta, tn, tc, e, -⟩ := lform3 hD.r2
                subst e
                clear hD hE ra1 ra2 ra3 rb1 rb2 rb3 hct hct2 hbk hbk2 hk1 hk2 cq w4 hqt q2
                by_cases h13 : X = 13
                · have hcc : cc = 13 := UInt8.toNat_inj.1 (by show cc.toNat = 13; have := HXX.out; omega)
                  subst h13
                  obtain ⟨v7, W7, hr7, hE7⟩ := HD.out.s12.byte 120 (by rw [HLL.out]; omega) (X := 120) rfl 22
                  obtain ⟨za, kz, zc, e, -⟩ := lform3 hE7.r1
                  subst e
                  have HR7 := Lib.hid hr7
                  obtain ⟨Z, hZ⟩ : ∃ Z, Z = Ln.badline i q cc i x := ⟨_, rfl⟩
                  have hZe : S0.take nn ++ [cc] ++ S0.drop nn ++ [120] = Z := by
                    rw [hZ, ← HZZ.out, hcc]
                    rfl
                  have HZl := Lib.hid (show Z.length ≤ 102 by rw [← hZe, List.length_append, HLL.out, List.length_singleton]; omega)
                  have hE8 := hE7.s12
                  rw [hZe] at hE8
                  have HZ := Lib.hid hE8
                  clear hZe hE7 hE8 hr7 hcc HD
                  go_wp2_with (at_builtin; refine Hid.out ?_)
                  refine Lib.hid ?_
                  refine wpList_spread rfl _ _ _ rfl _ _ _ _ rfl rfl HR7.out ?_
                  -- Z: what the line is now, in .slice za kz zc, at the world of HZ
                  have hrz := Lib.hid (own_rdc HZ.out.r2)
                  obtain ⟨S, hS⟩ : ∃ S : ByteArray, S = ⟨Z.toArray⟩ := ⟨_, rfl⟩
                  have hcv := conv_of hrz.out
                  rw [← hS] at hcv
                  have hSS : Value.string S = scell Z := by rw [hS]; rfl
                  obtain ⟨vw', W4, hr4, hE4⟩ := HZ.out.text Z (by unfold Ln.badlines; rw [List.length_mapIdx, List.length_take]; have := HN.out; omega) hSS 27
                  obtain ⟨v5, W5, hr5, hE5, _⟩ := hE4.more (own_rdc hE4.r2) (form_own hE4.r2) (by have := HBl.out; have := HZl.out; omega) 22
                  obtain ⟨v6, W6, hr6, hE6⟩ := hE5.byte 10 (by have := HBl.out; have := HZl.out; rw [List.length_append]; omega) (X := 10) rfl 22
                  have HQ := Lib.hid (show Bd w0 W6 v6 (.slice none 0 0) (.slice none 0 0) vw' (B ++ Z ++ [10]) [] [] (Ln.badlines i q cc (ls.take (i + 1))) by
                    rw [Ln.badlines_snoc HX.out, ← hZ]
                    exact hE6.s12.s13.s12.nil3.s12.s13.s12)
                  have HLN := Lib.hid (show Ln.BdL i q cc ls (i + 1) (B ++ Z ++ [10]) by rw [hZ]; exact HL.out.next HCC.out HX.out (by have := HM.out; omega))
                  obtain ⟨a4, n4, c4, e, -⟩ := lform3 hE4.t
                  subst e
                  obtain ⟨a5, n5, c5, e, -⟩ := lform3 hE5.r1
                  subst e
                  obtain ⟨a6, n6, c6, e, -⟩ := lform3 hE6.r1
                  subst e
                  have HR4 := Lib.hid hr4
                  have HR5 := Lib.hid hr5
                  have HR6 := Lib.hid hr6
                  have w3 : IntKind.i64.wrap ((i : Int) + 1) = ((i + 1 : Nat) : Int) := IntWalk.i64_in _ (by omega)
                  clear hS hSS hr4 hr5 hr6 hE4 hE5 hE6 hZ HZ hrz
                  go_wp2_with (at_builtin; refine Hid.out ?_)
                  refine Lib.hid ?_
                  refine wpList_spread rfl _ _ _ rfl _ _ _ _ rfl rfl HR4.out ?_
                  go_wp2_with (at_builtin; refine Hid.out ?_)
                  refine Lib.hid ?_
                  refine wpList_spread rfl _ _ _ rfl _ _ _ _ rfl rfl HR5.out ?_
                  go_wp2_with (at_builtin; refine Hid.out ?_)
                  refine Lib.hid ?_
                  refine wpList_spread rfl _ _ _ rfl _ _ _ _ rfl rfl HR6.out ?_
                  go_wp2
                  go_roundg (N - (i + 1))
                  case measure => omega
                  case rel => exact ⟨i + 1, _, by omega, by first | rfl | simp, HQ, HLN, HSM1⟩
                · have y13 : (X == 13) = false := beq_eq_false_iff_ne.2 h13
                  obtain ⟨Z, hZ⟩ : ∃ Z, Z = Ln.badline i q cc i x := ⟨_, rfl⟩
                  have hZe : S0.take nn ++ [cc] ++ S0.drop nn = Z := by
                    rw [hZ, ← HZZ.out, if_neg (by rw [beq_iff_eq]; intro e; exact h13 (by rw [HXX.out, e]; rfl)), List.append_nil]
                  have HZl := Lib.hid (show Z.length ≤ 102 by rw [← hZe, HLL.out]; omega)
                  have hE8 := HD.out
                  rw [hZe] at hE8
                  have HZ := Lib.hid hE8
                  clear hZe hE8 h13 HD
                  -- Z: what the line is now, in .slice za kz zc, at the world of HZ
                  have hrz := Lib.hid (own_rdc HZ.out.r2)
                  obtain ⟨S, hS⟩ : ∃ S : ByteArray, S = ⟨Z.toArray⟩ := ⟨_, rfl⟩
                  have hcv := conv_of hrz.out
                  rw [← hS] at hcv
                  have hSS : Value.string S = scell Z := by rw [hS]; rfl
                  obtain ⟨vw', W4, hr4, hE4⟩ := HZ.out.text Z (by unfold Ln.badlines; rw [List.length_mapIdx, List.length_take]; have := HN.out; omega) hSS 27
                  obtain ⟨v5, W5, hr5, hE5, _⟩ := hE4.more (own_rdc hE4.r2) (form_own hE4.r2) (by have := HBl.out; have := HZl.out; omega) 22
                  obtain ⟨v6, W6, hr6, hE6⟩ := hE5.byte 10 (by have := HBl.out; have := HZl.out; rw [List.length_append]; omega) (X := 10) rfl 22
                  have HQ := Lib.hid (show Bd w0 W6 v6 (.slice none 0 0) (.slice none 0 0) vw' (B ++ Z ++ [10]) [] [] (Ln.badlines i q cc (ls.take (i + 1))) by
                    rw [Ln.badlines_snoc HX.out, ← hZ]
                    exact hE6.s12.s13.s12.nil3.s12.s13.s12)
                  have HLN := Lib.hid (show Ln.BdL i q cc ls (i + 1) (B ++ Z ++ [10]) by rw [hZ]; exact HL.out.next HCC.out HX.out (by have := HM.out; omega))
                  obtain ⟨a4, n4, c4, e, -⟩ := lform3 hE4.t
                  subst e
                  obtain ⟨a5, n5, c5, e, -⟩ := lform3 hE5.r1
                  subst e
                  obtain ⟨a6, n6, c6, e, -⟩ := lform3 hE6.r1
                  subst e
                  have HR4 := Lib.hid hr4
                  have HR5 := Lib.hid hr5
                  have HR6 := Lib.hid hr6
                  have w3 : IntKind.i64.wrap ((i : Int) + 1) = ((i + 1 : Nat) : Int) := IntWalk.i64_in _ (by omega)
                  clear hS hSS hr4 hr5 hr6 hE4 hE5 hE6 hZ HZ hrz
                  go_wp2_with (at_builtin; refine Hid.out ?_)
                  refine Lib.hid ?_
                  refine wpList_spread rfl _ _ _ rfl _ _ _ _ rfl rfl HR4.out ?_
                  go_wp2_with (at_builtin; refine Hid.out ?_)
                  refine Lib.hid ?_
                  refine wpList_spread rfl _ _ _ rfl _ _ _ _ rfl rfl HR5.out ?_
                  go_wp2_with (at_builtin; refine Hid.out ?_)
                  refine Lib.hid ?_
                  refine wpList_spread rfl _ _ _ rfl _ _ _ _ rfl rfl HR6.out ?_
                  go_wp2
                  go_roundg (N - (i + 1))
                  case measure => omega
                  case rel => exact ⟨i + 1, _, by omega, by first | rfl | simp, HQ, HLN, HSM1⟩
              · have HD := Lib.hid hE
                obtain ⟨ta, tn, tc, e, -⟩ := lform3 hE.r2
                subst e
                clear hD hE ra1 ra2 ra3 rb1 rb2 rb3 hct hct2 hbk hbk2 hk1 hk2 cq w4 hqt q2
                by_cases h13 : X = 13
                · have hcc : cc = 13 := UInt8.toNat_inj.1 (by show cc.toNat = 13; have := HXX.out; omega)
                  subst h13
                  obtain ⟨v7, W7, hr7, hE7⟩ := HD.out.s12.byte 120 (by rw [HLL.out]; omega) (X := 120) rfl 22
                  obtain ⟨za, kz, zc, e, -⟩ := lform3 hE7.r1
                  subst e
                  have HR7 := Lib.hid hr7
                  obtain ⟨Z, hZ⟩ : ∃ Z, Z = Ln.badline i q cc i x := ⟨_, rfl⟩
                  have hZe : S0.take nn ++ [cc] ++ S0.drop nn ++ [120] = Z := by
                    rw [hZ, ← HZZ.out, hcc]
                    rfl
                  have HZl := Lib.hid (show Z.length ≤ 102 by rw [← hZe, List.length_append, HLL.out, List.length_singleton]; omega)
                  have hE8 := hE7.s12
                  rw [hZe] at hE8
                  have HZ := Lib.hid hE8
                  clear hZe hE7 hE8 hr7 hcc HD
                  go_wp2_with (at_builtin; refine Hid.out ?_)
                  refine Lib.hid ?_
                  refine wpList_spread rfl _ _ _ rfl _ _ _ _ rfl rfl HR7.out ?_
                  -- Z: what the line is now, in .slice za kz zc, at the world of HZ
                  have hrz := Lib.hid (own_rdc HZ.out.r2)
                  obtain ⟨S, hS⟩ : ∃ S : ByteArray, S = ⟨Z.toArray⟩ := ⟨_, rfl⟩
                  have hcv := conv_of hrz.out
                  rw [← hS] at hcv
                  have hSS : Value.string S = scell Z := by rw [hS]; rfl
                  obtain ⟨vw', W4, hr4, hE4⟩ := HZ.out.text Z (by unfold Ln.badlines; rw [List.length_mapIdx, List.length_take]; have := HN.out; omega) hSS 27
                  obtain ⟨v5, W5, hr5, hE5, _⟩ := hE4.more (own_rdc hE4.r2) (form_own hE4.r2) (by have := HBl.out; have := HZl.out; omega) 22
                  obtain ⟨v6, W6, hr6, hE6⟩ := hE5.byte 10 (by have := HBl.out; have := HZl.out; rw [List.length_append]; omega) (X := 10) rfl 22
                  have HQ := Lib.hid (show Bd w0 W6 v6 (.slice none 0 0) (.slice none 0 0) vw' (B ++ Z ++ [10]) [] [] (Ln.badlines i q cc (ls.take (i + 1))) by
                    rw [Ln.badlines_snoc HX.out, ← hZ]
                    exact hE6.s12.s13.s12.nil3.s12.s13.s12)
                  have HLN := Lib.hid (show Ln.BdL i q cc ls (i + 1) (B ++ Z ++ [10]) by rw [hZ]; exact HL.out.next HCC.out HX.out (by have := HM.out; omega))
                  obtain ⟨a4, n4, c4, e, -⟩ := lform3 hE4.t
                  subst e
                  obtain ⟨a5, n5, c5, e, -⟩ := lform3 hE5.r1
                  subst e
                  obtain ⟨a6, n6, c6, e, -⟩ := lform3 hE6.r1
                  subst e
                  have HR4 := Lib.hid hr4
                  have HR5 := Lib.hid hr5
                  have HR6 := Lib.hid hr6
                  have w3 : IntKind.i64.wrap ((i : Int) + 1) = ((i + 1 : Nat) : Int) := IntWalk.i64_in _ (by omega)
                  clear hS hSS hr4 hr5 hr6 hE4 hE5 hE6 hZ HZ hrz
                  go_wp2_with (at_builtin; refine Hid.out ?_)
                  refine Lib.hid ?_
                  refine wpList_spread rfl _ _ _ rfl _ _ _ _ rfl rfl HR4.out ?_
                  go_wp2_with (at_builtin; refine Hid.out ?_)
                  refine Lib.hid ?_
                  refine wpList_spread rfl _ _ _ rfl _ _ _ _ rfl rfl HR5.out ?_
                  go_wp2_with (at_builtin; refine Hid.out ?_)
                  refine Lib.hid ?_
                  refine wpList_spread rfl _ _ _ rfl _ _ _ _ rfl rfl HR6.out ?_
                  go_wp2
                  go_roundg (N - (i + 1))
                  case measure => omega
                  case rel => exact ⟨i + 1, _, by omega, by first | rfl | simp, HQ, HLN, HSM1⟩
                · have y13 : (X == 13) = false := beq_eq_false_iff_ne.2 h13
                  obtain ⟨Z, hZ⟩ : ∃ Z, Z = Ln.badline i q cc i x := ⟨_, rfl⟩
                  have hZe : S0.take nn ++ [cc] ++ S0.drop nn = Z := by
                    rw [hZ, ← HZZ.out, if_neg (by rw [beq_iff_eq]; intro e; exact h13 (by rw [HXX.out, e]; rfl)), List.append_nil]
                  have HZl := Lib.hid (show Z.length ≤ 102 by rw [← hZe, HLL.out]; omega)
                  have hE8 := HD.out
                  rw [hZe] at hE8
                  have HZ := Lib.hid hE8
                  clear hZe hE8 h13 HD
                  -- Z: what the line is now, in .slice za kz zc, at the world of HZ
                  have hrz := Lib.hid (own_rdc HZ.out.r2)
                  obtain ⟨S, hS⟩ : ∃ S : ByteArray, S = ⟨Z.toArray⟩ := ⟨_, rfl⟩
                  have hcv := conv_of hrz.out
                  rw [← hS] at hcv
                  have hSS : Value.string S = scell Z := by rw [hS]; rfl
                  obtain ⟨vw', W4, hr4, hE4⟩ := HZ.out.text Z (by unfold Ln.badlines; rw [List.length_mapIdx, List.length_take]; have := HN.out; omega) hSS 27
                  obtain ⟨v5, W5, hr5, hE5, _⟩ := hE4.more (own_rdc hE4.r2) (form_own hE4.r2) (by have := HBl.out; have := HZl.out; omega) 22
                  obtain ⟨v6, W6, hr6, hE6⟩ := hE5.byte 10 (by have := HBl.out; have := HZl.out; rw [List.length_append]; omega) (X := 10) rfl 22
                  have HQ := Lib.hid (show Bd w0 W6 v6 (.slice none 0 0) (.slice none 0 0) vw' (B ++ Z ++ [10]) [] [] (Ln.badlines i q cc (ls.take (i + 1))) by
                    rw [Ln.badlines_snoc HX.out, ← hZ]
                    exact hE6.s12.s13.s12.nil3.s12.s13.s12)
                  have HLN := Lib.hid (show Ln.BdL i q cc ls (i + 1) (B ++ Z ++ [10]) by rw [hZ]; exact HL.out.next HCC.out HX.out (by have := HM.out; omega))
                  obtain ⟨a4, n4, c4, e, -⟩ := lform3 hE4.t
                  subst e
                  obtain ⟨a5, n5, c5, e, -⟩ := lform3 hE5.r1
                  subst e
                  obtain ⟨a6, n6, c6, e, -⟩ := lform3 hE6.r1
                  subst e
                  have HR4 := Lib.hid hr4
                  have HR5 := Lib.hid hr5
                  have HR6 := Lib.hid hr6
                  have w3 : IntKind.i64.wrap ((i : Int) + 1) = ((i + 1 : Nat) : Int) := IntWalk.i64_in _ (by omega)
                  clear hS hSS hr4 hr5 hr6 hE4 hE5 hE6 hZ HZ hrz
                  go_wp2_with (at_builtin; refine Hid.out ?_)
                  refine Lib.hid ?_
                  refine wpList_spread rfl _ _ _ rfl _ _ _ _ rfl rfl HR4.out ?_
                  go_wp2_with (at_builtin; refine Hid.out ?_)
                  refine Lib.hid ?_
                  refine wpList_spread rfl _ _ _ rfl _ _ _ _ rfl rfl HR5.out ?_
                  go_wp2_with (at_builtin; refine Hid.out ?_)
                  refine Lib.hid ?_
                  refine wpList_spread rfl _ _ _ rfl _ _ _ _ rfl rfl HR6.out ?_
                  go_wp2
                  go_roundg (N - (i + 1))
                  case measure => omega
                  case rel => exact ⟨i + 1, _, by omega, by first | rfl | simp, HQ, HLN, HSM1⟩
            · have yK : ((i : Int) == (K : Int)) = false := beq_eq_false_iff_ne.2 (by omega)
              obtain ⟨Z, hZ⟩ : ∃ Z, Z = Ln.badline K q cc i x := ⟨_, rfl⟩
              have hZS : S0 = Z := by rw [hZ]; unfold Ln.badline; rw [if_neg hiK]; exact HS0.out.1
              have HZl := Lib.hid (show Z.length ≤ 102 by rw [← hZS]; have := HS0.out.2; omega)
              have HZ := Lib.hid (show Bd w0 wr (.slice ab nb cb) (.slice sa k sc) (.slice none 0 0) (.slice aw nw cw) B Z [] (Ln.badlines K q cc (ls.take i)) by rw [← hZS]; exact HE1.out)
              clear hZS HE1 HS0
              -- Z: what the line is now, in .slice za kz zc, at the world of HZ
              have hrz := Lib.hid (own_rdc HZ.out.r2)
              obtain ⟨S, hS⟩ : ∃ S : ByteArray, S = ⟨Z.toArray⟩ := ⟨_, rfl⟩
              have hcv := conv_of hrz.out
              rw [← hS] at hcv
              have hSS : Value.string S = scell Z := by rw [hS]; rfl
              obtain ⟨vw', W4, hr4, hE4⟩ := HZ.out.text Z (by unfold Ln.badlines; rw [List.length_mapIdx, List.length_take]; have := HN.out; omega) hSS 27
              obtain ⟨v5, W5, hr5, hE5, _⟩ := hE4.more (own_rdc hE4.r2) (form_own hE4.r2) (by have := HBl.out; have := HZl.out; omega) 22
              obtain ⟨v6, W6, hr6, hE6⟩ := hE5.byte 10 (by have := HBl.out; have := HZl.out; rw [List.length_append]; omega) (X := 10) rfl 22
              have HQ := Lib.hid (show Bd w0 W6 v6 (.slice none 0 0) (.slice none 0 0) vw' (B ++ Z ++ [10]) [] [] (Ln.badlines K q cc (ls.take (i + 1))) by
                rw [Ln.badlines_snoc HX.out, ← hZ]
                exact hE6.s12.s13.s12.nil3.s12.s13.s12)
              have HLN := Lib.hid (show Ln.BdL K q cc ls (i + 1) (B ++ Z ++ [10]) by rw [hZ]; exact HL.out.next HCC.out HX.out (by have := HM.out; omega))
              obtain ⟨a4, n4, c4, e, -⟩ := lform3 hE4.t
              subst e
              obtain ⟨a5, n5, c5, e, -⟩ := lform3 hE5.r1
              subst e
              obtain ⟨a6, n6, c6, e, -⟩ := lform3 hE6.r1
              subst e
              have HR4 := Lib.hid hr4
              have HR5 := Lib.hid hr5
              have HR6 := Lib.hid hr6
              have w3 : IntKind.i64.wrap ((i : Int) + 1) = ((i + 1 : Nat) : Int) := IntWalk.i64_in _ (by omega)
              clear hS hSS hr4 hr5 hr6 hE4 hE5 hE6 hZ HZ hrz
              go_wp2_with (at_builtin; refine Hid.out ?_)
              refine Lib.hid ?_
              refine wpList_spread rfl _ _ _ rfl _ _ _ _ rfl rfl HR4.out ?_
              go_wp2_with (at_builtin; refine Hid.out ?_)
              refine Lib.hid ?_
              refine wpList_spread rfl _ _ _ rfl _ _ _ _ rfl rfl HR5.out ?_
              go_wp2_with (at_builtin; refine Hid.out ?_)
              refine Lib.hid ?_
              refine wpList_spread rfl _ _ _ rfl _ _ _ _ rfl rfl HR6.out ?_
              go_wp2
              go_roundg (N - (i + 1))
              case measure => omega
              case rel => exact ⟨i + 1, _, by omega, by first | rfl | simp, HQ, HLN, HSM1⟩
    · have n1 : ¬ (i : Int) < (N : Int) := by omega
      obtain rfl : i = N := by omega
      have HSM := Lib.hid (show ∀ j x, ls[j]? = some x → x.length ≤ 100 from fun j x hx => HSM0.out j x (by have := (List.getElem?_eq_some_iff.1 hx).1; have := HN.out; omega) hx)
      clear HSM0
      obtain ⟨D, hD⟩ : ∃ D, D = Ln.badlines K q cc ls := ⟨_, rfl⟩
      have hls : Ln.badlines K q cc (ls.take i) = D := by rw [List.take_of_length_le (by have := HN.out; omega), hD]
      have HL1 := Lib.hid (show Ln.lgo [] B = (D.map Ln.line, []) ∧ B.length ≤ 103 * 30 by
        have h := HL.out
        unfold Ln.BdL at h
        rw [hls] at h
        exact ⟨h.1, by have := h.2; omega⟩)
      rw [hls] at HE
      have HDL := Lib.hid (show D.length = i by rw [hD]; unfold Ln.badlines; rw [List.length_mapIdx]; exact HN.out.symm)
      obtain ⟨bb, nb, cb, e, -⟩ := lform3 HE.out.r1
      subst e
      obtain ⟨aw, cw, e⟩ := lform_row HE.out.t
      rw [HDL.out] at e
      subst e
      obtain ⟨TX, hTX⟩ : ∃ TX, TX = (D.map Ln.line).map (·.1) := ⟨_, rfl⟩
      obtain ⟨BX, hBX⟩ : ∃ BX, BX = (D.map Ln.line).map (·.2) := ⟨_, rfl⟩
      have HTL := Lib.hid (show TX.length = i ∧ BX.length = i by rw [hTX, hBX]; simp only [List.length_map]; exact ⟨HDL.out, HDL.out⟩)
      have htold : ∀ j z, D[j]? = some z → TX[j]? = some (if (Ln.ill cc && decide (j = K)) = true then [] else z) ∧ BX[j]? = some (Ln.ill cc && decide (j = K)) := by
        intro j z hz
        have hx : ∃ x, ls[j]? = some x ∧ z = Ln.badline K q cc j x := by
          rw [hD] at hz
          unfold Ln.badlines at hz
          rw [List.getElem?_mapIdx, Option.map_eq_some_iff] at hz
          obtain ⟨x, h1, h2⟩ := hz
          exact ⟨x, h1, h2.symm⟩
        obtain ⟨x, hx, rfl⟩ := hx
        have hsmall : x.length ≤ 100 := HSM.out j x hx
        have ht := Ln.badline_told (k := K) (m := q) (c := cc) (j := j) hsmall
        rw [hTX, hBX]
        constructor
        · rw [List.getElem?_map, List.getElem?_map, hz]
          simp only [Option.map_some]
          rw [ht]
          cases h : (Ln.ill cc && decide (j = K)) <;> rfl
        · rw [List.getElem?_map, List.getElem?_map, hz]
          simp only [Option.map_some]
          rw [ht]
          cases h : (Ln.ill cc && decide (j = K)) <;> rfl
      have HTO := Lib.hid htold
      clear hls HL htold hD
      go_wp2_with fail
      refine (pnew_any _).mono ?_
      rintro e w3 ⟨P, rfl, ⟨own0, hlow, hr⟩, rr⟩
      have R := Lib.hid (hr w0.heap.size HE.out.bel.size)
      have hav := Lib.hid (HE.out.seen rr hlow)
      have HW := Lib.hid (SFresh.below HE.out.t rr)
      have HWf := Lib.hid (show ∀ g, (Value.slice aw i cw).ownBlock = some g → g < wr.heap.size ∧ w0.heap.size ≤ g ∧ ¬ own0 g from fun g e => ⟨(World.ownsRow.lt HE.out.t g e).2, (World.ownsRow.lt HE.out.t g e).1, fun ho => by have := (World.ownsRow.lt HE.out.t g e).2; have := hlow g ho; omega⟩)
      have HSZ := Lib.hid rr.size
      have B0 := Lib.hid (then_below HE.out.bel rr)
      clear hr rr hlow HE
      go_wp2_with fail
      refine (pput_any (l := B) R.out hav.out (by have := HL1.out.2; omega) (by simp)).mono ?_
      rintro e w4 ⟨vl, vbd, own1, rfl, A0⟩
      have A := Lib.hid A0
      clear A0 hav
      have La := Lib.hid (show SFresh w4 w3.heap.size vl TX by have h := A.out.2.1; rw [HL1.out.1, ← hTX] at h; exact h)
      have Lb := Lib.hid (show BFresh w4 w3.heap.size vbd BX by have h := A.out.2.2.1; rw [HL1.out.1, ← hBX] at h; exact h)
      have HW4 := Lib.hid (show SFresh w4 w0.heap.size (.slice aw i cw) D from own_keep HW.out (fun g e hg => A.out.2.2.2.2.1 g hg (HWf.out g e).2.2))
      replace B0 := Lib.hid (B0.out.trans A.out.low)
      obtain ⟨al, cl, e⟩ := lform_row La.out
      rw [HTL.out.1] at e
      subst e
      obtain ⟨ad, cd, e⟩ := lform_row Lb.out
      rw [HTL.out.2] at e
      subst e
      clear A R HW hTX hBX
      have hcs : (X < 32 ∧ X = 9) ∨ (X < 32 ∧ X ≠ 9) ∨ (¬ X < 32 ∧ 126 < X) ∨ (¬ X < 32 ∧ ¬ 126 < X) := by omega
      have hill : Ln.ill cc = ((decide (X < 32) && !(decide (X = 9))) || decide (126 < X)) := by
        unfold Ln.ill
        have h9 : (cc == 9) = decide (X = 9) := by
          by_cases h : cc = 9
          · rw [beq_iff_eq.2 h, decide_eq_true (by rw [HXX.out, h]; rfl)]
          · rw [beq_eq_false_iff_ne.2 h, decide_eq_false (fun e => h (UInt8.toNat_inj.1 (by show cc.toNat = 9; have := HXX.out; omega)))]
        rw [h9, HXX.out]
        congr 1
        · congr 1
          rw [decide_eq_decide]; omega
        · rw [decide_eq_decide]; omega
      rcases hcs with ⟨h1, h2⟩ | ⟨h1, h2⟩ | ⟨h1, h2⟩ | ⟨h1, h2⟩
      · rw [decide_eq_true h1, decide_eq_true h2, decide_eq_false (by omega)] at hill
        have HI := Lib.hid (show Ln.ill cc = false from hill)
        clear hill
        subst h2
        have HV5 := Lib.hid (show RdC w4 (.slice aw i cw) TX.length (scells TX) by
          have e : TX = D := by
            apply List.ext_getElem?
            intro j
            cases hz : D[j]? with
            | none => rw [List.getElem?_eq_none_iff] at hz ⊢; have := HTL.out.1; have := HDL.out; omega
            | some z => rw [(HTO.out j z hz).1, HI.out]; rfl
          rw [e]
          have h := own_rdc HW4.out
          rw [HDL.out] at h ⊢
          exact h)
        have HA5 := La
        have HB5 := Lb
        have B5 := Lib.hid (HB0.out.trans (B0.out.mono HB0.out.size))
        clear La Lb HW4 B0
        obtain ⟨w5, hw5⟩ : ∃ w5, w5 = w4 := ⟨_, rfl⟩
        subst hw5
        have hwb := Lib.hid (show RdC w5 (.slice ad i cd) i (BX.map tcellB) by have h := own_rdc HB5.out; rw [HTL.out.2] at h; exact h)
        have hwl := Lib.hid (show RdC w5 (.slice al i cl) i (scells TX) by have h := own_rdc HA5.out; rw [HTL.out.1] at h; exact h)
        have hww := Lib.hid (show RdC w5 (.slice aw i cw) i (scells TX) by have h := HV5.out; rw [HTL.out.1] at h; exact h)
        clear HA5 HB5 HV5
        have k0 : ((0 : Nat) : Int) = 0 := rfl
        go_wp2
        go_loopg [19] i (fun g s19 wy => ∃ j m : Nat, j + g = i ∧ s19 = .int .i64 (j : Int) ∧ wy = w5.drewN m)
        case atStart => exact ⟨0, 0, by omega, rfl, rfl⟩
        case round =>
          clear k0
          obtain ⟨j, m, hj, rfl, hw⟩ := hrel
          subst wr
          by_cases hji : j < i
          · have q0 : (0 : Int) ≤ (j : Int) := by omega
            have q1 : (j : Int) < (i : Int) := by omega
            have w3 : IntKind.i64.wrap ((j : Int) + 1) = ((j + 1 : Nat) : Int) := IntWalk.i64_in _ (by omega)
            obtain ⟨z, hz⟩ : ∃ z, D[j]? = some z := ⟨_, List.getElem?_eq_getElem (by have := HDL.out; omega)⟩
            obtain ⟨t1, t2⟩ := HTO.out j z hz
            obtain ⟨_, _, e, _, hc1⟩ := hwl.out
            cases e
            obtain ⟨b1, o1, ea, hb1, hd1⟩ := hc1 (by omega)
            cases ea
            obtain ⟨_, _, e, _, hc2⟩ := hww.out
            cases e
            obtain ⟨b2, o2, ea, hb2, hd2⟩ := hc2 (by omega)
            cases ea
            obtain ⟨_, _, e, _, hc3⟩ := hwb.out
            cases e
            obtain ⟨b3, o3, ea, hb3, hd3⟩ := hc3 (by omega)
            cases ea
            have x1 := hd1 j _ (scells_get t1)
            have x2 := hd2 j _ (scells_get t1)
            have x3 := hd3 j (tcellB (Ln.ill cc && decide (j = K))) (by rw [List.getElem?_map, t2]; rfl)
            obtain ⟨S, hS⟩ : ∃ S, scell (if (Ln.ill cc && decide (j = K)) = true then [] else z) = .string S := ⟨_, rfl⟩
            rw [hS] at x1 x2
            try rw [Nat.zero_add] at x2
            rw [HI.out] at x3
            unfold tcellB at x3
            clear hd1 hd2 hd3 hc1 hc2 hc3 hS hz t1 t2
            try simp only [Bool.false_and] at x3
            go_wp2_with fail
            go_quiet (fail)
            go_wp2_with fail
            go_roundg (i - (j + 1))
            case measure => omega
            case rel => exact ⟨j + 1, _, by omega, by first | rfl | simp, by first | rfl | exact World.drewN_drewN _ _ _⟩
          · have q1 : ¬ (j : Int) < (i : Int) := by omega
            go_wp2
            go_ret
            exact ⟨rfl, below_drewN B5.out m⟩
      · rw [decide_eq_true h1, decide_eq_false h2] at hill
        have HI := Lib.hid (show Ln.ill cc = true by rw [hill]; simp)
        clear hill
        have y9 : (X != 9) = true := bne_iff_ne.2 h2
        obtain ⟨gw, e⟩ : ∃ g, aw = some ⟨g, 0, none⟩ := by
          rcases own_form (by have h := HW4.out; unfold SFresh at h; rw [HDL.out] at h; exact h) with ⟨_, h0, _⟩ | ⟨g, h, _⟩
          · have := HK.out; omega
          · exact ⟨g, h⟩
        subst e
        have hKi : K < i := HK.out
        have hrow : w4.ownsRow w0.heap.size 9 1 (.slice (some ⟨gw, 0, none⟩) i cw) i (scells D) := by have h := HW4.out; unfold SFresh at h; rw [HDL.out] at h; exact h
        obtain ⟨zK, hzK⟩ : ∃ z, D[K]? = some z := ⟨_, List.getElem?_eq_getElem (by have := HDL.out; omega)⟩
        have cK : w4.cell? ⟨gw, K, none⟩ = some (scell zK) := by rw [World.ownsRow.cellAt hrow K (by omega)]; exact scells_get hzK
        have fK := World.ownsRow.frozenAt hrow K
        have hst := (World.ownsRow.stored hrow K (.string ⟨#[]⟩)).1
        have hgw := World.ownsRow.lt hrow gw rfl
        have hgw2 := HWf.out gw rfl
        have hset : (scells D).set K (.string ⟨#[]⟩) = scells TX := by
          apply List.ext_getElem?
          intro j
          rw [List.getElem?_set]
          unfold scells
          by_cases e : K = j
          · subst e
            rw [if_pos rfl, if_pos (by rw [List.length_map]; have := HDL.out; omega), List.getElem?_map, (HTO.out K zK hzK).1, HI.out, decide_eq_true rfl]
            rfl
          · rw [if_neg e, List.getElem?_map, List.getElem?_map]
            cases hz : D[j]? with
            | none => rw [List.getElem?_eq_none_iff] at hz; rw [List.getElem?_eq_none_iff.2 (by have := HTL.out.1; have := HDL.out; omega)]
            | some z => rw [(HTO.out j z hz).1, decide_eq_false (fun h => e h.symm), Bool.and_false]; rfl
        rw [hset] at hst
        have hkp : w4.grownBy (w4.setCell ⟨gw, K, none⟩ (.string ⟨#[]⟩)) (some gw) := kp_set w4 gw K _
        have HA5 := Lib.hid (show SFresh (w4.setCell ⟨gw, K, none⟩ (.string ⟨#[]⟩)) w3.heap.size (.slice al i cl) TX from lrow_kept La.out hkp (fun g e e2 => by have := (World.ownsRow.lt La.out g e).1; have := HSZ.out; cases e2; omega))
        have HB5 := Lib.hid (show BFresh (w4.setCell ⟨gw, K, none⟩ (.string ⟨#[]⟩)) w3.heap.size (.slice ad i cd) BX from lrow_kept Lb.out hkp (fun g e e2 => by have := (World.ownsRow.lt Lb.out g e).1; have := HSZ.out; cases e2; omega))
        have HV5 := Lib.hid (show RdC (w4.setCell ⟨gw, K, none⟩ (.string ⟨#[]⟩)) (.slice (some ⟨gw, 0, none⟩) i cw) TX.length (scells TX) by have h := own_rdc hst; rw [HTL.out.1]; exact h)
        have B5 := Lib.hid (show Below w.heap.size w (w4.setCell ⟨gw, K, none⟩ (.string ⟨#[]⟩)) from (HB0.out.trans (B0.out.mono HB0.out.size)).setCell (show w.heap.size ≤ (⟨gw, K, none⟩ : Addr).block by have := HB0.out.size; show w.heap.size ≤ gw; omega) _)
        obtain ⟨ZS, hZS⟩ : ∃ S, scell zK = .string S := ⟨_, rfl⟩
        rw [hZS] at cK
        have q3 : (0 : Int) ≤ (K : Int) := by omega
        have q4 : (K : Int) < (i : Int) := by omega
        have hgs : gw < w4.heap.size := hgw.2
        obtain ⟨w5, hw5⟩ : ∃ w5, w5 = w4.setCell ⟨gw, K, none⟩ (.string ⟨#[]⟩) := ⟨_, rfl⟩
        rw [← hw5] at HA5 HB5 HV5 B5
        have HW5 := Lib.hid hw5
        clear hrow hzK hst hset hkp hZS hgw hgw2 La Lb HW4 B0 hw5
        go_wp2
        rw [← HW5.out]
        clear cK fK q3 q4 hgs hKi
        have hwb := Lib.hid (show RdC w5 (.slice ad i cd) i (BX.map tcellB) by have h := own_rdc HB5.out; rw [HTL.out.2] at h; exact h)
        have hwl := Lib.hid (show RdC w5 (.slice al i cl) i (scells TX) by have h := own_rdc HA5.out; rw [HTL.out.1] at h; exact h)
        have hww := Lib.hid (show RdC w5 (.slice (some ⟨gw, 0, none⟩) i cw) i (scells TX) by have h := HV5.out; rw [HTL.out.1] at h; exact h)
        clear HA5 HB5 HV5
        have k0 : ((0 : Nat) : Int) = 0 := rfl
        go_loopg [19] i (fun g s19 wy => ∃ j m : Nat, j + g = i ∧ s19 = .int .i64 (j : Int) ∧ wy = w5.drewN m)
        case atStart => exact ⟨0, 0, by omega, rfl, rfl⟩
        case round =>
          clear k0
          obtain ⟨j, m, hj, rfl, hw⟩ := hrel
          subst wr
          by_cases hji : j < i
          · have q0 : (0 : Int) ≤ (j : Int) := by omega
            have q1 : (j : Int) < (i : Int) := by omega
            have w3 : IntKind.i64.wrap ((j : Int) + 1) = ((j + 1 : Nat) : Int) := IntWalk.i64_in _ (by omega)
            obtain ⟨z, hz⟩ : ∃ z, D[j]? = some z := ⟨_, List.getElem?_eq_getElem (by have := HDL.out; omega)⟩
            obtain ⟨t1, t2⟩ := HTO.out j z hz
            obtain ⟨_, _, e, _, hc1⟩ := hwl.out
            cases e
            obtain ⟨b1, o1, ea, hb1, hd1⟩ := hc1 (by omega)
            cases ea
            obtain ⟨_, _, e, _, hc2⟩ := hww.out
            cases e
            obtain ⟨b2, o2, ea, hb2, hd2⟩ := hc2 (by omega)
            cases ea
            obtain ⟨_, _, e, _, hc3⟩ := hwb.out
            cases e
            obtain ⟨b3, o3, ea, hb3, hd3⟩ := hc3 (by omega)
            cases ea
            have x1 := hd1 j _ (scells_get t1)
            have x2 := hd2 j _ (scells_get t1)
            have x3 := hd3 j (tcellB (Ln.ill cc && decide (j = K))) (by rw [List.getElem?_map, t2]; rfl)
            obtain ⟨S, hS⟩ : ∃ S, scell (if (Ln.ill cc && decide (j = K)) = true then [] else z) = .string S := ⟨_, rfl⟩
            rw [hS] at x1 x2
            try rw [Nat.zero_add] at x2
            rw [HI.out] at x3
            unfold tcellB at x3
            clear hd1 hd2 hd3 hc1 hc2 hc3 hS hz t1 t2
            try simp only [Bool.true_and] at x3
            by_cases hjK : j = K
            · rw [decide_eq_true hjK] at x3
              subst hjK
              go_wp2_with fail
              go_quiet (fail)
              go_wp2_with fail
              go_roundg (i - (j + 1))
              case measure => omega
              case rel => exact ⟨j + 1, _, by omega, by first | rfl | simp, by first | rfl | exact World.drewN_drewN _ _ _⟩
            · rw [decide_eq_false hjK] at x3
              have yK : ((j : Int) == (K : Int)) = false := beq_eq_false_iff_ne.2 (by omega)
              have yK2 : (j == K) = false := beq_eq_false_iff_ne.2 hjK
              have yK3 : decide ((j : Int) = (K : Int)) = false := decide_eq_false (by omega)
              have yK4 : decide (j = K) = false := decide_eq_false hjK
              have yK5 : ¬ (j : Int) = (K : Int) := by omega
              go_wp2_with fail
              go_quiet (fail)
              go_wp2_with fail
              go_roundg (i - (j + 1))
              case measure => omega
              case rel => exact ⟨j + 1, _, by omega, by first | rfl | simp, by first | rfl | exact World.drewN_drewN _ _ _⟩
          · have q1 : ¬ (j : Int) < (i : Int) := by omega
            go_wp2
            go_ret
            exact ⟨rfl, below_drewN B5.out m⟩
      · rw [decide_eq_true h2] at hill
        have HI := Lib.hid (show Ln.ill cc = true by rw [hill]; simp)
        clear hill
        obtain ⟨gw, e⟩ : ∃ g, aw = some ⟨g, 0, none⟩ := by
          rcases own_form (by have h := HW4.out; unfold SFresh at h; rw [HDL.out] at h; exact h) with ⟨_, h0, _⟩ | ⟨g, h, _⟩
          · have := HK.out; omega
          · exact ⟨g, h⟩
        subst e
        have hKi : K < i := HK.out
        have hrow : w4.ownsRow w0.heap.size 9 1 (.slice (some ⟨gw, 0, none⟩) i cw) i (scells D) := by have h := HW4.out; unfold SFresh at h; rw [HDL.out] at h; exact h
        obtain ⟨zK, hzK⟩ : ∃ z, D[K]? = some z := ⟨_, List.getElem?_eq_getElem (by have := HDL.out; omega)⟩
        have cK : w4.cell? ⟨gw, K, none⟩ = some (scell zK) := by rw [World.ownsRow.cellAt hrow K (by omega)]; exact scells_get hzK
        have fK := World.ownsRow.frozenAt hrow K
        have hst := (World.ownsRow.stored hrow K (.string ⟨#[]⟩)).1
        have hgw := World.ownsRow.lt hrow gw rfl
        have hgw2 := HWf.out gw rfl
        have hset : (scells D).set K (.string ⟨#[]⟩) = scells TX := by
          apply List.ext_getElem?
          intro j
          rw [List.getElem?_set]
          unfold scells
          by_cases e : K = j
          · subst e
            rw [if_pos rfl, if_pos (by rw [List.length_map]; have := HDL.out; omega), List.getElem?_map, (HTO.out K zK hzK).1, HI.out, decide_eq_true rfl]
            rfl
          · rw [if_neg e, List.getElem?_map, List.getElem?_map]
            cases hz : D[j]? with
            | none => rw [List.getElem?_eq_none_iff] at hz; rw [List.getElem?_eq_none_iff.2 (by have := HTL.out.1; have := HDL.out; omega)]
            | some z => rw [(HTO.out j z hz).1, decide_eq_false (fun h => e h.symm), Bool.and_false]; rfl
        rw [hset] at hst
        have hkp : w4.grownBy (w4.setCell ⟨gw, K, none⟩ (.string ⟨#[]⟩)) (some gw) := kp_set w4 gw K _
        have HA5 := Lib.hid (show SFresh (w4.setCell ⟨gw, K, none⟩ (.string ⟨#[]⟩)) w3.heap.size (.slice al i cl) TX from lrow_kept La.out hkp (fun g e e2 => by have := (World.ownsRow.lt La.out g e).1; have := HSZ.out; cases e2; omega))
        have HB5 := Lib.hid (show BFresh (w4.setCell ⟨gw, K, none⟩ (.string ⟨#[]⟩)) w3.heap.size (.slice ad i cd) BX from lrow_kept Lb.out hkp (fun g e e2 => by have := (World.ownsRow.lt Lb.out g e).1; have := HSZ.out; cases e2; omega))
        have HV5 := Lib.hid (show RdC (w4.setCell ⟨gw, K, none⟩ (.string ⟨#[]⟩)) (.slice (some ⟨gw, 0, none⟩) i cw) TX.length (scells TX) by have h := own_rdc hst; rw [HTL.out.1]; exact h)
        have B5 := Lib.hid (show Below w.heap.size w (w4.setCell ⟨gw, K, none⟩ (.string ⟨#[]⟩)) from (HB0.out.trans (B0.out.mono HB0.out.size)).setCell (show w.heap.size ≤ (⟨gw, K, none⟩ : Addr).block by have := HB0.out.size; show w.heap.size ≤ gw; omega) _)
        obtain ⟨ZS, hZS⟩ : ∃ S, scell zK = .string S := ⟨_, rfl⟩
        rw [hZS] at cK
        have q3 : (0 : Int) ≤ (K : Int) := by omega
        have q4 : (K : Int) < (i : Int) := by omega
        have hgs : gw < w4.heap.size := hgw.2
        obtain ⟨w5, hw5⟩ : ∃ w5, w5 = w4.setCell ⟨gw, K, none⟩ (.string ⟨#[]⟩) := ⟨_, rfl⟩
        rw [← hw5] at HA5 HB5 HV5 B5
        have HW5 := Lib.hid hw5
        clear hrow hzK hst hset hkp hZS hgw hgw2 La Lb HW4 B0 hw5
        go_wp2
        rw [← HW5.out]
        clear cK fK q3 q4 hgs hKi
        have hwb := Lib.hid (show RdC w5 (.slice ad i cd) i (BX.map tcellB) by have h := own_rdc HB5.out; rw [HTL.out.2] at h; exact h)
        have hwl := Lib.hid (show RdC w5 (.slice al i cl) i (scells TX) by have h := own_rdc HA5.out; rw [HTL.out.1] at h; exact h)
        have hww := Lib.hid (show RdC w5 (.slice (some ⟨gw, 0, none⟩) i cw) i (scells TX) by have h := HV5.out; rw [HTL.out.1] at h; exact h)
        clear HA5 HB5 HV5
        have k0 : ((0 : Nat) : Int) = 0 := rfl
        go_loopg [19] i (fun g s19 wy => ∃ j m : Nat, j + g = i ∧ s19 = .int .i64 (j : Int) ∧ wy = w5.drewN m)
        case atStart => exact ⟨0, 0, by omega, rfl, rfl⟩
        case round =>
          clear k0
          obtain ⟨j, m, hj, rfl, hw⟩ := hrel
          subst wr
          by_cases hji : j < i
          · have q0 : (0 : Int) ≤ (j : Int) := by omega
            have q1 : (j : Int) < (i : Int) := by omega
            have w3 : IntKind.i64.wrap ((j : Int) + 1) = ((j + 1 : Nat) : Int) := IntWalk.i64_in _ (by omega)
            obtain ⟨z, hz⟩ : ∃ z, D[j]? = some z := ⟨_, List.getElem?_eq_getElem (by have := HDL.out; omega)⟩
            obtain ⟨t1, t2⟩ := HTO.out j z hz
            obtain ⟨_, _, e, _, hc1⟩ := hwl.out
            cases e
            obtain ⟨b1, o1, ea, hb1, hd1⟩ := hc1 (by omega)
            cases ea
            obtain ⟨_, _, e, _, hc2⟩ := hww.out
            cases e
            obtain ⟨b2, o2, ea, hb2, hd2⟩ := hc2 (by omega)
            cases ea
            obtain ⟨_, _, e, _, hc3⟩ := hwb.out
            cases e
            obtain ⟨b3, o3, ea, hb3, hd3⟩ := hc3 (by omega)
            cases ea
            have x1 := hd1 j _ (scells_get t1)
            have x2 := hd2 j _ (scells_get t1)
            have x3 := hd3 j (tcellB (Ln.ill cc && decide (j = K))) (by rw [List.getElem?_map, t2]; rfl)
            obtain ⟨S, hS⟩ : ∃ S, scell (if (Ln.ill cc && decide (j = K)) = true then [] else z) = .string S := ⟨_, rfl⟩
            rw [hS] at x1 x2
            try rw [Nat.zero_add] at x2
            rw [HI.out] at x3
            unfold tcellB at x3
            clear hd1 hd2 hd3 hc1 hc2 hc3 hS hz t1 t2
            try simp only [Bool.true_and] at x3
            by_cases hjK : j = K
            · rw [decide_eq_true hjK] at x3
              subst hjK
              go_wp2_with fail
              go_quiet (fail)
              go_wp2_with fail
              go_roundg (i - (j + 1))
              case measure => omega
              case rel => exact ⟨j + 1, _, by omega, by first | rfl | simp, by first | rfl | exact World.drewN_drewN _ _ _⟩
            · rw [decide_eq_false hjK] at x3
              have yK : ((j : Int) == (K : Int)) = false := beq_eq_false_iff_ne.2 (by omega)
              have yK2 : (j == K) = false := beq_eq_false_iff_ne.2 hjK
              have yK3 : decide ((j : Int) = (K : Int)) = false := decide_eq_false (by omega)
              have yK4 : decide (j = K) = false := decide_eq_false hjK
              have yK5 : ¬ (j : Int) = (K : Int) := by omega
              go_wp2_with fail
              go_quiet (fail)
              go_wp2_with fail
              go_roundg (i - (j + 1))
              case measure => omega
              case rel => exact ⟨j + 1, _, by omega, by first | rfl | simp, by first | rfl | exact World.drewN_drewN _ _ _⟩
          · have q1 : ¬ (j : Int) < (i : Int) := by omega
            go_wp2
            go_ret
            exact ⟨rfl, below_drewN B5.out m⟩
      · rw [decide_eq_false h1, decide_eq_false h2] at hill
        have y126 : decide ((126 : Int) < X) = false := decide_eq_false h2
        have HI := Lib.hid (show Ln.ill cc = false from hill)
        clear hill
        have HV5 := Lib.hid (show RdC w4 (.slice aw i cw) TX.length (scells TX) by
          have e : TX = D := by
            apply List.ext_getElem?
            intro j
            cases hz : D[j]? with
            | none => rw [List.getElem?_eq_none_iff] at hz ⊢; have := HTL.out.1; have := HDL.out; omega
            | some z => rw [(HTO.out j z hz).1, HI.out]; rfl
          rw [e]
          have h := own_rdc HW4.out
          rw [HDL.out] at h ⊢
          exact h)
        have HA5 := La
        have HB5 := Lb
        have B5 := Lib.hid (HB0.out.trans (B0.out.mono HB0.out.size))
        clear La Lb HW4 B0
        obtain ⟨w5, hw5⟩ : ∃ w5, w5 = w4 := ⟨_, rfl⟩
        subst hw5
        have hwb := Lib.hid (show RdC w5 (.slice ad i cd) i (BX.map tcellB) by have h := own_rdc HB5.out; rw [HTL.out.2] at h; exact h)
        have hwl := Lib.hid (show RdC w5 (.slice al i cl) i (scells TX) by have h := own_rdc HA5.out; rw [HTL.out.1] at h; exact h)
        have hww := Lib.hid (show RdC w5 (.slice aw i cw) i (scells TX) by have h := HV5.out; rw [HTL.out.1] at h; exact h)
        clear HA5 HB5 HV5
        have k0 : ((0 : Nat) : Int) = 0 := rfl
        go_wp2
        go_loopg [19] i (fun g s19 wy => ∃ j m : Nat, j + g = i ∧ s19 = .int .i64 (j : Int) ∧ wy = w5.drewN m)
        case atStart => exact ⟨0, 0, by omega, rfl, rfl⟩
        case round =>
          clear k0
          obtain ⟨j, m, hj, rfl, hw⟩ := hrel
          subst wr
          by_cases hji : j < i
          · have q0 : (0 : Int) ≤ (j : Int) := by omega
            have q1 : (j : Int) < (i : Int) := by omega
            have w3 : IntKind.i64.wrap ((j : Int) + 1) = ((j + 1 : Nat) : Int) := IntWalk.i64_in _ (by omega)
            obtain ⟨z, hz⟩ : ∃ z, D[j]? = some z := ⟨_, List.getElem?_eq_getElem (by have := HDL.out; omega)⟩
            obtain ⟨t1, t2⟩ := HTO.out j z hz
            obtain ⟨_, _, e, _, hc1⟩ := hwl.out
            cases e
            obtain ⟨b1, o1, ea, hb1, hd1⟩ := hc1 (by omega)
            cases ea
            obtain ⟨_, _, e, _, hc2⟩ := hww.out
            cases e
            obtain ⟨b2, o2, ea, hb2, hd2⟩ := hc2 (by omega)
            cases ea
            obtain ⟨_, _, e, _, hc3⟩ := hwb.out
            cases e
            obtain ⟨b3, o3, ea, hb3, hd3⟩ := hc3 (by omega)
            cases ea
            have x1 := hd1 j _ (scells_get t1)
            have x2 := hd2 j _ (scells_get t1)
            have x3 := hd3 j (tcellB (Ln.ill cc && decide (j = K))) (by rw [List.getElem?_map, t2]; rfl)
            obtain ⟨S, hS⟩ : ∃ S, scell (if (Ln.ill cc && decide (j = K)) = true then [] else z) = .string S := ⟨_, rfl⟩
            rw [hS] at x1 x2
            try rw [Nat.zero_add] at x2
            rw [HI.out] at x3
            unfold tcellB at x3
            clear hd1 hd2 hd3 hc1 hc2 hc3 hS hz t1 t2
            try simp only [Bool.false_and] at x3
            go_wp2_with fail
            go_quiet (fail)
            go_wp2_with fail
            go_roundg (i - (j + 1))
            case measure => omega
            case rel => exact ⟨j + 1, _, by omega, by first | rfl | simp, by first | rfl | exact World.drewN_drewN _ _ _⟩
          · have q1 : ¬ (j : Int) < (i : Int) := by omega
            go_wp2
            go_ret
            exact ⟨rfl, below_drewN B5.out m⟩
end Go.Proofs.Ytiofdlkdpmomlaa
