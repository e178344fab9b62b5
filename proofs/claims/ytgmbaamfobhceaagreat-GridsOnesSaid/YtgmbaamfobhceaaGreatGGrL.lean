/- The stairs of a grid, and its rank. The rank of a grid; is a number among others? A grid beside a column. A grid beside a column: the walk. -/
import Derived.WalkMore
import Derived.Test.YtgmbaamfobhceaaGreatGGrH
set_option linter.unusedSimpArgs false
set_option linter.unusedVariables false
set_option maxHeartbeats 8000000
namespace Go.Proofs.YtgmbaamfobhceaaGreat
open Go Go.Proofs Go.RowKit Go.Shelf Nu
set_option linter.unusedVariables false
set_option linter.unusedSimpArgs false
set_option maxRecDepth 100000
attribute [local go_sem] Oper.semAt_some
def hit (R : List (List Rat)) (m c : Nat) : Option Nat := (List.range R.length).find? fun q => decide (m ≤ q) && !decide ((R.getD q []).getD c 0 = 0)
abbrev Stp : Type := List (List Rat) × List Nat
def step (S : Stp) (c : Nat) : Stp := match hit S.1 S.2.length c with
 | some q => (turnR S.1 S.2.length q c, S.2 ++ [c])
 | none => S
def stp (R : List (List Rat)) (k : Nat) : Stp := (List.range k).foldl step (R, [])
theorem stp_next (R : List (List Rat)) (k : Nat) : stp R (k + 1) = step (stp R k) k := by unfold stp; rw [List.range_succ, List.foldl_append]; rfl
def fine (R : List (List Rat)) (N : Nat) : Prop := ∀ k, k < N → (∀ r ∈ (stp R k).1, ∀ x ∈ r, wt x ≤ 3000) ∧ ∀ q, hit (stp R k).1 (stp R k).2.length k = some q → small (swp (stp R k).1 (stp R k).2.length q) (stp R k).2.length k
theorem find_at {p : Nat → Bool} {n q : Nat} (hq : q < n) (h : p q = true) (hb : ∀ j, j < q → p j = false) : (List.range n).find? p = some q := by
 rw [List.find?_range_eq_some]
 exact ⟨h, by simpa using hq, fun j hj => by rw [hb j hj]; rfl⟩
theorem hit_at {R : List (List Rat)} {m c q : Nat} (hq : q < R.length) (hm : m ≤ q) (h : (R.getD q []).getD c 0 ≠ 0) (hb : ∀ j, m ≤ j → j < q → (R.getD j []).getD c 0 = 0) : hit R m c = some q := by
 refine find_at hq ?_ fun j hj => ?_
 · show (decide (m ≤ q) && !decide ((R.getD q []).getD c 0 = 0)) = true
   rw [decide_eq_true hm, decide_eq_false h]; rfl
 · show (decide (m ≤ j) && !decide ((R.getD j []).getD c 0 = 0)) = false
   by_cases e : m ≤ j
   · rw [decide_eq_true (hb j e hj)]; exact Bool.and_false _
   · rw [decide_eq_false e]; rfl
theorem hit_no {R : List (List Rat)} {m c : Nat} (hb : ∀ j, m ≤ j → j < R.length → (R.getD j []).getD c 0 = 0) : hit R m c = none := by
 unfold hit
 rw [List.find?_eq_none]
 intro j hj
 have hj := List.mem_range.1 hj
 show ¬ ((decide (m ≤ j) && !decide ((R.getD j []).getD c 0 = 0)) = true)
 by_cases e : m ≤ j
 · rw [decide_eq_true (hb j e hj), Bool.not_true, Bool.and_false]; exact Bool.false_ne_true
 · rw [decide_eq_false e, Bool.false_and]; exact Bool.false_ne_true
theorem swp_len (R : List (List Rat)) (m q : Nat) : (swp R m q).length = R.length := by unfold swp; simp
theorem upto_all {R : List (List Rat)} {m c k N : Nat} (h : ∀ r ∈ R, r.length = N) (hm : m < R.length) : ∀ r ∈ upto R m c k, r.length = N := by
 intro r hr
 unfold upto at hr
 obtain ⟨i, hi, rfl⟩ := List.mem_mapIdx.1 hr
 have h1 := h R[i] (List.getElem_mem hi)
 have h2 : (R.getD m []).length = N := by rw [List.getD_eq_getElem?_getD, List.getElem?_eq_getElem hm]; exact h _ (List.getElem_mem hm)
 split
 · unfold elim
   split
   · exact h1
   · rw [List.length_append, axpy_len (by rw [List.length_drop, List.length_drop, h1, h2]), List.length_take, List.length_drop, h1]; omega
 · exact h1
theorem turnR_all {R : List (List Rat)} {m q c N : Nat} (h : ∀ r ∈ R, r.length = N) (hm : m < R.length) (hq : q < R.length) : ∀ r ∈ turnR R m q c, r.length = N := by
 unfold turnR
 exact upto_all (swp_all h hm hq) (by rw [swp_len]; exact hm)
theorem GR.reads {W : World} {base g n cap : Nat} {vs : List Value} {R : List (List Rat)} (h : GR W base g n cap vs R) (h0 : 0 < n) : GridR W (.slice (some ⟨g, 0, none⟩) n cap) (gq R) := by
 have hc : n ≤ cap := by
  rcases h.own.2 with ⟨e, _⟩ | ⟨g', cap', cur, e, _, _, hx, _⟩
  · cases e
  · cases e; exact hx
 have hl : (gq R).length = n := by unfold gq; rw [List.length_map, h.len]
 refine ⟨some ⟨g, 0, none⟩, cap, by rw [hl], by omega, fun _ => ⟨g, 0, rfl, h.lt.2, fun j x hx => ?_⟩⟩
 have hj := (List.getElem?_eq_some_iff.1 hx).1
 obtain ⟨a, c, r, e1, e2, e3, e4, e5⟩ := h.at (k := j) (by omega)
 rw [gq_at e1] at hx
 cases hx
 exact ⟨_, by rw [Nat.zero_add, Nat.mul_one]; exact e4, e3⟩
theorem cols_gq {R : List (List Rat)} {N : Nat} (h0 : 0 < R.length) (h : ∀ r ∈ R, r.length = N) : cols (gq R) = N := by
 cases R with
 | nil => simp at h0
 | cons r R => show (r.map qr).length = N; rw [List.length_map]; exact h r (by simp)
theorem g_stairsOf {w : World} {a : Option Addr} {n cap N : Nat} {R : List (List Rat)} (h : GridR w (.slice a n cap) (gq R)) (h0 : 0 < n) (hn : n ≤ 1000) (hR : ∀ r ∈ R, r.length = N) (hN : N ≤ 1000) (hf : fine R N) :
  Calls Tryz.prog 47 #[.slice a n cap] w fun e w' => ∃ B g cap' la lc vs, e = .returned (.pointer (some ⟨B, 0, none⟩)) ∧ w.heap.size ≤ B ∧ BoxN w' B 74 #[.slice (some ⟨g, 0, none⟩) n cap', .slice la (stp R N).2.length lc] ∧ GR w' w.heap.size g n cap' vs (stp R N).1 ∧ LD w' w.heap.size (.slice la (stp R N).2.length lc) (stp R N).2 ∧ Below w.heap.size w w' := by
 have k1 := Lib.hid (g_clone h h0 hn)
 have hl : R.length = n := by have := h.addr.1; unfold gq at this; rw [List.length_map] at this; exact this.symm
 have HRN := Lib.hid (And.intro hl (And.intro hR hf))
 have HC := Lib.hid (cols_gq (by omega) hR)
 clear h hR hf hl
 go_enter Tryz.func47, Tryz.ntmps47
 go_wp2_with fail
 go_step3
 go_wp2_with fail
 refine k1.out.mono ?_
 as_aux_lemma =>
  rintro e w1 ⟨g, cap', vs, rfl, hG, rr⟩
  have hs1 := rr.size
  have hBX := BoxN.new w1 74 #[.slice (some ⟨g, 0, none⟩) n cap', .slice none 0 0]
  have hAl : Below w1.heap.size w1 (w1.alloc (.cells #[.slice (some ⟨g, 0, none⟩) n cap', .slice none 0 0] 74)) := (Below.refl _ _).alloc (Nat.le_refl _) _
  have y0 := hBX.cell 0 _ rfl
  have HB2 := Lib.hid hBX
  have HG2 := Lib.hid (hG.below hAl)
  have HL2 := Lib.hid (show LD (w1.alloc (.cells #[.slice (some ⟨g, 0, none⟩) n cap', .slice none 0 0] 74)) w.heap.size (.slice none 0 0) [] from ⟨World.ownsRow_nil _ _ _ 1, fun _ e => by cases e⟩)
  have HW2 := Lib.hid (then_below rr hAl)
  have KC := Lib.hid (fun (W : World) (x : GR W w.heap.size g n cap' vs R) => g_columns (x.reads h0) hn)
  rw [HC.out] at KC
  clear k1 hBX hAl hG rr
  go_wp2_with fail
  go_step3
  go_wp2_with fail
  obtain ⟨W2, hW2⟩ : ∃ W2, W2 = w1.alloc (.cells #[.slice (some ⟨g, 0, none⟩) n cap', .slice none 0 0] 74) := ⟨_, rfl⟩
  rw [← hW2] at HB2 HG2 HL2 HW2 y0 ⊢
  obtain ⟨B, hB⟩ : ∃ B, B = w1.heap.size := ⟨_, rfl⟩
  rw [← hB] at HB2 y0 hs1 ⊢
  clear hW2 hB
  refine (KC.out _ HG2.out).mono ?_
  rintro e w3 ⟨rfl, rfl⟩
  clear KC y0 HC
  go_wp2_with fail
  go_loopg [15] N (fun x s wr => ∃ (k : Nat) (la : Option Addr) (lc ll : Nat) (vs' : List Value) (Rk : List (List Rat)) (ldk : List Nat), k + x = N ∧ ll ≤ n ∧ s = .int .i64 (k : Int) ∧ Hid (stp R k = (Rk, ldk)) ∧ Hid (ll = ldk.length) ∧ Hid (∀ r ∈ Rk, r.length = N) ∧ Hid (BoxN wr B 74 #[.slice (some ⟨g, 0, none⟩) n cap', .slice la ll lc]) ∧ Hid (GR wr w.heap.size g n cap' vs' Rk) ∧ Hid (LD wr w.heap.size (.slice la ll lc) ldk) ∧ Hid (Below w.heap.size w wr))
  case atStart => exact ⟨0, none, 0, 0, vs, R, [], by omega, by omega, rfl, Lib.hid rfl, Lib.hid rfl, Lib.hid HRN.out.2.1, HB2, HG2, HL2, HW2⟩
  case round => as_aux_lemma =>
   clear HB2 HG2 HL2 HW2
   obtain ⟨k, la, lc, ll, vs', Rk, ldk, hk, hll, rfl, HS, HLL, HR, HB, HG, HL, HW⟩ := hrel
   obtain ⟨w4, rfl⟩ : ∃ w4, w4 = wr := ⟨_, rfl⟩
   have hsr : w.heap.size ≤ w4.heap.size := HW.out.size
   by_cases hlt : k < N
   · as_aux_lemma =>
     have n0 : (0 : Int) ≤ (k : Int) := by omega
     have l0 : (k : Int) < (N : Int) := by omega
     have w0 : IntKind.i64.wrap ((k : Int) + 1) = ((k + 1 : Nat) : Int) := IntWalk.i64_in _ (by omega)
     have z0 := HB.out.cell 0 _ rfl
     have z1 := HB.out.cell 1 _ rfl
     go_wp2_with fail
     clear z0 z1
     go_loopg [5] (n - ll) (fun x s wq => ∃ q : Nat, q + x = n ∧ ll ≤ q ∧ s = .int .i64 (q : Int) ∧ Hid (∀ j, ll ≤ j → j < q → (Rk.getD j []).getD k 0 = 0) ∧ Hid (Below w4.heap.size w4 wq))
     case atStart => exact ⟨ll, by omega, by omega, rfl, Lib.hid (fun j h1 h2 => absurd h2 (by omega)), Lib.hid (Below.refl _ _)⟩
     case round => as_aux_lemma =>
      obtain ⟨q, hq, hlq, rfl, HN, HQ⟩ := hrel
      have z0 := (HB.out.under HQ.out).cell 0 _ rfl
      by_cases hqn : q < n
      · have m0 : (0 : Int) ≤ (q : Int) := by omega
        have m1 : (q : Int) < (n : Int) := by omega
        have w1 : IntKind.i64.wrap ((q : Int) + 1) = ((q + 1 : Nat) : Int) := IntWalk.i64_in _ (by omega)
        obtain ⟨ya, c2, r, e1, -, e3, e4, e5⟩ := (HG.out.below HQ.out).at hqn
        have hrl := HR.out r (List.mem_of_getElem? e1)
        rw [hrl] at e3 e4
        obtain ⟨-, -, b2, o2, hA2, hel2⟩ := e3.addr
        obtain ⟨rfl, hb2⟩ := hA2 (by omega)
        have hget : Rk.getD q [] = r := by rw [List.getD_eq_getElem?_getD, e1]; rfl
        obtain ⟨p, e1', p', e2', h1, h2, h3, g1, g2⟩ := hel2 k (qr (r.getD k 0)) (at_qr (by omega))
        have hfk := HRN.out.2.2 k hlt
        rw [HS.out] at hfk
        have hX := hfk.1 r (List.mem_of_getElem? e1) (r.getD k 0) (at_mem (by omega))
        have fX := fit_qr (X := r.getD k 0) (by omega)
        have KS := Lib.hid (r_sign (w := wr) (rsg (r.getD k 0) 0) (qr_can (r.getD k 0)).is rfl (by have := fX.2.1; omega) (by have := fX.2.2; omega) g1 g2)
        have HZ0 := Lib.hid (show rsg (r.getD k 0) 0 = 0 → (Rk.getD q []).getD k 0 = 0 from fun h => by rw [hget]; exact rsg_z.1 h)
        have HZ1 := Lib.hid (show ¬ rsg (r.getD k 0) 0 = 0 → (Rk.getD q []).getD k 0 ≠ 0 from fun h h2 => h (rsg_z.2 (by rw [← hget]; exact h2)))
        have HFK := Lib.hid hfk.2
        obtain ⟨qX, hqX⟩ : ∃ x, x = qr (r.getD k 0) := ⟨_, rfl⟩
        obtain ⟨zz, hzz⟩ : ∃ x, x = rsg (r.getD k 0) 0 := ⟨_, rfl⟩
        rw [← hqX] at KS h1 h2 h3
        rw [← hzz] at KS HZ0 HZ1
        clear e1 e3 e5 hrl hel2 hb2 hget g1 g2 hfk hX fX hqX hzz hA2
        by_cases hz : zz = 0
        · as_aux_lemma =>
          subst hz
          go_wp2_with fail
          refine KS.out.mono ?_
          rintro e w5 ⟨rfl, rr⟩
          go_wp2_with fail
          go_roundg (n - (q + 1))
          case measure => omega
          case rel =>
           refine ⟨q + 1, by omega, by omega, by first | rfl | simp, Lib.hid (fun j h1 h2 => ?_), Lib.hid (then_below HQ.out rr)⟩
           by_cases e : j = q
           · subst e; exact HZ0.out (by simp)
           · exact HN.out j h1 (by omega)
        · as_aux_lemma =>
          have jz : (zz != 0) = true := bne_iff_ne.2 hz
          have hnz := HZ1.out hz
          have hh : hit Rk ldk.length k = some q := hit_at (by rw [HG.out.len]; exact hqn) (by rw [← HLL.out]; exact hlq) hnz (by rw [← HLL.out]; exact HN.out)
          have hlm : ldk.length < Rk.length := by rw [HG.out.len, ← HLL.out]; omega
          have HS2 := Lib.hid (show stp R (k + 1) = (turnR Rk ldk.length q k, ldk ++ [k]) by rw [stp_next, HS.out]; unfold step; rw [show hit (Rk, ldk).1 (Rk, ldk).2.length k = some q from hh])
          have HR2 := Lib.hid (show ∀ r ∈ turnR Rk ldk.length q k, r.length = N from turnR_all HR.out hlm (by rw [HG.out.len]; exact hqn))
          have HLL2 := Lib.hid (show ll + 1 = (ldk ++ [k]).length by rw [List.length_append, List.length_singleton, ← HLL.out])
          have KT := Lib.hid (fun (W : World) (r0 : Below w4.heap.size w4 W) => g_turnS (HB.out.under r0) hs1 (HG.out.below r0) (HL.out.below r0) (Nat.le_trans hsr r0.size) (by rw [← HLL.out]; exact hlq) hqn hn HR.out hlt hN hnz (HFK.out q hh))
          clear hh hlm hnz HZ0 HZ1 HFK hz HN
          go_wp2_with fail
          refine KS.out.mono ?_
          rintro e w5 ⟨rfl, rr⟩
          have HB5 := Lib.hid (then_below HQ.out rr)
          clear rr KS
          go_wp2_with fail
          refine (KT.out _ HB5.out).mono ?_
          rintro e w6 ⟨rfl, lv', vs2, B6, G6, L6, W6⟩
          obtain ⟨la2, lc2, rfl⟩ := own_form L6.own
          rw [← HLL2.out] at B6 L6
          have B6 := Lib.hid B6
          have G6 := Lib.hid G6
          have L6 := Lib.hid L6
          have W6 := Lib.hid ((then_at HW.out hsr HB5.out).trans W6)
          clear KT HB5
          go_wp2_with fail
          go_roundg (N - (k + 1))
          case measure => omega
          case rel => exact ⟨k + 1, la2, lc2, ll + 1, vs2, _, _, by omega, by omega, by first | rfl | simp, HS2, HLL2, HR2, B6, G6, L6, W6⟩
      · as_aux_lemma =>
        have hqe : q = n := by omega
        have m1 : ¬ (q : Int) < (n : Int) := by omega
        have HS2 := Lib.hid (show stp R (k + 1) = (Rk, ldk) by rw [stp_next, HS.out]; unfold step; rw [show hit (Rk, ldk).1 (Rk, ldk).2.length k = none from hit_no (by rw [← HLL.out]; intro j h1 h2; exact HN.out j h1 (by have := HG.out.len; simp only at h2; omega))])
        go_wp2_with fail
        go_roundg (N - (k + 1))
        case measure => omega
        case rel => exact ⟨k + 1, la, lc, ll, vs', Rk, ldk, by omega, by omega, by first | rfl | simp, HS2, HLL, HR, Lib.hid (HB.out.under HQ.out), Lib.hid (HG.out.below HQ.out), Lib.hid (HL.out.below HQ.out), Lib.hid (then_at HW.out hsr HQ.out)⟩
   · as_aux_lemma =>
     obtain rfl : k = N := by omega
     have l0 : ¬ (k : Int) < (k : Int) := by omega
     go_wp2_with fail
     go_ret
     have e := HS.out
     refine ⟨B, g, cap', la, lc, vs', rfl, hs1, ?_⟩
     rw [e]
     have e2 := HLL.out
     subst e2
     exact ⟨HB.out, HG.out, HL.out, HW.out⟩
theorem gok_gq {R : List (List Rat)} {N : Nat} (hR : ∀ r ∈ R, r.length = N) : gokB (gq R) = true := by
 unfold gokB
 rw [List.all_eq_true]
 intro r hr
 obtain ⟨s, hs, rfl⟩ := List.mem_map.1 hr
 rw [cols_gq (by cases R with | nil => cases hs | cons y t => simp) hR, all_qok_qr, List.length_map, hR s hs]
 simp
theorem fine_zero {R : List (List Rat)} {N : Nat} (h : fine R N) (h0 : 0 < N) : ∀ r ∈ R, ∀ x ∈ r, wt x ≤ 3000 := (h 0 h0).1
theorem grows_gq {R : List (List Rat)} {N : Nat} (hn : R.length ≤ 1000) (hR : ∀ r ∈ R, r.length = N) (hN : N ≤ 1000) (hf : fine R N) : grows (gq R) := by
 refine ⟨by unfold gq; rw [List.length_map]; exact hn, fun r hr => ?_⟩
 obtain ⟨s, hs, rfl⟩ := List.mem_map.1 hr
 have hl := hR s hs
 refine ⟨fit_each fun x hx => ?_, by rw [List.length_map]; omega⟩
 by_cases h0 : 0 < N
 · have := fine_zero hf h0 s hs x hx; omega
 · have : s = [] := List.eq_nil_of_length_eq_zero (by omega)
   subst this; cases hx
theorem g_rank {w : World} {a : Option Addr} {n cap N : Nat} {R : List (List Rat)} (h : GridR w (.slice a n cap) (gq R)) (h0 : 0 < n) (hn : n ≤ 1000) (hR : ∀ r ∈ R, r.length = N) (hN : N ≤ 1000) (hf : fine R N) :
  Calls Tryz.prog 15 #[.slice a n cap] w fun e w' => e = .returned (.tuple #[.int .i64 ((stp R N).2.length : Nat), .int .i64 0]) ∧ Below w.heap.size w w' := by
 have hl : R.length = n := by have := h.addr.1; unfold gq at this; rw [List.length_map] at this; exact this.symm
 have k1 := Lib.hid (g_check true (gok_gq hR).symm h (grows_gq (by omega) hR hN hf))
 have k2 := Lib.hid (fun (W : World) (r : Below w.heap.size w W) => g_stairsOf (h.below r) h0 hn hR hN hf)
 obtain ⟨S, hS⟩ : ∃ S, S = stp R N := ⟨_, rfl⟩
 rw [← hS] at k2 ⊢
 clear h hR hf hl hS
 go_enter Tryz.func15, Tryz.ntmps15
 go_wp2_with fail
 refine k1.out.mono ?_
 rintro e w1 ⟨rfl, rr⟩
 have B1 := Lib.hid rr
 clear rr k1
 go_wp2_with fail
 refine (k2.out _ B1.out).mono ?_
 rintro e w2 ⟨B, g, cap', la, lc, vs, rfl, hs, hB, hG, hL, rr⟩
 have y1 := hB.cell 1 _ rfl
 have B2 := Lib.hid (then_below B1.out rr)
 clear hB hG hL rr k2
 go_wp2_with fail
 go_ret2
 exact ⟨rfl, B2.out⟩
theorem LD.at {W : World} {base m lc : Nat} {la : Option Addr} {ld : List Nat} (h : LD W base (.slice la m lc) ld) (hm : m = ld.length) (h0 : 0 < m) : ∃ g, la = some ⟨g, 0, none⟩ ∧ m ≤ lc ∧ ∀ j, j < m → W.cell? ⟨g, j, none⟩ = some (.int .i64 (ld.getD j 0 : Nat)) := by
 subst hm
 have ho := h.own
 rcases h.own.2 with ⟨e, hn⟩ | ⟨g, cap, cur, e, _, _, hc, _⟩
 · omega
 · cases e
   refine ⟨g, rfl, hc, fun j hj => ?_⟩
   rw [World.ownsRow.cellAt ho j (by omega), List.getElem?_map, List.getElem?_eq_getElem hj, List.getD_eq_getElem?_getD, List.getElem?_eq_getElem hj]
   rfl
theorem g_index {w : World} {base m lc c : Nat} {la : Option Addr} {ld : List Nat} (h : LD w base (.slice la m lc) ld) (hm : m = ld.length) (hm9 : m ≤ 1000) (hc : c ≤ 1000) :
  Calls Tryz.prog 97 #[.slice la m lc, .int .i64 (c : Int)] w fun e w' => ∃ z : Int, e = .returned (.int .i64 z) ∧ (0 ≤ z ↔ c ∈ ld) ∧ Below w.heap.size w w' := by
 have HA := Lib.hid (fun h0 : 0 < m => h.at hm h0)
 have HM := Lib.hid hm
 clear h hm
 have k0 : ((0 : Nat) : Int) = 0 := rfl
 go_enter Tryz.func97, Tryz.ntmps97
 go_wp2
 go_loopg [8] m (fun x s wr => ∃ k : Nat, k + x = m ∧ s = .int .i64 (k : Int) ∧ Hid (∀ j, j < k → ld.getD j 0 ≠ c) ∧ w = wr)
 case atStart => exact ⟨0, by omega, rfl, Lib.hid (fun j hj => by omega), rfl⟩
 case round => as_aux_lemma =>
  clear k0
  obtain ⟨k, hk, rfl, HN, rfl⟩ := hrel
  by_cases hlt : k < m
  · have n0 : (0 : Int) ≤ (k : Int) := by omega
    have l0 : (k : Int) < (m : Int) := by omega
    have w0 : IntKind.i64.wrap ((k : Int) + 1) = ((k + 1 : Nat) : Int) := IntWalk.i64_in _ (by omega)
    obtain ⟨g, rfl, hcm, hcell⟩ := HA.out (by omega)
    have y0 := hcell k hlt
    have HE := Lib.hid (show ld.getD k 0 = c → c ∈ ld from fun e => by rw [← e, List.getD_eq_getElem?_getD, List.getElem?_eq_getElem (by have := HM.out; omega)]; exact List.getElem_mem _)
    have HQ := Lib.hid (show ∀ y, y = ld.getD k 0 → y ≠ c → ∀ j, j < k + 1 → ld.getD j 0 ≠ c from fun y hy hne j hj => by
      by_cases e : j = k
      · rw [e, ← hy]; exact hne
      · exact HN.out j (by omega))
    obtain ⟨y, hy⟩ : ∃ y, y = ld.getD k 0 := ⟨_, rfl⟩
    rw [← hy] at y0 HE
    have HY := Lib.hid hy
    clear hcell HA hy
    by_cases he : y = c
    · have j1 : ((c : Int) == (y : Int)) = true := by rw [he]; simp
      have hin := HE.out he
      clear he
      go_wp2_with fail
      go_ret
      exact ⟨_, rfl, ⟨fun _ => hin, fun _ => by omega⟩, Below.refl _ _⟩
    · have j1 : ((c : Int) == (y : Int)) = false := beq_eq_false_iff_ne.2 (by omega)
      have H2 := Lib.hid (HQ.out y HY.out he)
      clear he
      go_wp2_with fail
      go_roundg (m - (k + 1))
      case measure => omega
      case rel => exact ⟨k + 1, by omega, by first | rfl | simp, H2, rfl⟩
  · obtain rfl : k = m := by omega
    have l0 : ¬ (k : Int) < (k : Int) := by omega
    have hno : c ∉ ld := fun hin => by
      obtain ⟨j, hj, e⟩ := List.getElem_of_mem hin
      exact HN.out j (by have := HM.out; omega) (by rw [List.getD_eq_getElem?_getD, List.getElem?_eq_getElem hj]; exact e)
    clear HA
    go_wp2_with fail
    go_ret
    refine ⟨-1, rfl, ?_, Below.refl _ _⟩
    first | decide | omega
theorem g_contains {w : World} {base m lc c : Nat} {la : Option Addr} {ld : List Nat} (h : LD w base (.slice la m lc) ld) (hm : m = ld.length) (hm9 : m ≤ 1000) (hc : c ≤ 1000) :
  Calls Tryz.prog 50 #[.slice la m lc, .int .i64 (c : Int)] w fun e w' => e = .returned (.bool (decide (c ∈ ld))) ∧ Below w.heap.size w w' := by
 have k1 := Lib.hid (g_index h hm hm9 hc)
 clear h hm
 go_enter Tryz.func50, Tryz.ntmps50
 go_wp2_with fail
 refine k1.out.mono ?_
 rintro e w1 ⟨z, rfl, hz, rr⟩
 have e1 : decide (0 ≤ z) = decide (c ∈ ld) := decide_eq_decide.2 hz
 have B1 := Lib.hid rr
 clear rr k1
 have HE := Lib.hid e1
 clear e1 hz
 go_wp2_with fail
 go_ret
 refine ⟨?_, B1.out⟩
 have := HE.out
 first | (rw [← this]; done) | (rw [← this]; simp) | (simp [← this])
structure GA (W : World) (base : Nat) (v : Value) (vs : List Value) (R : List (List Rat)) : Prop where
 own : W.ownsRow base 30 1 v vs.length vs
 q : RowQ W v
 len : R.length = vs.length
 el : ∀ u ∈ vs, noQ u = true
 rd : ∀ (k : Nat) (v : Value) (r : List Rat), vs[k]? = some v → R[k]? = some r → VReads W v (r.map qr)
theorem GA.below {W W' : World} {base : Nat} {v : Value} {vs : List Value} {R : List (List Rat)} (h : GA W base v vs R) (hb : Below W.heap.size W W') : GA W' base v vs R := ⟨own_below h.own hb, h.q.below hb, h.len, h.el, fun k v r e1 e2 => (h.rd k v r e1 e2).below hb⟩
section
variable {i : TypeInfo} (hi : Tryz.prog.info? 30 = some i) (hz : i.zero = some (.slice none 0 0)) (h1 : i.size = 1) (h2 : i.bytes = 24)
include hi hz h1 h2
theorem run_append_srow (w0 : World) (ty : TypeId) (base : Nat) (v u0 : Value) (vs : List Value) (R : List (List Rat)) (r : List Rat) (hu1 : noQ u0 = true) (hu2 : u0.oneCell' = true) (hur : VReads w0 u0 (r.map qr)) (hown : GA w0 base v vs R) (hb : base ≤ w0.heap.size) (hl : vs.length ≤ 100000) :
   ∃ v' w', (Builtin.append_ #[70, 70] ty #[v, .slice (some ⟨w0.heap.size, 0, none⟩) 1 1]).run Tryz.prog (w0.alloc (.cells #[u0] 30)) = .ok v' w' ∧ GA w' base v' (vs ++ [u0]) (R ++ [r]) ∧ (w0.alloc (.cells #[u0] 30)).grownBy w' v.ownBlock := by
 obtain ⟨w, hw⟩ : ∃ w, w = w0.alloc (.cells #[u0] 30) := ⟨_, rfl⟩
 have hV : GA w base v vs R := hw ▸ hown.below ((Below.refl _ _).alloc (Nat.le_refl _) _)
 have hsz : w.heap.size = w0.heap.size + 1 := by rw [hw, World.size_alloc]
 have hblk : w.heap[w0.heap.size]? = some (.cells #[u0] 30 (0, 0)) := by rw [hw]; exact heap_alloc_new w0 _
 have hnews : ∀ (j : Nat) (u : Value), [u0][j]? = some u → w.cell? ((⟨w0.heap.size, 0, none⟩ : Addr).add j) = some u := by
   intro j u hu
   rw [show (⟨w0.heap.size, 0, none⟩ : Addr).add j = ⟨w0.heap.size, j, none⟩ by rw [Addr.add_lit]; simp]
   unfold World.cell?
   rw [hblk]
   simpa using hu
 rw [← hw]
 obtain ⟨xs, hxs⟩ : ∃ xs, xs = vs := ⟨_, rfl⟩
 have hxl : xs.length = vs.length := by rw [hxs]
 have hxq : ∀ u ∈ xs, noQ u = true := by
   intro u hu
   rw [hxs] at hu
   exact hown.el u hu
 have hO : w.ownsRow base 30 1 v vs.length xs := by rw [hxs]; exact hV.own
 have hone : ∀ u ∈ [u0], u.oneCell' = true := by
   intro u hu
   obtain rfl := List.mem_singleton.1 hu
   exact hu2
 have hnq : ∀ u ∈ [u0], noQ u = true := by
   intro u hu
   obtain rfl := List.mem_singleton.1 hu
   exact hu1
 have hcl : ([u0]).length = 1 * i.size := by rw [h1]; rfl
 obtain ⟨v', w', hrun, ho, hg, hnil⟩ := run_append_own (P := Tryz.prog) w base 70 ty 30 i (.slice none 0 0) 1 24 Tryz.underlying70 hi hz h1 h2 rfl (by omega) v vs.length xs hO ⟨w0.heap.size, 0, none⟩ 1 1 [u0] rfl hnews hone (by unfold maxLen; omega) (by omega) (by omega)
 refine ⟨v', w', hrun, ⟨?_, ?_, ?_, ?_, ?_⟩, hg⟩
 · rw [List.length_append]; rw [hxs] at ho; exact ho
 rotate_left
 · rw [List.length_append, List.length_append, hown.len]; rfl
 · intro u hu
   rcases List.mem_append.1 hu with hu | hu
   · exact hown.el u hu
   · exact hnq u hu
 · intro k x y e1 e2
   by_cases hk : k < vs.length
   · rw [List.getElem?_append_left hk] at e1
     rw [List.getElem?_append_left (by rw [hown.len]; exact hk)] at e2
     exact (hV.rd k x y e1 e2).grownQ hg hV.q
   · have hk2 : k = vs.length := by have := (List.getElem?_eq_some_iff.1 e1).1; rw [List.length_append, List.length_singleton] at this; omega
     subst hk2
     rw [List.getElem?_append_right (Nat.le_refl _), Nat.sub_self] at e1
     rw [List.getElem?_append_right (by rw [hown.len]; exact Nat.le_refl _), hown.len, Nat.sub_self] at e2
     cases e1; cases e2
     exact (show VReads w u0 (r.map qr) from hw ▸ hur.below ((Below.refl _ _).alloc (Nat.le_refl _) _)).grownQ hg hV.q
 · rcases hO.2 with ⟨rfl, hn0⟩ | ⟨g, cap, cur, rfl, hbg, hgb, hnc, hcm, hcs, htake⟩
   · have hr := run_append_nil (P := Tryz.prog) w 70 ty 30 i (.slice none 0 0) Tryz.underlying70 hi hz ⟨w0.heap.size, 0, none⟩ 1 1 [u0] hcl hnews (by omega) (by omega) (by rw [h2]; omega)
     rw [hr] at hrun
     cases hrun
     intro g e
     obtain rfl : w.heap.size = g := by simpa [Value.ownBlock] using e
     refine ⟨_, _, heap_alloc_new w.drew _, fun u hu => ?_⟩
     simp only [Array.toList_append, List.mem_append] at hu
     rcases hu with hu | hu
     · exact hnq u hu
     · exact zero_noQ (z := .slice none 0 0) rfl rfl hu
   · obtain ⟨cur', e', hgb', h32⟩ := hV.q g rfl
     rw [hgb] at hgb'
     cases hgb'
     by_cases hroom : vs.length + 1 ≤ cap
     · have hr := run_append_room (P := Tryz.prog) w 70 ty 30 i Tryz.underlying70 hi g vs.length cap cur hgb ⟨w0.heap.size, 0, none⟩ 1 1 [u0] hcl hnews hone hroom (by rw [hcl, h1, hcs, ← Nat.add_mul]; exact Nat.mul_le_mul_right _ hroom)
       rw [hr] at hrun
       cases hrun
       intro g2 e
       obtain rfl : g = g2 := by simpa [Value.ownBlock] using e
       refine ⟨_, _, setRow_heap w g cur _ _ _ hgb, fun u hu => ?_⟩
       simp only [List.mem_append] at hu
       rcases hu with (hu | hu) | hu
       · exact h32 u (List.mem_of_mem_take hu)
       · exact hnq u hu
       · exact h32 u (List.mem_of_mem_drop hu)
     · have holds : ∀ (j : Nat) (u : Value), xs[j]? = some u → w.cell? ((⟨g, 0, none⟩ : Addr).add j) = some u := World.ownsRow.cells hO (g := g) rfl
       have hr := run_append_grow (P := Tryz.prog) w 70 ty 30 i (.slice none 0 0) Tryz.underlying70 hi hz ⟨g, 0, none⟩ vs.length cap xs (by rw [h1]; omega) holds ⟨w0.heap.size, 0, none⟩ 1 1 [u0] hcl hnews (by omega) (by omega) (growslice_fits (by omega) (by rw [h2]; omega))
       rw [hr] at hrun
       cases hrun
       intro g2 e
       obtain rfl : w.heap.size = g2 := by simpa [Value.ownBlock] using e
       refine ⟨_, _, heap_alloc_new w.drew _, fun u hu => ?_⟩
       simp only [Array.toList_append, List.mem_append] at hu
       rcases hu with (hu | hu) | hu
       · exact hxq u hu
       · exact hnq u hu
       · exact zero_noQ (z := .slice none 0 0) rfl rfl hu
end
theorem wpList_append_srow {i : TypeInfo} (hi : Tryz.prog.info? 30 = some i) (hz : i.zero = some (.slice none 0 0)) (h1 : i.size = 1) (h2 : i.bytes = 24) (w0 : World) {ops : Array Oper} {rest : List Oper} {o : Oper} {a : Act} {Q : Exit → Act → World → Prop}
  (hg : o.guard = none) (s x : Operand) (hop : o.op = Op.call { callee := Callee.builtin Builtin.append, args := #[s, x], argTypes := #[70, 70] })
  (base : Nat) (v u0 : Value) (vs : List Value) (R : List (List Rat)) (r : List Rat) (hu1 : noQ u0 = true) (hu2 : u0.oneCell' = true) (hur : VReads w0 u0 (r.map qr)) (hs : a.eval s = v) (hx : a.eval x = .slice (some ⟨w0.heap.size, 0, none⟩) 1 1) (hown : GA w0 base v vs R) (hb : base ≤ w0.heap.size) (hl : vs.length ≤ 100000)
  (hK : ∀ v' w', GA w' base v' (vs ++ [u0]) (R ++ [r]) → (w0.alloc (.cells #[u0] 30)).grownBy w' v.ownBlock → wpList Tryz.prog ops Q rest (a.put o.dst v') w') :
  wpList Tryz.prog ops Q (o :: rest) a (w0.alloc (.cells #[u0] 30)) := by
 refine wpList_plain hg fun K hK' => ?_
 obtain ⟨v', w', hrun, r1, r2⟩ := run_append_srow hi hz h1 h2 w0 o.type base v u0 vs R r hu1 hu2 hur hown hb hl
 unfold Oper.wp
 simp only [execOp, hop, resolve, invoke, builtin, Sem.run_bind, Sem.run_pure, Result.andThen_ok, List.map_toArray, List.map_cons, List.map_nil, hs, hx, hrun]
 exact hK' _ _ (hK v' w' r1 r2)
theorem run_make_srow {i : TypeInfo} (hi : Tryz.prog.info? 30 = some i) (hz : i.zero = some (.slice none 0 0)) (h1 : i.size = 1) (h2 : i.bytes = 24) (w : World) (base : Nat) (kl kc : IntKind) (c : Nat) (hc : c ≤ 100000) (hb : base ≤ w.heap.size) :
  ∃ w', (Instr.makeSlice 70 (.int kl 0) (.int kc (c : Int))).run Tryz.prog w = .ok (.slice (some ⟨w.heap.size, 0, none⟩) 0 c) w' ∧ GA w' base (.slice (some ⟨w.heap.size, 0, none⟩) 0 c) [] [] ∧ w.grownBy w' none := by
 have hr := run_make (P := Tryz.prog) w 70 30 i (.slice none 0 0) Tryz.underlying70 hi hz kl kc 0 c (Int.le_refl _) (by omega) (by rw [h2]; omega) (by omega)
 simp only [Int.toNat_zero, Int.toNat_natCast] at hr
 refine ⟨_, hr, ⟨World.ownsRow_made w _ c hb (by unfold maxLen; omega) (by rw [size_madeCells, h1]), ?_, rfl, by simp, by simp⟩, World.grownBy_alloc w _ none⟩
 intro g e
 obtain rfl : w.heap.size = g := by simpa [Value.ownBlock] using e
 refine ⟨_, _, heap_alloc_new w _, fun u hu => ?_⟩
 obtain ⟨j, _, rfl⟩ : ∃ j, j < c * i.size ∧ (Value.slice none 0 0).cells[j % (Value.slice none 0 0).cells.size]! = u := by simpa [madeCells] using hu
 show noQ ((#[Value.slice none 0 0] : Array Value)[j % 1]!) = true
 rw [Nat.mod_one]
 rfl
theorem wpList_make_srow {i : TypeInfo} (hi : Tryz.prog.info? 30 = some i) (hz : i.zero = some (.slice none 0 0)) (h1 : i.size = 1) (h2 : i.bytes = 24) (w : World) {ops : Array Oper} {rest : List Oper} {o : Oper} {a : Act} {Q : Exit → Act → World → Prop}
  (hg : o.guard = none) (l c : Operand) (hop : o.op = Op.makeSlice 70 l c) (base : Nat) (kl kc : IntKind) (n : Nat) (hl : a.eval l = .int kl 0) (hc : a.eval c = .int kc (n : Int)) (hn : n ≤ 100000) (hb : base ≤ w.heap.size)
  (hK : ∀ w', GA w' base (.slice (some ⟨w.heap.size, 0, none⟩) 0 n) [] [] → w.grownBy w' none → wpList Tryz.prog ops Q rest (a.put o.dst (.slice (some ⟨w.heap.size, 0, none⟩) 0 n)) w') :
  wpList Tryz.prog ops Q (o :: rest) a w := by
 refine wpList_plain hg fun K hK' => ?_
 obtain ⟨w', hrun, r1, r2⟩ := run_make_srow hi hz h1 h2 w base kl kc n hn hb
 unfold Oper.wp
 simp [execOp, hop, hl, hc, hrun, Result.andThen]
 exact hK' _ _ (hK w' r1 r2)
theorem GA.reads {W : World} {base : Nat} {v : Value} {vs : List Value} {R : List (List Rat)} (h : GA W base v vs R) : GridR W v (gq R) := by
 have ho := h.own
 have hl : (gq R).length = vs.length := by unfold gq; rw [List.length_map, h.len]
 rcases h.own.2 with ⟨rfl, h0⟩ | ⟨g, cap, cur, rfl, hb, hg, hn, _⟩
 · have e : R = [] := List.eq_nil_of_length_eq_zero (by rw [h.len, h0])
   subst e
   exact ⟨none, 0, rfl, Nat.le_refl _, fun h => absurd h (Nat.lt_irrefl 0)⟩
 · refine ⟨some ⟨g, 0, none⟩, cap, by rw [hl], by omega, fun _ => ⟨g, 0, rfl, (Array.getElem?_eq_some_iff.1 hg).1, fun j x hx => ?_⟩⟩
   have hj := (List.getElem?_eq_some_iff.1 hx).1
   obtain ⟨r, hr⟩ : ∃ r, R[j]? = some r := ⟨_, List.getElem?_eq_getElem (by rw [h.len]; omega)⟩
   obtain ⟨u, hu⟩ : ∃ u, vs[j]? = some u := ⟨_, List.getElem?_eq_getElem (by omega)⟩
   rw [gq_at hr] at hx
   cases hx
   refine ⟨u, ?_, h.rd j u r hu hr⟩
   rw [Nat.zero_add, Nat.mul_one]
   exact (World.ownsRow.cellAt ho j (by omega)).trans hu
theorem rats_one {W0 : World} {a : Option Addr} {n c k : Nat} {xs : List Rat} (h : VReads W0 (.slice a n c) (xs.map qr)) (hk : k < n) :
   ∃ b o, a = some ⟨b, o, none⟩ ∧ (∀ W, (Instr.sliceAt 30 (.slice (some ⟨b, o, none⟩) n c) (some (.int .i64 (k : Int))) (some (.int .i64 ((k + 1 : Nat) : Int))) none).run Tryz.prog W = .ok (.slice (some ⟨b, o + k * 3, none⟩) 1 (c - k)) W) ∧ VReads W0 (.slice (some ⟨b, o + k * 3, none⟩) 1 (c - k)) ([xs.getD k 0].map qr) := by
 obtain ⟨hn, hc, b, o, hA, hel⟩ := h.addr
 obtain ⟨rfl, hb⟩ := hA (by omega)
 have hxl : n = xs.length := by simpa using hn
 refine ⟨b, o, rfl, fun W => ?_, ?_⟩
 · rw [run_sliceAt_slice W _ _ _ _ _ Tryz.underlying30, run_slice_lh W _ _ n c Tryz.underlying30 .i64 .i64 (k : Int) ((k + 1 : Nat) : Int) (by omega) (by omega) (by omega)]
   obtain ⟨i0, hi0, _, hz1, _⟩ := info_parts info_rat
   have he : Tryz.prog.elem 30 = 44 := by kernel_rfl
   have hck : ¬ c = k := by omega
   have h1 : ((k : Int) + 1 - (k : Int)).toNat = 1 := by omega
   simp [he, sizeOf, typeInfo, hi0, hz1, sliced, Addr.add, Result.andThen, hck, h1]
 · have h2 := (h.drop k (n - k) (c - k) (o + k * 3) rfl rfl rfl (by omega) (by omega)).take 1 (by omega)
   rw [← List.map_drop, ← List.map_take] at h2
   have e : (xs.drop k).take 1 = [xs.getD k 0] := by
    rw [List.take_one, List.head?_drop, List.getD_eq_getElem?_getD, List.getElem?_eq_getElem (by omega)]; rfl
   rwa [e] at h2
def besd (R : List (List Rat)) (xs : List Rat) : List (List Rat) := List.zipWith (fun r x => r ++ [x]) R xs
theorem besd_take {R : List (List Rat)} {xs : List Rat} {k : Nat} {r : List Rat} (h : R[k]? = some r) (hx : k < xs.length) : besd (R.take (k + 1)) (xs.take (k + 1)) = besd (R.take k) (xs.take k) ++ [r ++ [xs.getD k 0]] := by
 have hk := (List.getElem?_eq_some_iff.1 h).1
 unfold besd
 rw [List.take_add_one, h, List.take_add_one, List.getElem?_eq_getElem hx, List.getD_eq_getElem?_getD, List.getElem?_eq_getElem hx]
 show List.zipWith _ (R.take k ++ [r]) (xs.take k ++ [xs[k]]) = _
 rw [List.zipWith_append (by rw [List.length_take, List.length_take]; omega)]
 rfl
theorem g_beside {w : World} {a a2 : Option Addr} {n cap c2 N : Nat} {R : List (List Rat)} {xs : List Rat} (h : GridR w (.slice a n cap) (gq R)) (hx : VReads w (.slice a2 n c2) (xs.map qr)) (h0 : 0 < n) (hn : n ≤ 1000) (hR : ∀ r ∈ R, r.length = N) (hN : N ≤ 1000) :
  Calls Tryz.prog 49 #[.slice a n cap, .slice a2 n c2] w fun e w' => ∃ (v : Option Addr) (vc : Nat), e = .returned (.slice v n vc) ∧ GridR w' (.slice v n vc) (gq (besd R xs)) ∧ Below w.heap.size w w' := by
 obtain ⟨i0, hi, hz0, hz1, hz2⟩ := info_parts info_rows
 obtain ⟨hl, hcap, hA⟩ := h.addr
 have hl2 : n = R.length := by rw [hl]; unfold gq; rw [List.length_map]
 have hxl : n = xs.length := by have := hx.addr.1; simpa using this
 obtain ⟨b, off, rfl, hb, hcel⟩ := hA h0
 have HC := Lib.hid hcel
 have HX := Lib.hid hx
 have HL := Lib.hid (And.intro hl2 (And.intro hxl hR))
 have HI := Lib.hid hi
 clear h hl hA hcel hx hl2 hxl hR hi
 go_enter Tryz.func49, Tryz.ntmps49
 go_wp2_with (at_make; go_loud (refine wpList_make_srow HI.out hz0 hz1 hz2 w rfl _ _ rfl w.heap.size .i64 .i64 n rfl rfl (by omega) (Nat.le_refl _) ?_); intro w1 hG1 hgrow1; have HG1 := Lib.hid hG1; have HW1 := Lib.hid (show Below w.heap.size w w1 from (Below.refl _ _).grown hgrow1 (Nat.le_refl _) (fun _ e => by cases e)); clear hG1 hgrow1)
 have k0 : ((0 : Nat) : Int) = 0 := rfl
 go_loopg [5, 13] n (fun x t s wr => ∃ (k : Nat) (av : Option Addr) (cv : Nat) (vs : List Value), k + x = n ∧ t = .slice av k cv ∧ s = .int .i64 (k : Int) ∧ Hid (vs.length = k) ∧ Hid (GA wr w.heap.size (.slice av k cv) vs (besd (R.take k) (xs.take k))) ∧ Hid (Below w.heap.size w wr))
 case atStart => exact ⟨0, _, _, [], by omega, rfl, rfl, Lib.hid rfl, HG1, HW1⟩
 case round => as_aux_lemma =>
  clear HG1 HW1 k0
  obtain ⟨k, av, cv, vs, hk, rfl, rfl, HV, HG, HW⟩ := hrel
  have hsr : w.heap.size ≤ wr.heap.size := HW.out.size
  by_cases hlt : k < n
  · as_aux_lemma =>
    have n0 : (0 : Int) ≤ (k : Int) := by omega
    have l0 : (k : Int) < (n : Int) := by omega
    have w0 : IntKind.i64.wrap ((k : Int) + 1) = ((k + 1 : Nat) : Int) := IntWalk.i64_in _ (by omega)
    obtain ⟨r, hr⟩ : ∃ r, R[k]? = some r := ⟨_, List.getElem?_eq_getElem (by have := HL.out.1; omega)⟩
    have hrl := HL.out.2.2 r (List.mem_of_getElem? hr)
    obtain ⟨u, hu, hv⟩ := HC.out k _ (gq_at hr)
    obtain ⟨ua, uc, rfl⟩ := hv.form
    rw [List.length_map, hrl] at hu hv
    have hu2 := (HW.out.cell (p := ⟨b, off + k * 1, none⟩) hb).trans hu
    rw [Nat.mul_one] at hu2
    obtain ⟨xb, xo, rfl, hsl, hxv⟩ := rats_one HX.out hlt
    have hsl2 := hsl
    rw [show (((k + 1 : Nat) : Int)) = (k : Int) + 1 by omega] at hsl2
    have hB := BoxN.new wr 30 #[.slice ua N uc, .slice (some ⟨xb, xo + k * 3, none⟩) 1 (c2 - k)]
    have hAl : Below w.heap.size w (wr.alloc (.cells #[.slice ua N uc, .slice (some ⟨xb, xo + k * 3, none⟩) 1 (c2 - k)] 30)) := HW.out.alloc hsr _
    have KC := Lib.hid ((g_concat hB (hv.below hAl) (hxv.below hAl) (by omega) (by omega)).mono (R' := fun e w' => ∃ vb vd, e = .returned (.slice vb (N + 1) vd) ∧ VReads w' (.slice vb (N + 1) vd) ((r ++ [xs.getD k 0]).map qr) ∧ Below (wr.alloc (.cells #[.slice ua N uc, .slice (some ⟨xb, xo + k * 3, none⟩) 1 (c2 - k)] 30)).heap.size (wr.alloc (.cells #[.slice ua N uc, .slice (some ⟨xb, xo + k * 3, none⟩) 1 (c2 - k)] 30)) w') (by
     rintro e w' ⟨v, rfl, hv, rr⟩
     rw [← List.map_append] at hv
     obtain ⟨vb, vd, ev⟩ := hv.form
     rw [List.length_map, List.length_append, hrl, List.length_singleton] at ev
     subst ev
     exact ⟨vb, vd, rfl, hv, rr⟩))
    have HT := Lib.hid (besd_take (xs := xs) hr (by have := HL.out.2.1; omega))
    have hAl2 := Lib.hid (show Below wr.heap.size wr (wr.alloc (.cells #[.slice ua N uc, .slice (some ⟨xb, xo + k * 3, none⟩) 1 (c2 - k)] 30)) from (Below.refl _ _).alloc (Nat.le_refl _) _)
    obtain ⟨T, hT⟩ : ∃ T, T = r ++ [xs.getD k 0] := ⟨_, rfl⟩
    rw [← hT] at KC HT
    clear hr hrl hu hv hxv hB hAl hT
    go_wp2_with (first
     | (go_at_call 96; refine KC.out.mono ?_; rintro e w5 ⟨vb, vd, rfl, hvb, rr⟩; have B5 := Lib.hid (then_below hAl2.out rr); have G5 := Lib.hid (HG.out.below B5.out); have V5 := Lib.hid hvb; have hs5 : w.heap.size ≤ w5.heap.size := Nat.le_trans hsr B5.out.size; clear rr hvb)
     | (at_builtin; go_loud (refine wpList_append_srow HI.out hz0 hz1 hz2 w5 rfl _ _ rfl w.heap.size (.slice av k cv) (.slice vb (N + 1) vd) vs _ T rfl rfl V5.out (by first | rfl | (rw [HV.out])) rfl G5.out hs5 (by have := HV.out; omega) ?_); intro v' w6 hG6 hg6; obtain ⟨va, vc, rfl⟩ := own_form hG6.own; have HG6 := Lib.hid hG6; have HW6 := Lib.hid (show Below w.heap.size w w6 from ((then_at HW.out hsr B5.out).alloc hs5 (.cells #[.slice vb (N + 1) vd] 30)).grown hg6 (by simp; omega) (fun j ej => (G5.out.own.lt j ej).1)); clear hG6 hg6)
     | fail)
    go_roundg (n - (k + 1))
    case measure => omega
    case rel => exact ⟨k + 1, va, vc, vs ++ [.slice vb (N + 1) vd], by omega, by first | rfl | simp [HV.out], by first | rfl | simp, Lib.hid (by rw [List.length_append, HV.out]; rfl), Lib.hid (by have := HG6.out; rw [List.length_append, HV.out] at this; rw [HT.out]; exact this), HW6⟩
  · as_aux_lemma =>
    obtain rfl : k = n := by omega
    have l0 : ¬ (k : Int) < (k : Int) := by omega
    have HE := Lib.hid (show besd (R.take k) (xs.take k) = besd R xs by rw [List.take_of_length_le (by have := HL.out.1; omega), List.take_of_length_le (by have := HL.out.2.1; omega)])
    go_wp2_with fail
    go_ret
    exact ⟨av, cv, rfl, by rw [← HE.out]; exact HG.out.reads, HW.out⟩
end Go.Proofs.YtgmbaamfobhceaaGreat
