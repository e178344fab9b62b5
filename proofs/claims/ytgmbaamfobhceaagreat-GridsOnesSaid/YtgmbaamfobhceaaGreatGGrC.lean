/- The document's answer for rows of fractions: may all be; the sum of the products. Grids of fractions: how many columns, may all be, a column. A .. -/
import Derived.Laws.OwnMore
import Derived.Test.YtgmbaamfobhceaaGreatGVecF
import Derived.Test.YtgmbaamfobhceaaGreatGRrO
import Derived.Test.YtgmbaamfobhceaaGreatGNtG
import Derived.Test.YtgmbaamfobhceaaGreatGVoD
set_option linter.unusedSimpArgs false
set_option linter.unusedVariables false
set_option maxHeartbeats 8000000
namespace Go.Proofs.YtgmbaamfobhceaaGreat
section
open Go Go.Proofs Go.RowKit Go.Shelf Nu
set_option linter.unusedVariables false
set_option linter.unusedSimpArgs false
set_option maxRecDepth 100000
attribute [local go_sem] Oper.semAt_some
theorem all_next {α : Type} {f : α → Bool} {l : List α} {k : Nat} {x : α} (hx : l[k]? = some x) (h : (l.take k).all f = true) (hf : f x = true) : (l.take (k + 1)).all f = true := by
 rw [List.take_add_one, hx, List.all_append, h]
 simp [hf]
theorem all_no {α : Type} {f : α → Bool} {l : List α} {k : Nat} {x : α} (hx : l[k]? = some x) (hf : f x = false) : l.all f = false := by
 rw [List.all_eq_false]
 exact ⟨x, List.mem_of_getElem? hx, by simp [hf]⟩
theorem all_end {α : Type} {f : α → Bool} {l : List α} {k : Nat} (h : (l.take k).all f = true) (hk : l.length ≤ k) : l.all f = true := by rwa [List.take_of_length_le hk] at h
theorem Mem.two {w W : World} {bs : List (Nat × TypeId × List Value)} {rs : List (Value × List Nat)} {x y : Value × List Nat} (M : Mem w bs rs W) (e0 : rs[0]? = some x) (e1 : rs[1]? = some y) : Mem w bs [x, y] W :=
 ⟨M.1, M.2.1, M.2.2.1, fun k v l h => by
  match k with
  | 0 => simp at h; exact M.2.2.2 0 v l (e0.trans (by rw [h]))
  | 1 => simp at h; exact M.2.2.2 1 v l (e1.trans (by rw [h]))
  | k + 2 => simp at h⟩
def cols (rows : List (List Qr)) : Nat := (rows.head?.map List.length).getD 0
def gokB (rows : List (List Qr)) : Bool := rows.all fun r => decide (r.length = cols rows) && r.all qok
def grows (rows : List (List Qr)) : Prop := rows.length ≤ 1000 ∧ ∀ r ∈ rows, qrows r
theorem g_columns {w : World} {a : Option Addr} {n cap : Nat} {rows : List (List Qr)} (h : GridR w (.slice a n cap) rows) (hn : n ≤ 1000) :
   Calls Tryz.prog 44 #[.slice a n cap] w fun e w' => e = .returned (.int .i64 (cols rows : Nat)) ∧ w = w' := by
 obtain ⟨hl, hcap, hc⟩ := h.addr
 by_cases h0 : n = 0
 · have e0 : rows = [] := List.eq_nil_of_length_eq_zero (by omega)
   have j : ((n : Int) == 0) = true := by rw [h0]; rfl
   have hR : cols rows = 0 := by rw [e0]; rfl
   rw [hR]
   clear hc hl e0 h0 h hR
   go_enter Tryz.func44, Tryz.ntmps44
   go_wp2
   go_ret
   exact ⟨rfl, rfl⟩
 · obtain ⟨b, off, rfl, hb, hel⟩ := hc (by omega)
   obtain ⟨r, hr⟩ : ∃ r, rows[0]? = some r := ⟨_, List.getElem?_eq_getElem (by omega)⟩
   obtain ⟨u, hu, hv⟩ := hel 0 r hr
   obtain ⟨ra, rc, rfl⟩ := hv.form
   have hR : cols rows = r.length := by unfold cols; rw [List.head?_eq_getElem?, hr]; rfl
   have j : ((n : Int) == 0) = false := beq_eq_false_iff_ne.2 (by omega)
   have n0 : (0 : Int) < (n : Int) := by omega
   rw [Nat.zero_mul, Nat.add_zero] at hu
   rw [hR]
   generalize r.length = m at *
   clear hc hl h0 h hR hr hel hv
   go_enter Tryz.func44, Tryz.ntmps44
   go_wp2
   go_ret
   exact ⟨rfl, rfl⟩
theorem g_check {w : World} {a : Option Addr} {n cap : Nat} {rows : List (List Qr)} (R : Bool) (hR : R = gokB rows) (h : GridR w (.slice a n cap) rows) (hq : grows rows) :
  Calls Tryz.prog 13 #[.slice a n cap] w fun e w' => e = .returned (.bool R) ∧ Below w.heap.size w w' := by
 obtain ⟨hl, hcap, hA⟩ := h.addr
 have hn : n ≤ 1000 := hl ▸ hq.1
 have HH := Lib.hid h
 have HL := Lib.hid hl
 have HA := Lib.hid hA
 have HQ := Lib.hid hq
 have HR := Lib.hid hR
 have KC := Lib.hid (fun (W : World) (r : Below w.heap.size w W) => g_columns (h.below r) hn)
 obtain ⟨K, hK⟩ : ∃ K, K = cols rows := ⟨_, rfl⟩
 rw [← hK] at KC
 have HK := Lib.hid hK
 clear h hl hA hq hR hcap hK
 go_enter Tryz.func13, Tryz.ntmps13
 go_wp2
 go_loopg [7] n (fun g s wr => ∃ k : Nat, k + g = n ∧ s = .int .i64 (k : Int) ∧ Hid ((rows.take k).all (fun r => decide (r.length = cols rows) && r.all qok) = true) ∧ Hid (Below w.heap.size w wr))
 case atStart => exact ⟨0, by omega, rfl, Lib.hid (by simp), Lib.hid (Below.refl _ _)⟩
 case round =>
  obtain ⟨k, hk, rfl, HS, HB⟩ := hrel
  by_cases hlt : k < n
  · have n0 : (0 : Int) ≤ (k : Int) := by omega
    have l0 : (k : Int) < (n : Int) := by omega
    have w0 : IntKind.i64.wrap ((k : Int) + 1) = ((k + 1 : Nat) : Int) := IntWalk.i64_in _ (by omega)
    obtain ⟨bb, off, rfl, hbl, hc⟩ := HA.out (by omega)
    obtain ⟨qs, hqs⟩ : ∃ qs, rows[k]? = some qs := ⟨_, List.getElem?_eq_getElem (by have := HL.out; omega)⟩
    obtain ⟨u, hu, hv⟩ := hc k qs hqs
    have hu2 := (HB.out.cell (p := ⟨bb, off + k * 1, none⟩) hbl).trans hu
    rw [Nat.mul_one] at hu2
    obtain ⟨a2, c2, rfl⟩ := hv.form
    have HQS := Lib.hid hqs
    obtain ⟨m, hm⟩ : ∃ m, m = qs.length := ⟨_, rfl⟩
    rw [← hm] at hu2 hv
    have HM := Lib.hid hm
    have hf := HQ.out.2 qs (List.mem_of_getElem? hqs)
    obtain ⟨T, hT⟩ : ∃ T, T = qs.all qok := ⟨_, rfl⟩
    have KV := Lib.hid (fun (W : World) (r : Below w.heap.size w W) => v_check T hT (hv.below r) hf)
    have HT := Lib.hid hT
    clear hu hv hqs hc HA hm hf hT
    by_cases hmk : m = K
    · have j6 : ((m : Int) != (K : Int)) = false := by rw [hmk]; simp
      have HMK := Lib.hid hmk
      clear hmk
      go_wp2_with (go_at_call 44; refine (KC.out _ HB.out).mono ?_; rintro e w1 ⟨rfl, rfl⟩)
      refine (KV.out _ HB.out).mono ?_
      rintro e w2 ⟨rfl, rr⟩
      have HB2 := Lib.hid (then_below HB.out rr)
      clear rr KV
      cases T with
      | true =>
       have HS2 := Lib.hid (all_next HQS.out HS.out (by rw [← HM.out, HMK.out, HK.out, ← HT.out]; simp))
       go_wp2_with fail
       go_roundg (n - (k + 1))
       case measure => omega
       case rel => exact ⟨k + 1, by omega, by first | rfl | simp, HS2, HB2⟩
      | false =>
       have h0 : R = false := by rw [HR.out]; exact all_no HQS.out (by rw [← HT.out]; simp)
       subst h0
       go_wp2_with fail
       go_ret
       exact ⟨rfl, HB2.out⟩
    · have j6 : ((m : Int) != (K : Int)) = true := bne_iff_ne.2 (by omega)
      have h0 : R = false := by rw [HR.out]; exact all_no HQS.out (by rw [← HM.out, ← HK.out, decide_eq_false hmk]; rfl)
      clear hmk
      subst h0
      go_wp2_with (go_at_call 44; refine (KC.out _ HB.out).mono ?_; rintro e w1 ⟨rfl, rfl⟩)
      go_ret
      exact ⟨rfl, HB.out⟩
  · obtain rfl : k = n := by omega
    have l0 : ¬ (k : Int) < (k : Int) := by omega
    have h0 : R = true := by rw [HR.out]; exact all_end HS.out (by have := HL.out; omega)
    subst h0
    clear HA
    go_wp2_with fail
    go_ret
    exact ⟨rfl, HB.out⟩
def colq (rows : List (List Qr)) (k : Nat) : List Qr := rows.map fun r => r.getD k default
theorem g_column {w : World} {a : Option Addr} {n cap c : Nat} {rows : List (List Qr)} (h : GridR w (.slice a n cap) rows) (hn : n ≤ 1000) (hc : ∀ r ∈ rows, c < r.length) (hc9 : c ≤ 100000) :
    Calls Tryz.prog 46 #[.slice a n cap, .int .i64 (c : Int)] w fun e w' => ∃ v, e = .returned v ∧ VFresh w' w.heap.size v (colq rows c) ∧ Below w.heap.size w w' := by
  obtain ⟨i0, hi, hz0, hz1, hz2⟩ := info_parts info_rat
  obtain ⟨hl, hcap, hA⟩ := h.addr
  have HL := Lib.hid hl
  have HA := Lib.hid hA
  have HC := Lib.hid hc
  clear h hl hA hc hcap
  go_enter Tryz.func46, Tryz.ntmps46
  go_wp2_with ((at_make; go_loud (refine wpList_make_rat hi hz0 hz1 hz2 _ rfl _ _ rfl w.heap.size .i64 .i64 n rfl rfl (by omega) (by simp) ?_); intro w1 hV1 hgrow1))
  have HB1 := Lib.hid (show Below w.heap.size w w1 from (Below.refl _ _).grown hgrow1 (Nat.le_refl _) (fun _ e => by cases e))
  have HV1 := Lib.hid hV1
  clear hV1 hgrow1
  have k0 : ((0 : Nat) : Int) = 0 := rfl
  go_loopg [5, 13] n (fun g t x wr => ∃ (k : Nat) (ys : List Zr) (av : Option Addr) (cv : Nat), k + g = n ∧ t = .slice av k cv ∧ x = .int .i64 (k : Int) ∧ Hid (ys.map (·.1) = colq (rows.take k) c) ∧ Hid (VF wr w.heap.size (.slice av k cv) ys) ∧ Hid (Below w.heap.size w wr))
  case atStart => exact ⟨0, [], _, _, by omega, rfl, rfl, Lib.hid rfl, HV1, HB1⟩
  case round =>
    clear HV1 HB1 k0
    obtain ⟨k, ys, av, cv, hk, rfl, rfl, HM, HV, HB⟩ := hrel
    have HY := Lib.hid (show ys.length = k by
      have := congrArg List.length HM.out
      simp only [colq, List.length_map, List.length_take] at this
      have := HL.out
      omega)
    by_cases hlt : k < n
    · have n0 : (0 : Int) ≤ (k : Int) := by omega
      have l0 : (k : Int) < (n : Int) := by omega
      have w0 : IntKind.i64.wrap ((k : Int) + 1) = ((k + 1 : Nat) : Int) := IntWalk.i64_in _ (by omega)
      obtain ⟨bb, off, rfl, hbl, hcel⟩ := HA.out (by omega)
      obtain ⟨qs, hqs⟩ : ∃ qs, rows[k]? = some qs := ⟨_, List.getElem?_eq_getElem (by have := HL.out; omega)⟩
      obtain ⟨u, hu, hv⟩ := hcel k qs hqs
      have hu2 := (HB.out.cell (p := ⟨bb, off + k * 1, none⟩) hbl).trans hu
      rw [Nat.mul_one] at hu2
      obtain ⟨a2, c2, rfl⟩ := hv.form
      have hcm := HC.out qs (List.mem_of_getElem? hqs)
      obtain ⟨-, hd2, b2, o2, hA2, hel2⟩ := hv.addr
      obtain ⟨m, hm⟩ : ∃ m, m = qs.length := ⟨_, rfl⟩
      rw [← hm] at hu2 hA2 hd2 hcm
      obtain ⟨rfl, hbl2⟩ := hA2 (by omega)
      obtain ⟨q, hq⟩ : ∃ q, qs[c]? = some q := ⟨_, List.getElem?_eq_getElem (by omega)⟩
      have hqat := (hel2 c q hq).below hbl2 HB.out
      have HQ := Lib.hid (show rows[k]? = some qs ∧ qs.getD c default = q from ⟨hqs, by rw [List.getD_eq_getElem?_getD, hq]; rfl⟩)
      have c0 : (0 : Int) ≤ (c : Int) := by omega
      have c1 : (c : Int) < (m : Int) := by omega
      obtain ⟨s, l1, d1⟩ := q
      obtain ⟨p, e1, p', e2, h0, h1, h2, g1, g2⟩ := hqat
      dsimp only at h0 h1 h2 g1 g2
      have G := Lib.hid (And.intro g1 g2)
      have hs2 : w.heap.size ≤ wr.heap.size := HB.out.size
      clear g1 g2 hu hv hqs hcel HA hm hel2 hA2 hq HC
      go_wp2_with ((at_builtin; go_loud (refine wpList_append_rat hi hz0 hz1 hz2 wr rfl _ _ rfl w.heap.size (.slice av k cv) ys ((s, l1, d1), (p, e1), (p', e2)) rfl rfl HV.out G.out hs2 (by have := HY.out; omega) ?_); intro v' w3 hV3 hgrow; have hap := rat_append HV.out hs2 hgrow; obtain ⟨av', cv', ev'⟩ := hV3.form; rw [List.length_append, List.length_singleton, HY.out] at ev'; subst ev'; have HV3 := Lib.hid hV3; have HB3 := Lib.hid (HB.out.trans hap.2.1); clear hV3 hap hgrow HV HB))
      go_roundg (n - (k + 1))
      case measure => omega
      case rel => exact ⟨k + 1, ys ++ [((s, l1, d1), (p, e1), (p', e2))], av', cv', by omega, by first | rfl | simp, by first | rfl | simp, Lib.hid (by rw [List.map_append, HM.out, List.take_add_one, HQ.out.1]; unfold colq; rw [List.map_append]; have e := HQ.out.2; rw [List.getD_eq_getElem?_getD] at e; simp [e]), HV3, HB3⟩
    · obtain rfl : k = n := by omega
      have l0 : ¬ (k : Int) < (k : Int) := by omega
      clear HA HC
      have hM : ys.map (·.1) = colq rows c := by rw [HM.out, List.take_of_length_le (by have := HL.out; omega)]
      have HM2 := Lib.hid hM
      clear hM
      go_wp2_with fail
      go_ret
      exact ⟨_, rfl, by have := HV.out.fresh; rw [HM2.out] at this; exact this, HB.out⟩
end
section
open Go Go.Proofs Go.RowKit Go.Shelf Nu
theorem zcells_set : ∀ (zs : List Zr) (k : Nat) (z : Zr), k < zs.length → zcells (zs.set k z) = (((zcells zs).set (k * 3) (.bool z.1.1)).set (k * 3 + 1) (.slice z.2.1.1 z.1.2.1.length z.2.1.2)).set (k * 3 + 2) (.slice z.2.2.1 z.1.2.2.length z.2.2.2)
 | [], k, z, h => by simp at h
 | y :: zs, 0, z, _ => by simp [zcells, zcell]
 | y :: zs, k + 1, z, h => by
  have ih := zcells_set zs k z (by simpa using h)
  have e : ∀ l : List Zr, zcells (y :: l) = zcell y ++ zcells l := fun l => by simp [zcells]
  have hl : (zcell y).length = 3 := rfl
  rw [List.set_cons_succ, e, e, ih, List.set_append_right _ _ (by omega), List.set_append_right _ _ (by omega), List.set_append_right _ _ (by omega), hl,
   show (k + 1) * 3 - 3 = k * 3 by omega, show (k + 1) * 3 + 1 - 3 = k * 3 + 1 by omega, show (k + 1) * 3 + 2 - 3 = k * 3 + 2 by omega]
theorem Row32.set {W : World} {g n cap j : Nat} {u : Value} (h : Row32 W (.slice (some ⟨g, 0, none⟩) n cap)) (hu : no32 u = true) : Row32 (W.setCell ⟨g, j, none⟩ u) (.slice (some ⟨g, 0, none⟩) n cap) := by
 intro g' e
 obtain ⟨cur, t, h1, h2⟩ := h g' e
 obtain rfl : g = g' := by simpa [Value.ownBlock] using e
 refine ⟨cur.setIfInBounds j u, t, heap_setCell_same W g j cur t u h1, fun x hx => ?_⟩
 rw [Array.toList_setIfInBounds] at hx
 rcases List.mem_or_eq_of_mem_set hx with hx | rfl
 · exact h2 x hx
 · exact hu
theorem row_put {W : World} {base g n cap j : Nat} {xs : List Value} {u : Value} (h : W.ownsRow base 44 3 (.slice (some ⟨g, 0, none⟩) n cap) n xs) (h32 : Row32 W (.slice (some ⟨g, 0, none⟩) n cap)) (hu : no32 u = true) :
  (W.setCell ⟨g, j, none⟩ u).ownsRow base 44 3 (.slice (some ⟨g, 0, none⟩) n cap) n (xs.set j u) ∧ Row32 (W.setCell ⟨g, j, none⟩ u) (.slice (some ⟨g, 0, none⟩) n cap) ∧ ∀ z, ZIn W z → ZIn (W.setCell ⟨g, j, none⟩ u) z := by
 have k := h.stored j u
 exact ⟨k.1, h32.set hu, fun z hz => hz.grown (v0 := .slice (some ⟨g, 0, none⟩) n cap) k.2 h32⟩
theorem VF.put {W : World} {base g cap k : Nat} {zs : List Zr} (h : VF W base (.slice (some ⟨g, 0, none⟩) zs.length cap) zs) (hk : k < zs.length) (z : Zr) (hz : ZIn W z) :
   VF (((W.setCell ⟨g, k * 3, none⟩ (.bool z.1.1)).setCell ⟨g, k * 3 + 1, none⟩ (.slice z.2.1.1 z.1.2.1.length z.2.1.2)).setCell ⟨g, k * 3 + 2, none⟩ (.slice z.2.2.1 z.1.2.2.length z.2.2.2)) base (.slice (some ⟨g, 0, none⟩) zs.length cap) (zs.set k z) := by
 obtain ⟨a1, b1, c1⟩ := row_put (j := k * 3) (u := .bool z.1.1) h.1.1 h.1.2 rfl
 obtain ⟨a2, b2, c2⟩ := row_put (j := k * 3 + 1) (u := .slice z.2.1.1 z.1.2.1.length z.2.1.2) a1 b1 rfl
 obtain ⟨a3, b3, c3⟩ := row_put (j := k * 3 + 2) (u := .slice z.2.2.1 z.1.2.2.length z.2.2.2) a2 b2 rfl
 rw [← zcells_set zs k z hk] at a3
 refine ⟨⟨by rw [List.length_set]; exact a3, b3⟩, fun y hy => c3 y (c2 y (c1 y ?_))⟩
 rcases List.mem_or_eq_of_mem_set hy with hy | rfl
 · exact h.2 y hy
 · exact hz
theorem VReads.cells {W : World} {b off n cap : Nat} {qs : List Qr} (h : VReads W (.slice (some ⟨b, off, none⟩) n cap) qs) (h0 : 0 < n) : ∃ zs : List Zr, zs.map (·.1) = qs ∧ zs.length = n ∧ (∀ j u, (zcells zs)[j]? = some u → W.cell? ((⟨b, off, none⟩ : Addr).add j) = some u) ∧ ∀ z ∈ zs, ZIn W z := by
 obtain ⟨hn, _, b', off', hA, hc⟩ := h.addr
 obtain ⟨e, _⟩ := hA h0
 cases e
 have key : ∀ j, ∃ z : Zr, j < n → z.1 = qs.getD j default ∧ W.cell? ⟨b, off + j * 3, none⟩ = some (.bool z.1.1) ∧ W.cell? ⟨b, off + j * 3 + 1, none⟩ = some (.slice z.2.1.1 z.1.2.1.length z.2.1.2) ∧ W.cell? ⟨b, off + j * 3 + 2, none⟩ = some (.slice z.2.2.1 z.1.2.2.length z.2.2.2) ∧ ZIn W z := by
   intro j
   by_cases hj : j < n
   · obtain ⟨p, c, p', c', h0, h1, h2, g, g'⟩ := hc j _ (qs_at (by omega))
     exact ⟨(qs.getD j default, (p, c), (p', c')), fun _ => ⟨rfl, h0, h1, h2, g, g'⟩⟩
   · exact ⟨default, fun h => absurd h hj⟩
 obtain ⟨f, hf⟩ : ∃ f : Nat → Zr, ∀ j, j < n → (f j).1 = qs.getD j default ∧ W.cell? ⟨b, off + j * 3, none⟩ = some (.bool (f j).1.1) ∧ W.cell? ⟨b, off + j * 3 + 1, none⟩ = some (.slice (f j).2.1.1 (f j).1.2.1.length (f j).2.1.2) ∧ W.cell? ⟨b, off + j * 3 + 2, none⟩ = some (.slice (f j).2.2.1 (f j).1.2.2.length (f j).2.2.2) ∧ ZIn W (f j) :=
   ⟨fun j => Classical.choose (key j), fun j => Classical.choose_spec (key j)⟩
 refine ⟨(List.range n).map f, ?_, by simp, fun j u hu => ?_, fun z hz => ?_⟩
 · apply List.ext_getElem (by simp [hn])
   intro j h1 h2
   simp only [List.length_map, List.length_range] at h1
   simp only [List.getElem_map, List.getElem_range]
   rw [(hf j h1).1, List.getD_eq_getElem?_getD, List.getElem?_eq_getElem h2]
   rfl
 · have hjl : j < n * 3 := by
     have := (List.getElem?_eq_some_iff.1 hu).1
     rw [zcells_len] at this
     simpa using this
   have hq : j / 3 < n := by omega
   have hz : ((List.range n).map f)[j / 3]? = some (f (j / 3)) := by simp [hq]
   have ha := zcells_at _ (j / 3) _ hz (j % 3) (by omega)
   rw [show j / 3 * 3 + j % 3 = j by omega, hu] at ha
   obtain ⟨_, c0, c1, c2, _⟩ := hf (j / 3) hq
   rw [Addr.add_lit]
   have h3 : j % 3 = 0 ∨ j % 3 = 1 ∨ j % 3 = 2 := by omega
   rcases h3 with h3 | h3 | h3 <;> rw [h3] at ha <;> simp only [zcell, List.getElem?_cons_zero, List.getElem?_cons_succ, Option.some.injEq] at ha <;> subst ha
   · rw [show off + j = off + j / 3 * 3 by omega]; exact c0
   · rw [show off + j = off + j / 3 * 3 + 1 by omega]; exact c1
   · rw [show off + j = off + j / 3 * 3 + 2 by omega]; exact c2
 · obtain ⟨j, hj, rfl⟩ := List.mem_map.1 hz
   exact (hf j (by simpa using hj)).2.2.2.2
theorem VF.at {W : World} {base g n cap k : Nat} {zs : List Zr} (h : VF W base (.slice (some ⟨g, 0, none⟩) n cap) zs) (hn : zs.length = n) (hk : k < n) :
  ∃ z, zs[k]? = some z ∧ W.cell? ⟨g, k * 3, none⟩ = some (.bool z.1.1) ∧ W.cell? ⟨g, k * 3 + 1, none⟩ = some (.slice z.2.1.1 z.1.2.1.length z.2.1.2) ∧ W.cell? ⟨g, k * 3 + 2, none⟩ = some (.slice z.2.2.1 z.1.2.2.length z.2.2.2) ∧
   W.frozen? ⟨g, k * 3, none⟩ = false ∧ W.frozen? ⟨g, k * 3 + 1, none⟩ = false ∧ W.frozen? ⟨g, k * 3 + 2, none⟩ = false := by
 subst hn
 have hz : zs[k]? = some zs[k] := List.getElem?_eq_getElem hk
 have key : ∀ i, i < 3 → W.cell? ⟨g, k * 3 + i, none⟩ = (zcell zs[k])[i]? := fun i hi => by
  rw [World.ownsRow.cellAt h.1.1 (k * 3 + i) (by omega), zcells_at zs k _ hz i hi]
 exact ⟨zs[k], hz, key 0 (by omega), key 1 (by omega), key 2 (by omega), World.ownsRow.frozenAt h.1.1 _, World.ownsRow.frozenAt h.1.1 _, World.ownsRow.frozenAt h.1.1 _⟩
end
section
open Go Go.Proofs Go.RowKit Go.Shelf Nu
set_option linter.unusedVariables false
set_option linter.unusedSimpArgs false
set_option maxRecDepth 100000
attribute [local go_sem] Oper.semAt_some
def z0r : Zr := ((false, [], []), (none, 0), (none, 0))
theorem made_rat (n : Nat) : (madeCells (Value.agg zrat).cells (n * 3)).toList = zcells (List.replicate n z0r) := by
 apply List.ext_getElem?
 intro j
 by_cases hj : j < n * 3
 · have h1 : (madeCells (Value.agg zrat).cells (n * 3)).toList[j]? = some ((Value.agg zrat).cells[j % (Value.agg zrat).cells.size]!) := by
    unfold madeCells
    rw [Array.getElem?_toList, Array.getElem?_map, Array.getElem?_range]
    simp [hj]
   have e : j = j / 3 * 3 + j % 3 := by omega
   have h2 := zcells_at (List.replicate n z0r) (j / 3) z0r (by rw [List.getElem?_replicate]; simp; omega) (j % 3) (by omega)
   rw [← e] at h2
   rw [h1, h2]
   have h3 : j % 3 = 0 ∨ j % 3 = 1 ∨ j % 3 = 2 := by omega
   have hs : (Value.agg zrat).cells.size = 3 := rfl
   rw [hs]
   rcases h3 with h3 | h3 | h3 <;> rw [h3] <;> rfl
 · rw [List.getElem?_eq_none (by rw [Array.length_toList, size_madeCells]; omega), List.getElem?_eq_none (by rw [zcells_len, List.length_replicate]; omega)]
theorem run_make_ratn {i : TypeInfo} (hi : Tryz.prog.info? 44 = some i) (hz : i.zero = some (.agg zrat)) (h1 : i.size = 3) (h2 : i.bytes = 56) (w : World) (base : Nat) (kl kc : IntKind) (n : Nat) (hc : n ≤ 100000) (hb : base ≤ w.heap.size) :
   ∃ w', (Instr.makeSlice 30 (.int kl (n : Int)) (.int kc (n : Int))).run Tryz.prog w = .ok (.slice (some ⟨w.heap.size, 0, none⟩) n n) w' ∧ VF w' base (.slice (some ⟨w.heap.size, 0, none⟩) n n) (List.replicate n z0r) ∧ w.grownBy w' none := by
 have hr := run_make (P := Tryz.prog) w 30 44 i (.agg zrat) Tryz.underlying30 hi hz kl kc n n (by omega) (Int.le_refl _) (by rw [h2]; omega) (by omega)
 simp only [Int.toNat_natCast] at hr
 refine ⟨_, hr, ⟨⟨⟨by rw [zcells_len], .inr ⟨w.heap.size, n, _, by rw [List.length_replicate], hb, heap_alloc_new w _, by rw [List.length_replicate]; exact Nat.le_refl _, by unfold maxLen; omega, by rw [size_madeCells, h1], ?_⟩⟩, ?_⟩, ?_⟩, World.grownBy_alloc w _ none⟩
 · rw [List.length_replicate, h1, made_rat, List.take_of_length_le (by rw [zcells_len, List.length_replicate]; omega)]
 · intro g e
   obtain rfl : w.heap.size = g := by simpa [Value.ownBlock] using e
   refine ⟨_, _, heap_alloc_new w _, fun u hu => ?_⟩
   obtain ⟨j, _, rfl⟩ : ∃ j, j < n * i.size ∧ (Value.agg zrat).cells[j % (Value.agg zrat).cells.size]! = u := by simpa [madeCells] using hu
   exact zrat_no j
 · intro z hz
   obtain rfl := (List.mem_replicate.1 hz).2
   exact ⟨Reads.nil _, Reads.nil _⟩
theorem wpList_make_ratn {i : TypeInfo} (hi : Tryz.prog.info? 44 = some i) (hz : i.zero = some (.agg zrat)) (h1 : i.size = 3) (h2 : i.bytes = 56) (w : World) {ops : Array Oper} {rest : List Oper} {o : Oper} {a : Act} {Q : Exit → Act → World → Prop}
  (hg : o.guard = none) (l c : Operand) (hop : o.op = Op.makeSlice 30 l c) (base : Nat) (kl kc : IntKind) (n : Nat) (hl : a.eval l = .int kl (n : Int)) (hc : a.eval c = .int kc (n : Int)) (hn : n ≤ 100000) (hb : base ≤ w.heap.size)
  (hK : ∀ w', VF w' base (.slice (some ⟨w.heap.size, 0, none⟩) n n) (List.replicate n z0r) → w.grownBy w' none → wpList Tryz.prog ops Q rest (a.put o.dst (.slice (some ⟨w.heap.size, 0, none⟩) n n)) w') :
  wpList Tryz.prog ops Q (o :: rest) a w := by
 refine wpList_plain hg fun K hK' => ?_
 obtain ⟨w', hrun, r1, r2⟩ := run_make_ratn hi hz h1 h2 w base kl kc n hn hb
 unfold Oper.wp
 simp [execOp, hop, hl, hc, hrun, Result.andThen]
 exact hK' _ _ (hK w' r1 r2)
theorem set_fill {T : List Rat} {zs : List Zr} {n k : Nat} {z : Zr} (hk : k < n) (hT : T.length = n) (h : zs.map (·.1) = (T.take k).map qr ++ List.replicate (n - k) (false, [], [])) (hz : z.1 = qr (T.getD k 0)) : (zs.set k z).map (·.1) = (T.take (k + 1)).map qr ++ List.replicate (n - (k + 1)) (false, [], []) := by
 have hl : ((T.take k).map qr).length = k := by rw [List.length_map, List.length_take]; omega
 obtain ⟨m, hm⟩ : ∃ m, n - k = m + 1 := ⟨n - k - 1, by omega⟩
 have hm2 : n - (k + 1) = m := by omega
 have e : T.take (k + 1) = T.take k ++ [T.getD k 0] := by
  rw [List.take_add_one, List.getD_eq_getElem?_getD, List.getElem?_eq_getElem (by omega)]; rfl
 rw [List.map_set, h, List.set_append_right _ _ (by omega), hl, Nat.sub_self, hm, List.replicate_succ, List.set_cons_zero, hm2, e, List.map_append, hz]
 simp
theorem fill_len {T : List Rat} {zs : List Zr} {n k : Nat} (hk : k ≤ n) (hT : T.length = n) (h : zs.map (·.1) = (T.take k).map qr ++ List.replicate (n - k) (false, [], [])) : zs.length = n := by
 have := congrArg List.length h
 rw [List.length_map, List.length_append, List.length_map, List.length_take, List.length_replicate] at this
 omega
def gq (R : List (List Rat)) : List (List Qr) := R.map fun r => r.map qr
theorem gq_at {R : List (List Rat)} {k : Nat} {r : List Rat} (h : R[k]? = some r) : (gq R)[k]? = some (r.map qr) := by unfold gq; rw [List.getElem?_map, h]; rfl
theorem g_times {w : World} {a a2 : Option Addr} {n cap m c2 : Nat} {R : List (List Rat)} {xs : List Rat} (h : GridR w (.slice a n cap) (gq R)) (hx : VReads w (.slice a2 m c2) (xs.map qr)) (hn : n ≤ 1000) (hm : m ≤ 60000) (hR : ∀ r ∈ R, r.length = xs.length) (hw : ∀ r ∈ R, wts r + wts xs ≤ 8900) (hwx : wts xs ≤ 8900) :
    Calls Tryz.prog 20 #[.slice a n cap, .slice a2 m c2] w fun e w' => ∃ v, e = .returned (.tuple #[v, .int .i64 0]) ∧ VFresh w' w.heap.size v ((R.map fun r => dot r xs).map qr) ∧ Below w.heap.size w w' := by
  obtain ⟨i0, hi, hz0, hz1, hz2⟩ := info_parts info_rat
  obtain ⟨hl, hcap, hA⟩ := h.addr
  have hl2 : n = R.length := by rw [hl]; unfold gq; rw [List.length_map]
  have hmx : m = xs.length := by have := hx.addr.1; simpa using this
  have hgr : grows (gq R) := ⟨by rw [← hl]; exact hn, fun r hr => by
    obtain ⟨s, hs, rfl⟩ := List.mem_map.1 hr
    exact ⟨fit_qrs (by have := hw s hs; omega), by rw [List.length_map, hR s hs]; omega⟩⟩
  have hok : true = gokB (gq R) := by
    symm
    unfold gokB
    rw [List.all_eq_true]
    intro r hr
    obtain ⟨s, hs, rfl⟩ := List.mem_map.1 hr
    have hc : cols (gq R) = xs.length := by
      cases R with
      | nil => cases hs
      | cons y t => show (y.map qr).length = _; rw [List.length_map]; exact hR y (by simp)
    rw [hc, all_qok_qr, List.length_map, hR s hs]
    simp
  have hcx : 0 < n → cols (gq R) = m := fun h0 => by
    cases R with
    | nil => simp at hl2; omega
    | cons y t => show (y.map qr).length = _; rw [List.length_map, hR y (by simp), hmx]
  have k1 := Lib.hid (fun (W : World) (r : Below w.heap.size w W) => g_check true hok (h.below r) hgr)
  have k2 := Lib.hid (fun (W : World) (r : Below w.heap.size w W) => v_check true (by rw [all_qok_qr]) (hx.below r) ⟨fit_qrs (by omega), by rw [List.length_map]; omega⟩)
  have k3 := Lib.hid (fun (W : World) (r : Below w.heap.size w W) => g_columns (h.below r) hn)
  have kd := Lib.hid (fun (j : Nat) (s : List Rat) (hs : R[j]? = some s) (W : World) (r : Below w.heap.size w W) (u : Option Addr) (uc : Nat) (hu : VReads w (.slice u m uc) (s.map qr)) => v_dot (hu.below r) (hx.below r) (hw s (List.mem_of_getElem? hs)))
  have HA := Lib.hid hA
  have HR := Lib.hid (show n = R.length ∧ ∀ r ∈ R, r.length = m from ⟨hl2, fun r hr => by rw [hR r hr, hmx]⟩)
  have HC := Lib.hid hcx
  obtain ⟨T, hT⟩ : ∃ T, T = R.map fun r => dot r xs := ⟨_, rfl⟩
  have HT := Lib.hid (show T.length = n ∧ ∀ j s, R[j]? = some s → T.getD j 0 = dot s xs from ⟨by rw [hT, List.length_map, hl2], fun j s hs => by rw [hT, List.getD_eq_getElem?_getD, List.getElem?_map, hs]; rfl⟩)
  rw [← hT]
  obtain ⟨K, hK⟩ : ∃ K, K = cols (gq R) := ⟨_, rfl⟩
  rw [← hK] at k3 HC
  have B0 := Lib.hid (Below.refl w.heap.size w)
  clear h hx hm hR hw hwx hl hl2 hcap hA hmx hgr hok hcx hT hK
  have enz : n = 0 ∨ (0 < n ∧ K = m) := by
    by_cases h0 : n = 0
    · exact .inl h0
    · exact .inr ⟨by omega, HC.out (by omega)⟩
  have k0 : ((0 : Nat) : Int) = 0 := rfl
  rcases enz with h0 | ⟨h0, rfl⟩
  · have HN0 : Hid (n = 0) := Lib.hid h0
    have q1 : ¬ (0 : Int) < (n : Int) := by omega
    have q1' : decide ((0 : Int) < (n : Int)) = false := decide_eq_false q1
    clear HC h0
    go_enter Tryz.func20, Tryz.ntmps20
    go_wp2_with fail
    refine (k1.out _ B0.out).mono ?_
    rintro e w1 ⟨rfl, rr⟩
    have B1 := Lib.hid (then_below B0.out rr)
    clear rr B0
    go_wp2_with fail
    refine (k2.out _ B1.out).mono ?_
    rintro e w2 ⟨rfl, rr⟩
    have B2 := Lib.hid (then_below B1.out rr)
    clear rr B1 k1 k2
    have hs2 : w.heap.size ≤ w2.heap.size := B2.out.size
    go_wp2_with (first
      | (go_at_call 44; refine (k3.out _ B2.out).mono ?_; rintro e w3 ⟨rfl, rfl⟩)
      | (at_make; go_loud (refine wpList_make_ratn hi hz0 hz1 hz2 _ rfl _ _ rfl w.heap.size .i64 .i64 n rfl rfl (by omega) (by omega) ?_); intro w4 hV4 hgrow4; have HV4 := Lib.hid hV4; have HB4 := Lib.hid (show Below w.heap.size w w4 from B2.out.grown hgrow4 B2.out.size (fun _ e => by cases e)); clear hV4 hgrow4)
      | fail)
    clear B2 k3 hi hz0 hz1 hz2 i0
    obtain ⟨D, hD⟩ : ∃ D, D = w2.heap.size := ⟨_, rfl⟩
    rw [← hD] at HV4 ⊢
    clear hD hs2
    go_loopg [34] n (fun g s wr => ∃ (k : Nat) (zs : List Zr), k + g = n ∧ s = .int .i64 (k : Int) ∧ Hid (zs.map (·.1) = (T.take k).map qr ++ List.replicate (n - k) (false, [], [])) ∧ Hid (VF wr w.heap.size (.slice (some ⟨D, 0, none⟩) n n) zs) ∧ Hid (Below w.heap.size w wr))
    case atStart => exact ⟨0, _, by omega, rfl, Lib.hid (by simp [z0r]), HV4, HB4⟩
    case round =>
      clear HV4 HB4 k0
      obtain ⟨k, zs, hk, rfl, HM, HV, HB⟩ := hrel
      by_cases hlt : k < n
      · exact absurd hlt (by have := HN0.out; omega)
      · obtain rfl : k = n := by omega
        have l0 : ¬ (k : Int) < (k : Int) := by omega
        have hM : zs.map (·.1) = T.map qr := by rw [HM.out, List.take_of_length_le (by have := HT.out.1; omega)]; simp
        have HM2 := Lib.hid hM
        clear hM HA kd HR
        go_wp2_with fail
        go_ret2
        exact ⟨_, rfl, by have := HV.out.fresh; rw [HM2.out] at this; exact this, HB.out⟩
  · have q1 : (0 : Int) < (n : Int) := by omega
    have q1' : decide ((0 : Int) < (n : Int)) = true := decide_eq_true q1
    have q2 : ((K : Int) != (K : Int)) = false := by simp
    clear HC h0
    go_enter Tryz.func20, Tryz.ntmps20
    go_wp2_with fail
    refine (k1.out _ B0.out).mono ?_
    rintro e w1 ⟨rfl, rr⟩
    have B1 := Lib.hid (then_below B0.out rr)
    clear rr B0
    go_wp2_with fail
    refine (k2.out _ B1.out).mono ?_
    rintro e w2 ⟨rfl, rr⟩
    have B2 := Lib.hid (then_below B1.out rr)
    clear rr B1 k1 k2
    have hs2 : w.heap.size ≤ w2.heap.size := B2.out.size
    go_wp2_with (first
      | (go_at_call 44; refine (k3.out _ B2.out).mono ?_; rintro e w3 ⟨rfl, rfl⟩)
      | (at_make; go_loud (refine wpList_make_ratn hi hz0 hz1 hz2 _ rfl _ _ rfl w.heap.size .i64 .i64 n rfl rfl (by omega) (by omega) ?_); intro w4 hV4 hgrow4; have HV4 := Lib.hid hV4; have HB4 := Lib.hid (show Below w.heap.size w w4 from B2.out.grown hgrow4 B2.out.size (fun _ e => by cases e)); clear hV4 hgrow4)
      | fail)
    clear B2 k3 hi hz0 hz1 hz2 i0
    obtain ⟨D, hD⟩ : ∃ D, D = w2.heap.size := ⟨_, rfl⟩
    rw [← hD] at HV4 ⊢
    clear hD hs2
    go_loopg [34] n (fun g s wr => ∃ (k : Nat) (zs : List Zr), k + g = n ∧ s = .int .i64 (k : Int) ∧ Hid (zs.map (·.1) = (T.take k).map qr ++ List.replicate (n - k) (false, [], [])) ∧ Hid (VF wr w.heap.size (.slice (some ⟨D, 0, none⟩) n n) zs) ∧ Hid (Below w.heap.size w wr))
    case atStart => exact ⟨0, _, by omega, rfl, Lib.hid (by simp [z0r]), HV4, HB4⟩
    case round =>
      clear HV4 HB4 k0
      obtain ⟨k, zs, hk, rfl, HM, HV, HB⟩ := hrel
      by_cases hlt : k < n
      · have n0 : (0 : Int) ≤ (k : Int) := by omega
        have l0 : (k : Int) < (n : Int) := by omega
        have w0 : IntKind.i64.wrap ((k : Int) + 1) = ((k + 1 : Nat) : Int) := IntWalk.i64_in _ (by omega)
        obtain ⟨bb, off, rfl, hbl, hcel⟩ := HA.out (by omega)
        obtain ⟨s, hs⟩ : ∃ s, R[k]? = some s := ⟨_, List.getElem?_eq_getElem (by have := HR.out.1; omega)⟩
        obtain ⟨u, hu, hv⟩ := hcel k _ (gq_at hs)
        have hu2 := (HB.out.cell (p := ⟨bb, off + k * 1, none⟩) hbl).trans hu
        rw [Nat.mul_one] at hu2
        obtain ⟨ua, uc, rfl⟩ := hv.form
        rw [List.length_map, HR.out.2 s (List.mem_of_getElem? hs)] at hu2 hv
        have KD := Lib.hid (fun (W : World) (r : Below w.heap.size w W) => kd.out k s hs W r ua uc hv)
        have HX := Lib.hid (HT.out.2 k s hs)
        have HL := Lib.hid (fill_len (by omega) HT.out.1 HM.out)
        obtain ⟨X, hX⟩ : ∃ X, X = dot s xs := ⟨_, rfl⟩
        rw [← hX] at KD HX
        clear hu hv hs hcel HA kd HR hX
        go_wp2_with fail
        refine (KD.out _ HB.out).mono ?_
        rintro e w5 ⟨a3, c3, a4, c4, rfl, g3, g4, rr⟩
        have HV5 := Lib.hid (HV.out.below rr)
        have HB5 := Lib.hid (then_below HB.out rr)
        have HZ := Lib.hid (show ZIn w5 (qr X, (a3, c3), (a4, c4)) from ⟨g3, g4⟩)
        obtain ⟨zk, -, y0, y1, y2, f0, f1, f2⟩ := VF.at HV5.out HL.out hlt
        have HSZ := Lib.hid (HV5.out.lt (g := D) rfl)
        clear rr g3 g4 KD HV HB
        go_wp2_with fail
        go_roundg (n - (k + 1))
        case measure => omega
        case rel =>
          refine ⟨k + 1, zs.set k (qr X, (a3, c3), (a4, c4)), by omega, by first | rfl | simp, Lib.hid (set_fill (by omega) HT.out.1 HM.out (by rw [HX.out])), Lib.hid ?_, Lib.hid ?_⟩
          · have := HV5.out
            rw [← HL.out] at this
            have := VF.put this (k := k) (by rw [HL.out]; omega) _ HZ.out
            rw [HL.out] at this
            exact this
          · exact ((HB5.out.setCell (p := ⟨D, k * 3, none⟩) (by exact HSZ.out.1) _).setCell (p := ⟨D, k * 3 + 1, none⟩) (by exact HSZ.out.1) _).setCell (p := ⟨D, k * 3 + 2, none⟩) (by exact HSZ.out.1) _
      · obtain rfl : k = n := by omega
        have l0 : ¬ (k : Int) < (k : Int) := by omega
        have hM : zs.map (·.1) = T.map qr := by rw [HM.out, List.take_of_length_le (by have := HT.out.1; omega)]; simp
        have HM2 := Lib.hid hM
        clear hM HA kd HR
        go_wp2_with fail
        go_ret2
        exact ⟨_, rfl, by have := HV.out.fresh; rw [HM2.out] at this; exact this, HB.out⟩
theorem VFO.offt {W W' : World} {base : Nat} {v : Value} {zs : List Zr} {t : TypeId} (h : VFO W base v zs) (ho : Off t W W') (h1 : 127 ≠ t) (h2 : 44 ≠ t) : VFO W' base v zs := by
 have hL := h.2.off ho h1
 refine ⟨⟨⟨own_off h.1.1.1 ho h2, ?_⟩, fun z hz => (hL.1 z hz).zin⟩, hL⟩
 intro g e
 obtain ⟨cur, ty, hg, h32⟩ := h.1.1.2 g e
 rcases h.1.1.1.2 with ⟨rfl, _⟩ | ⟨g', cap, cur', rfl, _, hg', _⟩
 · cases e
 · have e3 : g' = g := by simpa [Value.ownBlock] using e
   subst e3
   rw [hg'] at hg
   cases hg
   exact ⟨_, 44, ho.2 _ _ _ _ h2 hg', h32⟩
def GFO (W : World) (base : Nat) (v : Value) (gs : List (Value × List Zr)) : Prop := W.ownsRow base 30 1 v gs.length (gs.map (·.1)) ∧ ∀ g ∈ gs, VFO W base g.1 g.2
theorem GFO.below {W W' : World} {base : Nat} {v : Value} {gs : List (Value × List Zr)} (h : GFO W base v gs) (hb : Below W.heap.size W W') : GFO W' base v gs := ⟨own_below h.1 hb, fun g hg => (h.2 g hg).below hb⟩
theorem GFO.lt {W : World} {base g : Nat} {v : Value} {gs : List (Value × List Zr)} (h : GFO W base v gs) (e : v.ownBlock = some g) : base ≤ g ∧ g < W.heap.size := World.ownsRow.lt h.1 g e
theorem VFO.nil (W : World) (base : Nat) : VFO W base (.slice none 0 0) [] := ⟨VF.nil W base, OwnL.nil⟩
theorem GFO.at {W : World} {base g n cap k : Nat} {gs : List (Value × List Zr)} (h : GFO W base (.slice (some ⟨g, 0, none⟩) n cap) gs) (hn : gs.length = n) (hk : k < n) :
  ∃ y, gs[k]? = some y ∧ W.cell? ⟨g, k, none⟩ = some y.1 ∧ W.frozen? ⟨g, k, none⟩ = false := by
 subst hn
 refine ⟨gs[k], List.getElem?_eq_getElem hk, ?_, World.ownsRow.frozenAt h.1 _⟩
 rw [World.ownsRow.cellAt h.1 k (by omega), List.getElem?_map, List.getElem?_eq_getElem hk]
 rfl
theorem GFO.put {W : World} {base g n cap k : Nat} {gs : List (Value × List Zr)} {y : Value × List Zr} (h : GFO W base (.slice (some ⟨g, 0, none⟩) n cap) gs) (hn : gs.length = n) (hy : VFO W base y.1 y.2) : GFO (W.setCell ⟨g, k, none⟩ y.1) base (.slice (some ⟨g, 0, none⟩) n cap) (gs.set k y) := by
 subst hn
 have hs := World.ownsRow.stored h.1 k y.1
 have ho : Off 30 W (W.setCell ⟨g, k, none⟩ y.1) := by
   rcases h.1.2 with ⟨e, _⟩ | ⟨g', cap', cur, e, _, hg, _⟩
   · cases e
   · cases e
     exact Off.put (show BoxN W g 30 cur from hg) k y.1
 refine ⟨by rw [List.length_set, List.map_set]; exact hs.1, fun z hz => ?_⟩
 rcases List.mem_or_eq_of_mem_set hz with hz | rfl
 · exact (h.2 z hz).offt ho (by decide) (by decide)
 · exact hy.offt ho (by decide) (by decide)
theorem GFO.reads {W : World} {base : Nat} {v : Value} {gs : List (Value × List Zr)} (h : GFO W base v gs) : GridR W v (gs.map fun g => g.2.map (·.1)) := by
  rcases h.1.2 with ⟨rfl, h0⟩ | ⟨g, cap, cur, rfl, hb, hg, hn, hm, hs, ht⟩
  · have e : gs = [] := List.eq_nil_of_length_eq_zero h0
    subst e
    exact ⟨none, 0, rfl, Nat.le_refl _, fun h => absurd h (Nat.lt_irrefl 0)⟩
  · refine ⟨some ⟨g, 0, none⟩, cap, by rw [List.length_map], by rw [List.length_map]; exact hn, fun h0 => ⟨g, 0, rfl, (Array.getElem?_eq_some_iff.1 hg).1, fun j x hx => ?_⟩⟩
    rw [List.getElem?_map] at hx
    cases hy : gs[j]? with
    | none => rw [hy] at hx; cases hx
    | some y =>
      rw [hy] at hx
      obtain rfl : y.2.map (·.1) = x := by simpa using hx
      refine ⟨y.1, ?_, (h.2 y (List.mem_of_getElem? hy)).1.fresh.reads⟩
      rw [Nat.zero_add, World.ownsRow.cellAt h.1 (j * 1) (by have := (List.getElem?_eq_some_iff.1 hy).1; omega), Nat.mul_one, List.getElem?_map, hy]
      rfl
theorem info_rows : (Tryz.prog.info? 30).map (fun i => (i.zero, i.size, i.bytes)) = some (some (.slice none 0 0), 1, 24) := by kernel_rfl
theorem made_rows (n : Nat) : (madeCells (Value.slice none 0 0).cells (n * 1)).toList = List.replicate n (.slice none 0 0) := by
 apply List.ext_getElem?
 intro j
 by_cases hj : j < n
 · unfold madeCells
   rw [Array.getElem?_toList, Array.getElem?_map, Array.getElem?_range, List.getElem?_replicate]
   rw [if_pos (by omega), if_pos hj]
   show some ((Value.slice none 0 0).cells[j % 1]!) = _
   rw [Nat.mod_one]
   rfl
 · rw [List.getElem?_eq_none (by rw [Array.length_toList, size_madeCells]; omega), List.getElem?_eq_none (by rw [List.length_replicate]; omega)]
theorem run_make_rows {i : TypeInfo} (hi : Tryz.prog.info? 30 = some i) (hz : i.zero = some (.slice none 0 0)) (h1 : i.size = 1) (h2 : i.bytes = 24) (w : World) (base : Nat) (kl kc : IntKind) (n : Nat) (hc : n ≤ 100000) (hb : base ≤ w.heap.size) :
   ∃ w', (Instr.makeSlice 22 (.int kl (n : Int)) (.int kc (n : Int))).run Tryz.prog w = .ok (.slice (some ⟨w.heap.size, 0, none⟩) n n) w' ∧ GFO w' base (.slice (some ⟨w.heap.size, 0, none⟩) n n) (List.replicate n (.slice none 0 0, [])) ∧ w.grownBy w' none := by
 have hr := run_make (P := Tryz.prog) w 22 30 i (.slice none 0 0) Tryz.underlying22 hi hz kl kc n n (by omega) (Int.le_refl _) (by rw [h2]; omega) (by omega)
 simp only [Int.toNat_natCast] at hr
 refine ⟨_, hr, ⟨⟨by simp, .inr ⟨w.heap.size, n, _, by rw [List.length_replicate], hb, heap_alloc_new w _, by rw [List.length_replicate]; exact Nat.le_refl _, by unfold maxLen; omega, by rw [size_madeCells, h1], ?_⟩⟩, ?_⟩, World.grownBy_alloc w _ none⟩
 · rw [List.length_replicate, h1, made_rows, List.take_of_length_le (by rw [List.length_replicate]; omega), List.map_replicate]
 · intro g hg
   obtain rfl := (List.mem_replicate.1 hg).2
   exact VFO.nil _ _
theorem wpList_make_rows {i : TypeInfo} (hi : Tryz.prog.info? 30 = some i) (hz : i.zero = some (.slice none 0 0)) (h1 : i.size = 1) (h2 : i.bytes = 24) (w : World) {ops : Array Oper} {rest : List Oper} {o : Oper} {a : Act} {Q : Exit → Act → World → Prop}
  (hg : o.guard = none) (l c : Operand) (hop : o.op = Op.makeSlice 22 l c) (base : Nat) (kl kc : IntKind) (n : Nat) (hl : a.eval l = .int kl (n : Int)) (hc : a.eval c = .int kc (n : Int)) (hn : n ≤ 100000) (hb : base ≤ w.heap.size)
  (hK : ∀ w', GFO w' base (.slice (some ⟨w.heap.size, 0, none⟩) n n) (List.replicate n (.slice none 0 0, [])) → w.grownBy w' none → wpList Tryz.prog ops Q rest (a.put o.dst (.slice (some ⟨w.heap.size, 0, none⟩) n n)) w') :
  wpList Tryz.prog ops Q (o :: rest) a w := by
 refine wpList_plain hg fun K hK' => ?_
 obtain ⟨w', hrun, r1, r2⟩ := run_make_rows hi hz h1 h2 w base kl kc n hn hb
 unfold Oper.wp
 simp [execOp, hop, hl, hc, hrun, Result.andThen]
 exact hK' _ _ (hK w' r1 r2)
def tcol (R : List (List Rat)) (k : Nat) : List Rat := R.map fun r => r.getD k 0
def turned (R : List (List Rat)) (m : Nat) : List (List Rat) := (List.range m).map (tcol R)
theorem colq_gq {R : List (List Rat)} {k : Nat} (h : ∀ r ∈ R, k < r.length) : colq (gq R) k = (tcol R k).map qr := by
 unfold colq gq tcol
 rw [List.map_map, List.map_map]
 refine List.map_congr_left fun r hr => ?_
 show (r.map qr).getD k default = qr (r.getD k 0)
 rw [qr_at (h r hr)]
theorem scl_one_qr (xs : List Rat) : scl 1 ((xs.map qr).map qval) = xs := by
 unfold scl
 rw [List.map_map, List.map_map]
 conv => rhs; rw [← List.map_id xs]
 refine List.map_congr_left fun x _ => ?_
 show qval (qr x) * 1 = x
 rw [qval_qr]; grind
theorem turn_fill {m k : Nat} {Y : Nat → List Qr} {gs : List (Value × List Zr)} {y : Value × List Zr} (hk : k < m) (h : gs.map (fun g => g.2.map (·.1)) = (List.range k).map Y ++ List.replicate (m - k) []) (hy : y.2.map (·.1) = Y k) : (gs.set k y).map (fun g => g.2.map (·.1)) = (List.range (k + 1)).map Y ++ List.replicate (m - (k + 1)) [] := by
 have hl : ((List.range k).map Y).length = k := by rw [List.length_map, List.length_range]
 obtain ⟨q, hq⟩ : ∃ q, m - k = q + 1 := ⟨m - k - 1, by omega⟩
 have hq2 : m - (k + 1) = q := by omega
 rw [List.map_set, h, List.set_append_right _ _ (by omega), hl, Nat.sub_self, hq, List.replicate_succ, List.set_cons_zero, hq2, List.range_succ, List.map_append, hy]
 simp
theorem turn_len {m k : Nat} {Y : Nat → List Qr} {gs : List (Value × List Zr)} (hk : k ≤ m) (h : gs.map (fun g => g.2.map (·.1)) = (List.range k).map Y ++ List.replicate (m - k) []) : gs.length = m := by
 have := congrArg List.length h
 simp at this
 omega
theorem g_turn {w : World} {a : Option Addr} {n cap m : Nat} {R : List (List Rat)} (h : GridR w (.slice a n cap) (gq R)) (hn : n ≤ 1000) (hm : m = cols (gq R)) (hm9 : m ≤ 1000) (hR : ∀ r ∈ R, r.length = m) (hw : ∀ r ∈ R, ∀ x ∈ r, wt x ≤ 9000) :
    Calls Tryz.prog 14 #[.slice a n cap] w fun e w' => ∃ v, e = .returned (.tuple #[v, .int .i64 0]) ∧ GridR w' v (gq (turned R m)) ∧ Below w.heap.size w w' := by
  obtain ⟨i0, hi, hz0, hz1, hz2⟩ := info_parts info_rows
  obtain ⟨hl, hcap, hA⟩ := h.addr
  have hl2 : n = R.length := by rw [hl]; unfold gq; rw [List.length_map]
  have hgr : grows (gq R) := ⟨by rw [← hl]; exact hn, fun r hr => by
    obtain ⟨s, hs, rfl⟩ := List.mem_map.1 hr
    exact ⟨fit_each (fun x hx => by have := hw s hs x hx; omega), by rw [List.length_map, hR s hs]; omega⟩⟩
  have hok : true = gokB (gq R) := by
    symm
    unfold gokB
    rw [List.all_eq_true]
    intro r hr
    obtain ⟨s, hs, rfl⟩ := List.mem_map.1 hr
    rw [← hm, all_qok_qr, List.length_map, hR s hs]
    simp
  have k1 := Lib.hid (g_check true hok h hgr)
  have k2 := Lib.hid (fun (W : World) (r : Below w.heap.size w W) => by have := g_columns (h.below r) hn; rw [← hm] at this; exact this)
  have k3 := Lib.hid (fun (k : Nat) (hk : k < m) (W : World) (r : Below w.heap.size w W) => by have := g_column (c := k) (h.below r) hn (fun r hr => by obtain ⟨s, hs, rfl⟩ := List.mem_map.1 hr; rw [List.length_map, hR s hs]; exact hk) (by omega); rw [colq_gq (fun r hr => by rw [hR r hr]; exact hk)] at this; exact this)
  have k4 := Lib.hid (fun (W : World) => r_of (w := W) (s := (qr 1).1) (L := (qr 1).2.1) (D := (qr 1).2.2) 1 (qr_can 1) (by omega) (by omega))
  have k5 := Lib.hid (fun (k : Nat) (hk : k < m) (W : World) (v : Option Addr) (nv cv : Nat) (p o : Option Addr) (c d : Nat) (hv : VReads W (.slice v nv cv) ((tcol R k).map qr)) (g1 : Reads W (.slice p (qr 1).2.1.length c) (qr 1).2.1) (g2 : Reads W (.slice o (qr 1).2.2.length d) (qr 1).2.2) => by
    have hq : qrows ((tcol R k).map qr) := ⟨fit_each (fun x hx => by
      unfold tcol at hx
      obtain ⟨r, hr, rfl⟩ := List.mem_map.1 hx
      have := hw r hr (r.getD k 0) (at_mem (by rw [hR r hr]; exact hk))
      omega), by rw [List.length_map]; unfold tcol; rw [List.length_map]; omega⟩
    have := v_scale_ow2 hv hq (qr_can 1).is (by have := (fit_qr (X := 1) (by decide +kernel)).2.1; omega) (by have := (fit_qr (X := 1) (by decide +kernel)).2.2; omega) g1 g2
    rw [scl_one_qr] at this
    exact this)
  have HR := Lib.hid (show n = R.length from hl2)
  have HTL := Lib.hid (fun (k : Nat) => show ((tcol R k).map qr).length = n by unfold tcol; rw [List.length_map, List.length_map, hl2])
  obtain ⟨Y, hY⟩ : ∃ Y : Nat → List Qr, Y = fun k => (tcol R k).map qr := ⟨_, rfl⟩
  have HY := Lib.hid hY
  have HT := Lib.hid (show gq (turned R m) = (List.range m).map Y by rw [hY]; unfold gq turned; rw [List.map_map]; rfl)
  generalize gq (turned R m) = G at *
  obtain ⟨q1, hq1⟩ : ∃ q, q = qr 1 := ⟨_, rfl⟩
  rw [← hq1] at k4 k5
  clear h hm hR hw hl hl2 hcap hA hgr hok hY hq1
  have k0 : ((0 : Nat) : Int) = 0 := rfl
  go_enter Tryz.func14, Tryz.ntmps14
  go_wp2_with fail
  refine k1.out.mono ?_
  rintro e w1 ⟨rfl, rr⟩
  have B1 := Lib.hid rr
  clear rr k1
  have hs1 : w.heap.size ≤ w1.heap.size := B1.out.size
  go_wp2_with (first
    | (go_at_call 44; refine (k2.out _ B1.out).mono ?_; rintro e w3 ⟨rfl, rfl⟩)
    | (at_make; go_loud (refine wpList_make_rows hi hz0 hz1 hz2 _ rfl _ _ rfl (w.heap.size) .i64 .i64 m rfl rfl (by omega) (by omega) ?_); intro w4 hV4 hgrow4; have HV4 := Lib.hid hV4; have HB4 := Lib.hid (show Below w.heap.size w w4 from B1.out.grown hgrow4 B1.out.size (fun _ e => by cases e)); clear hV4 hgrow4)
    | fail)
  clear B1 k2 hi hz0 hz1 hz2 i0
  obtain ⟨D, hD⟩ : ∃ D, D = w1.heap.size := ⟨_, rfl⟩
  rw [← hD] at HV4 ⊢
  clear hD hs1
  go_loopg [14] m (fun g s wr => ∃ (k : Nat) (gs : List (Value × List Zr)), k + g = m ∧ s = .int .i64 (k : Int) ∧ Hid (gs.map (fun g => g.2.map (·.1)) = (List.range k).map Y ++ List.replicate (m - k) []) ∧ Hid (GFO wr w.heap.size (.slice (some ⟨D, 0, none⟩) m m) gs) ∧ Hid (Below w.heap.size w wr))
  case atStart => exact ⟨0, _, by omega, rfl, Lib.hid (by simp), HV4, HB4⟩
  case round =>
    clear HV4 HB4 k0
    obtain ⟨k, gs, hk, rfl, HM, HV, HB⟩ := hrel
    have HL := Lib.hid (turn_len (by omega) HM.out)
    by_cases hlt : k < m
    · have n0 : (0 : Int) ≤ (k : Int) := by omega
      have l0 : (k : Int) < (m : Int) := by omega
      have w0 : IntKind.i64.wrap ((k : Int) + 1) = ((k + 1 : Nat) : Int) := IntWalk.i64_in _ (by omega)
      have K3 := Lib.hid (k3.out k hlt wr HB.out)
      have K5 := Lib.hid (k5.out k hlt)
      have TL := Lib.hid (HTL.out k)
      have TY := Lib.hid (show Y k = (tcol R k).map qr by rw [HY.out])
      generalize (tcol R k).map qr = tc at *
      clear k3 k5 HTL HY HR
      go_wp2_with fail
      refine K3.out.mono ?_
      rintro e w5 ⟨v5, rfl, hf, rr⟩
      have HV5 := Lib.hid (HV.out.below rr)
      have HB5 := Lib.hid (then_below HB.out rr)
      obtain ⟨av, cv, ev⟩ := hf.form
      rw [TL.out] at ev
      subst ev
      have HF := Lib.hid hf.reads
      clear rr hf K3 HV HB
      go_wp2_with fail
      refine (k4.out _).mono ?_
      rintro e w6 ⟨p1, e1, o1, f1, rfl, g1, g2, rr⟩
      have HV6 := Lib.hid (HV5.out.below rr)
      have HB6 := Lib.hid (then_below HB5.out rr)
      have HF6 := Lib.hid (HF.out.below rr)
      have G := Lib.hid (And.intro g1 g2)
      clear rr g1 g2 HV5 HB5 HF
      go_wp2_with fail
      refine (K5.out _ _ _ _ _ _ _ _ HF6.out G.out.1 G.out.2).mono ?_
      rintro e w7 ⟨v7, zs, rfl, hf, hm7, rr⟩
      have HV7 := Lib.hid (HV6.out.below rr)
      have HB7 := Lib.hid (then_below HB6.out rr)
      have hsz : w.heap.size ≤ w6.heap.size + 1 := by have := HB6.out.size; omega
      have HF7 := Lib.hid (hf.mono hsz)
      obtain ⟨av7, cv7, ev7⟩ := hf.form
      have hzl : zs.length = n := by rw [← TL.out, ← hm7, List.length_map]
      rw [hzl] at ev7
      subst ev7
      have HM7 := Lib.hid hm7
      obtain ⟨yk, -, y0, f0⟩ := GFO.at HV7.out HL.out hlt
      have HSZ := Lib.hid (HV7.out.lt (g := D) rfl)
      clear rr hf hm7 hsz hzl HV6 HB6 HF6 G K5
      go_wp2_with fail
      go_roundg (m - (k + 1))
      case measure => omega
      case rel =>
        exact ⟨k + 1, gs.set k (.slice av7 n cv7, zs), by omega, by first | rfl | simp, Lib.hid (turn_fill (by omega) HM.out (by rw [TY.out]; exact HM7.out)), Lib.hid (HV7.out.put HL.out HF7.out), Lib.hid (HB7.out.setCell (p := ⟨D, k, none⟩) (by exact HSZ.out.1) _)⟩
    · obtain rfl : k = m := by omega
      have l0 : ¬ (k : Int) < (k : Int) := by omega
      have HM2 := Lib.hid (show gs.map (fun g => g.2.map (·.1)) = G by rw [HM.out, HT.out]; simp)
      clear k3 k5
      go_wp2_with fail
      go_ret2
      exact ⟨_, rfl, by have := HV.out.reads; rw [HM2.out] at this; exact this, HB.out⟩
end
end Go.Proofs.YtgmbaamfobhceaaGreat
