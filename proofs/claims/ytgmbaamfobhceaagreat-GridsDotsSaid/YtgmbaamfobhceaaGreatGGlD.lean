/- GridsDots: what a grid makes of one list, together with another one. -/
import Derived.Test.YtgmbaamfobhceaaGreatGGlV
import Derived.Test.YtgmbaamfobhceaaGreatGRatSame
set_option linter.unusedSimpArgs false
set_option linter.unusedVariables false
set_option maxHeartbeats 8000000
namespace Go.Proofs.YtgmbaamfobhceaaGreat
open Go Go.Proofs Go.RowKit Go.Shelf Nu
set_option linter.unusedVariables false
set_option linter.unusedSimpArgs false
set_option maxRecDepth 100000
attribute [local go_sem] Oper.semAt_some
def gws : List (List Rat) → Nat
 | [] => 0
 | r :: R => wts r + gws R
theorem wts_tcol {R : List (List Rat)} {k : Nat} (h : ∀ r ∈ R, k < r.length) : wts (tcol R k) ≤ gws R := by
 induction R with
 | nil => exact Nat.le_refl _
 | cons r R ih =>
  have h1 := ih fun s hs => h s (by simp [hs])
  have h2 := wt_mem (l := r) (x := r.getD k 0) (by rw [List.getD_eq_getElem?_getD, List.getElem?_eq_getElem (h r (by simp))]; exact List.getElem_mem _)
  show wt (r.getD k 0) + wts (tcol R k) ≤ wts r + gws R
  omega
theorem gws_le {rows : List (List Qr)} {M : Nat} (hM : M ≤ 8000) (hb : ∀ r ∈ rows, ∀ q ∈ r, Big q) (hk : ∀ r ∈ rows, r.all qok = true) (hg : lsum rsize rows ≤ M) : gws (gval rows) ≤ lsum rsize rows := by
 induction rows with
 | nil => exact Nat.le_refl _
 | cons r rows ih =>
  have e : lsum rsize (r :: rows) = rsize r + lsum rsize rows := rfl
  rw [e] at hg ⊢
  have h1 := ih (fun s hs => hb s (by simp [hs])) (fun s hs => hk s (by simp [hs])) (by omega)
  have h2 := (row_ok (qs := r) (M := rsize r) (by omega) (hb r (by simp)) (Nat.le_refl _) (hk r (by simp))).2
  show wts (r.map qval) + gws (gval rows) ≤ _
  omega
theorem gws_mem {R : List (List Rat)} {r : List Rat} (h : r ∈ R) : wts r ≤ gws R := by
 induction R with
 | nil => cases h
 | cons s R ih =>
  show wts r ≤ wts s + gws R
  rcases List.mem_cons.1 h with rfl | h
  · omega
  · have := ih h; omega
theorem turned_len (R : List (List Rat)) (m : Nat) : (turned R m).length = m := by simp [turned]
theorem turned_mem {R : List (List Rat)} {m : Nat} {r : List Rat} (h : r ∈ turned R m) : ∃ k, k < m ∧ r = tcol R k := by
 unfold turned at h
 obtain ⟨k, hk, rfl⟩ := List.mem_map.1 h
 exact ⟨k, List.mem_range.1 hk, rfl⟩
theorem ldots_all {w : World} {a a1 a2 : Option Addr} {n c n1 c1 n2 c2 : Nat} {rows : List (List Qr)} {xs ys : List Qr} (h : GridR w (.slice a n c) rows) (hb : GBig rows) (hx : VReads w (.slice a1 n1 c1) xs) (hn1 : n1 ≤ 70368744177664) (hxb : ∀ q ∈ xs, Big q) (hy : VReads w (.slice a2 n2 c2) ys) (hn2 : n2 ≤ 70368744177664) (hyb : ∀ q ∈ ys, Big q) :
  Calls Tryz.prog 8 #[.slice a n c, .slice a1 n1 c1, .slice a2 n2 c2] w fun e w' => e = .returned (.bool true) ∧ Below w.heap.size w w' := by
 have hl := h.addr.1
 have hxl := hx.addr.1
 have hyl := hy.addr.1
 have HH := Lib.hid (And.intro h (And.intro hx hy))
 have HBG := Lib.hid (And.intro hb (And.intro hxb hyb))
 obtain ⟨G, hG⟩ : ∃ G, G = ggreat rows := ⟨_, rfl⟩
 have kg := Lib.hid (fun (W : World) (r : Below w.heap.size w W) => gl_great (h.below r) hb G hG)
 have ks1 := Lib.hid (fun (W : World) (r : Below w.heap.size w W) => ratsSize_any (hx.below r) hxb hn1)
 have ks2 := Lib.hid (fun (W : World) (r : Below w.heap.size w W) => ratsSize_any (hy.below r) hyb hn2)
 have ka := Lib.hid (fun (W : World) => gl_alive W)
 have b1 := ssz_le n1 xs hxb (by omega)
 have b2 := ssz_le n2 ys hyb (by omega)
 obtain ⟨s1, hs1⟩ : ∃ s, s = ssz n1 xs := ⟨_, rfl⟩
 obtain ⟨s2, hs2⟩ : ∃ s, s = ssz n2 ys := ⟨_, rfl⟩
 rw [← hs1] at ks1 b1
 rw [← hs2] at ks2 b2
 have w0 : IntKind.i64.wrap ((s1 : Int) + (s2 : Int)) = ((s1 + s2 : Nat) : Int) := IntWalk.i64_in _ (by omega)
 have HS := Lib.hid (And.intro hs1 (And.intro hs2 (And.intro hG (And.intro hl (And.intro hxl hyl)))))
 have BB := Lib.hid (And.intro b1 (And.intro b2 (And.intro hn1 hn2)))
 clear h hb hx hxb hy hyb hs1 hs2 hG hl hxl hyl b1 b2 hn1 hn2
 go_enter Tryz.func8, Tryz.ntmps8
 go_wp2_with fail
 refine (ka.out _).mono ?_
 rintro e w1 ⟨rfl, rr⟩
 have B1 := Lib.hid rr
 clear rr
 go_wp2_with fail
 refine (kg.out _ B1.out).mono ?_
 rintro e w2 ⟨rfl, rr⟩
 have B2 := Lib.hid (then_below B1.out rr)
 clear rr B1 kg
 cases G with
 | true => as_aux_lemma =>
  go_wp2_with fail
  refine (ka.out _).mono ?_
  rintro e wz ⟨rfl, rr⟩
  have BZ := Lib.hid (then_below B2.out rr)
  clear rr
  go_wp2_with fail
  go_ret
  exact ⟨rfl, BZ.out⟩
 | false =>
  by_cases hn0 : n = 0
  · as_aux_lemma =>
    have i1 : ((n : Int) == 0) = true := by rw [hn0]; rfl
    clear hn0
    go_wp2_with fail
    refine (ka.out _).mono ?_
    rintro e wz ⟨rfl, rr⟩
    have BZ := Lib.hid (then_below B2.out rr)
    clear rr
    go_wp2_with fail
    go_ret
    exact ⟨rfl, BZ.out⟩
  have i1 : ((n : Int) == 0) = false := beq_eq_false_iff_ne.2 (by omega)
  have hn0' : 0 < n := by omega
  clear hn0
  by_cases h10 : 10 < n1
  · as_aux_lemma =>
    have i2 : (10 : Int) < (n1 : Int) := by omega
    have i2' : decide ((10 : Int) < (n1 : Int)) = true := decide_eq_true i2
    go_wp2_with fail
    refine (ka.out _).mono ?_
    rintro e wz ⟨rfl, rr⟩
    have BZ := Lib.hid (then_below B2.out rr)
    clear rr
    go_wp2_with fail
    go_ret
    exact ⟨rfl, BZ.out⟩
  have i2 : ¬ (10 : Int) < (n1 : Int) := by omega
  have i2' : decide ((10 : Int) < (n1 : Int)) = false := decide_eq_false i2
  by_cases h20 : 10 < n2
  · as_aux_lemma =>
    have i3 : (10 : Int) < (n2 : Int) := by omega
    have i3' : decide ((10 : Int) < (n2 : Int)) = true := decide_eq_true i3
    go_wp2_with fail
    refine (ka.out _).mono ?_
    rintro e wz ⟨rfl, rr⟩
    have BZ := Lib.hid (then_below B2.out rr)
    clear rr
    go_wp2_with fail
    go_ret
    exact ⟨rfl, BZ.out⟩
  have i3 : ¬ (10 : Int) < (n2 : Int) := by omega
  have i3' : decide ((10 : Int) < (n2 : Int)) = false := decide_eq_false i3
  go_wp2_with fail
  refine (ks1.out _ B2.out).mono ?_
  rintro e w3 ⟨rfl, rr⟩
  have B3 := Lib.hid (then_below B2.out rr)
  clear rr B2 ks1
  go_wp2_with fail
  refine (ks2.out _ B3.out).mono ?_
  rintro e w4 ⟨rfl, rr⟩
  have B4 := Lib.hid (then_below B3.out rr)
  clear rr B3 ks2
  by_cases h100 : 100 < s1 + s2
  · as_aux_lemma =>
    have i4 : (100 : Int) < ((s1 + s2 : Nat) : Int) := by omega
    have i4' : decide ((100 : Int) < ((s1 + s2 : Nat) : Int)) = true := decide_eq_true i4
    have i4'' : (100 : Int) < (s1 : Int) + (s2 : Int) := by omega
    go_wp2_with fail
    refine (ka.out _).mono ?_
    rintro e wz ⟨rfl, rr⟩
    have BZ := Lib.hid (then_below B4.out rr)
    clear rr
    go_wp2_with fail
    go_ret
    exact ⟨rfl, BZ.out⟩
  have i4 : ¬ (100 : Int) < ((s1 + s2 : Nat) : Int) := by omega
  have i4' : decide ((100 : Int) < ((s1 + s2 : Nat) : Int)) = false := decide_eq_false i4
  have i4'' : ¬ (100 : Int) < (s1 : Int) + (s2 : Int) := by omega
  obtain ⟨r0, hr0⟩ : ∃ r0, rows[0]? = some r0 := ⟨_, List.getElem?_eq_getElem (by have := HS.out.2.2.2.1; omega)⟩
  obtain ⟨gb, go, va, vc, rfl, hgb, hgc, -⟩ := HH.out.1.row hr0
  have hK : cols rows = r0.length := by
    unfold cols
    cases hrw : rows with
    | nil => rw [hrw] at hr0; simp at hr0
    | cons x t => rw [hrw] at hr0; simp at hr0; subst hr0; rfl
  obtain ⟨K, hKK⟩ : ∃ K, K = r0.length := ⟨_, rfl⟩
  rw [← hKK] at hgc hK
  have g0 := (B4.out.cell (p := ⟨gb, go + 0, none⟩) hgb).trans hgc
  rw [Nat.add_zero] at g0
  have HK := Lib.hid hK
  have j1 : ¬ (n : Int) ≤ 0 := by omega
  have j2 : (0 : Int) < (n : Int) := by omega
  clear hr0 hgb hgc hK hKK
  by_cases hk0 : K = 0
  · as_aux_lemma =>
    have i5 : ((K : Int) == 0) = true := by rw [hk0]; rfl
    clear hk0
    go_wp2_with fail
    refine (ka.out _).mono ?_
    rintro e wz ⟨rfl, rr⟩
    have BZ := Lib.hid (then_below B4.out rr)
    clear rr
    go_wp2_with fail
    go_ret
    exact ⟨rfl, BZ.out⟩
  have i5 : ((K : Int) == 0) = false := beq_eq_false_iff_ne.2 (by omega)
  obtain ⟨hs1, hs2, hG, hl, hxl, hyl⟩ := HS.out
  obtain ⟨hb, hxb, hyb⟩ := HBG.out
  obtain ⟨h, hx, hy⟩ := HH.out
  obtain ⟨hr8, hg, hc8⟩ := ggreat_no hG.symm
  have hq : grows rows := grows_small (by omega) hb hg
  have hxg : rsize xs ≤ 100 := by unfold rsize; rw [← hxl, ← hs1]; omega
  have hyg : rsize ys ≤ 100 := by unfold rsize; rw [← hyl, ← hs2]; omega
  have hxq : qrows xs := qrows_small (M := 100) (by omega) hxb hxg
  have hyq : qrows ys := qrows_small (M := 100) (by omega) hyb hyg
  have hX : xs.all qok = true → xs = (xs.map qval).map qr ∧ wts (xs.map qval) ≤ 100 := fun e => row_ok (by omega) hxb hxg e
  have hY : ys.all qok = true → ys = (ys.map qval).map qr ∧ wts (ys.map qval) ≤ 100 := fun e => row_ok (by omega) hyb hyg e
  have hR : gokB rows = true → rows = gq (gval rows) ∧ (∀ r ∈ gval rows, r.length = cols rows) ∧ gws (gval rows) ≤ 300 := fun e => by
    obtain ⟨r1, r2, _⟩ := grid_ok (M := 300) (by omega) hb hg e
    have h3 := lsz_small rsize (by omega) hg
    have h4 := gws_le (rows := rows) (M := 300) (by omega) (fun r hr => (hb.2 r hr).2) (fun r hr => by
      have := List.all_eq_true.1 (show rows.all _ = true from e) r hr
      rw [Bool.and_eq_true] at this; exact this.2) (by omega)
    exact ⟨r1, r2, by omega⟩
  obtain ⟨X, hXe⟩ : ∃ X, X = xs.map qval := ⟨_, rfl⟩
  obtain ⟨Y, hYe⟩ : ∃ Y, Y = ys.map qval := ⟨_, rfl⟩
  obtain ⟨R, hRe⟩ : ∃ R, R = gval rows := ⟨_, rfl⟩
  have hRl : R.length = n := by rw [hRe, gval_len, hl]
  rw [← hXe] at hX
  rw [← hYe] at hY
  rw [← hRe] at hR
  have kt := Lib.hid (fun (W : World) (r : Below w.heap.size w W) => g_times_any (R := R) (X := X) (h.below r) (hx.below r) hq hxq (by omega) (fun e => ⟨(hR e).1, (hR e).2.1⟩) (fun e => (hX e).1) (fun e1 e2 => ⟨fun r hr => by have := gws_mem hr; have := (hR e1).2.2; have := (hX e2).2; omega, by have := (hX e2).2; omega⟩))
  have hk8 : K ≤ 8 := by rw [← HK.out]; exact cols_le hc8
  have HXY := Lib.hid (And.intro hX (And.intro hY hR))
  cases hgk : gokB rows with
  | false => as_aux_lemma =>
    have k5 := Lib.hid (fun (W : World) (r : Below w.heap.size w W) => g_turn_no (h.below r) hq hgk)
    have k7 := Lib.hid (fun (W : World) (r : Below w.heap.size w W) => g_times_any (rows := []) (R := []) (X := Y) (a := none) (n := 0) (cap := 0) ⟨none, 0, rfl, Nat.le_refl _, fun h => absurd h (by simp)⟩ (hy.below r) ⟨by simp, by simp⟩ hyq (by omega) (fun _ => ⟨rfl, by simp⟩) (fun e => (hY e).1) (fun _ e2 => ⟨by simp, by have := (hY e2).2; omega⟩))
    clear h hx hy hb hxb hyb hs1 hs2 hG hl hxl hyl hr8 hg hc8 hq hxg hyg hxq hyq hX hY hR hXe hYe hRe hRl hgk hk8 hk0
    go_wp2_with fail
    refine (k5.out _ B4.out).mono ?_
    rintro e w5 ⟨rfl, rr⟩
    have B5 := Lib.hid (then_below B4.out rr)
    clear rr B4 k5 g0
    go_wp2_with fail
    refine (kt.out _ B5.out).mono ?_
    rintro e w6 ⟨ta, tn, tc, er1, rfl, rr, -⟩
    have B6 := Lib.hid (then_below B5.out rr)
    clear rr B5 kt
    go_wp2_with fail
    refine (k7.out _ B6.out).mono ?_
    rintro e w7 ⟨ua, un, uc, er2, rfl, rr, -⟩
    have B7 := Lib.hid (then_below B6.out rr)
    clear rr B6 k7
    go_wp2_with fail
    go_ret
    exact ⟨rfl, B7.out⟩
  | true => as_aux_lemma =>
    obtain ⟨hr1, hr2, hr3⟩ := hR hgk
    have hK2 : K = cols (gq R) := by rw [← hr1]; exact HK.out.symm
    have hR2 : ∀ r ∈ R, r.length = K := fun r hr => by rw [hr2 r hr]; exact HK.out
    have k5 := Lib.hid (fun (W : World) (r : Below w.heap.size w W) => g_turn (m := K) (R := R) (hr1 ▸ h.below r) (by omega) hK2 (by omega) hR2 (fun s hs x hx => by have := gws_mem hs; have := wt_mem hx; omega))
    have ht1 : ∀ r ∈ turned R K, r.length = n := fun r hr => by
      obtain ⟨k, hk, rfl⟩ := turned_mem hr
      unfold tcol; rw [List.length_map, hRl]
    have ht2 : ∀ r ∈ turned R K, wts r ≤ 300 := fun r hr => by
      obtain ⟨k, hk, rfl⟩ := turned_mem hr
      exact Nat.le_trans (wts_tcol (fun s hs => by rw [hR2 s hs]; exact hk)) hr3
    have hc2 : cols (gq (turned R K)) = n := cols_gq (by rw [turned_len]; omega) ht1
    have k7 := Lib.hid (fun (W : World) (r : Below w.heap.size w W) {ta : Option Addr} {tc : Nat} (hg : GridR W (.slice ta K tc) (gq (turned R K))) => g_times_any (R := turned R K) (X := Y) hg (hy.below r) (grows_each (by rw [turned_len]; omega) ht1 (by omega) (fun r hr x hx => by have := ht2 r hr; have := wt_mem hx; omega)) hyq (by omega) (fun _ => ⟨rfl, fun r hr => by rw [ht1 r hr, hc2]⟩) (fun e => (hY e).1) (fun _ e2 => ⟨fun r hr => by have := ht2 r hr; have := (hY e2).2; omega, by have := (hY e2).2; omega⟩))
    have HE := Lib.hid (fun (hxk : n1 = K) (hyk : n2 = n) (e1 : xs.all qok = true) (e2 : ys.all qok = true) => show dot (times R X) Y = dot X (times (turned R K) Y) from dots_turned R K X Y hR2 (by rw [hXe, List.length_map, ← hxl, hxk]) (by rw [hYe, List.length_map, ← hyl, hyk, hRl]))
    have HT1 := Lib.hid (fun (e1 : xs.all qok = true) => show wts (times R X) ≤ 8 * 401 from by
      have h1 := wts_all (l := times R X) (k := 401) (wt_times (fun r hr => by have := gws_mem hr; have := (hX e1).2; omega))
      rw [times_len, hRl] at h1
      have : n * 401 ≤ 8 * 401 := Nat.mul_le_mul_right _ (by omega)
      omega)
    have HT2 := Lib.hid (fun (e2 : ys.all qok = true) => show wts (times (turned R K) Y) ≤ 8 * 401 from by
      have h1 := wts_all (l := times (turned R K) Y) (k := 401) (wt_times (fun r hr => by have := ht2 r hr; have := (hY e2).2; omega))
      rw [times_len, turned_len] at h1
      have : K * 401 ≤ 8 * 401 := Nat.mul_le_mul_right _ hk8
      omega)
    have HC2 := Lib.hid hc2
    clear h hx hy hb hxb hyb hs1 hs2 hG hl hxl hyl hr8 hg hc8 hq hxg hyg hxq hyq hX hY hR hXe hYe hRe hRl hgk hk8 hr1 hr2 hr3 hK2 hR2 ht1 ht2 hc2
    go_wp2_with fail
    refine (k5.out _ B4.out).mono ?_
    rintro e w5 ⟨tv, rfl, hgt, rr⟩
    have B5 := Lib.hid (then_below B4.out rr)
    obtain ⟨ta, tc, etv, -⟩ := id hgt
    subst etv
    have hgl : (gq (turned R K)).length = K := by unfold gq; rw [List.length_map, turned_len]
    rw [hgl] at hgt ⊢
    have GT := Lib.hid hgt
    clear rr B4 k5 g0 hgt hgl
    go_wp2_with fail
    refine (kt.out _ B5.out).mono ?_
    rintro e w6 ⟨xa, xn, xc, er1, rfl, rr, hxo⟩
    have B6 := Lib.hid (then_below B5.out rr)
    have GT6 := Lib.hid (GT.out.below rr)
    have HXO := Lib.hid hxo
    clear rr B5 kt GT hxo
    go_wp2_with fail
    refine (k7.out _ B6.out GT6.out).mono ?_
    rintro e w7 ⟨ya, yn, yc, er2, rfl, rr, hyo⟩
    have B7 := Lib.hid (then_below B6.out rr)
    have HYO := Lib.hid hyo
    have R67 := Lib.hid rr
    clear rr B6 k7 GT6 hyo
    by_cases he1 : er1 = 0
    · by_cases he2 : er2 = 0
      · as_aux_lemma =>
        have i6 : (er1 != 0) = false := by rw [he1]; rfl
        have i7 : (er2 != 0) = false := by rw [he2]; rfl
        obtain ⟨-, rfl, -, ex, hnk, hxv⟩ : er1 = 0 ∧ xn = n ∧ gokB rows = true ∧ xs.all qok = true ∧ (0 < n → n1 = cols rows) ∧ VReads w6 (.slice xa n xc) ((times R X).map qr) := by
         rcases HXO.out with h | h
         · exact h
         · omega
        obtain ⟨-, rfl, -, ey, hnk2, hyv⟩ : er2 = 0 ∧ yn = K ∧ gokB (gq (turned R K)) = true ∧ ys.all qok = true ∧ (0 < K → n2 = cols (gq (turned R K))) ∧ VReads w7 (.slice ya K yc) ((times (turned R K) Y).map qr) := by
         rcases HYO.out with h | h
         · exact h
         · omega
        have hn1k : n1 = yn := by rw [hnk hn0']; exact HK.out
        have hn2n : n2 = xn := by rw [hnk2 (by omega)]; exact HC2.out
        have hD := HE.out hn1k hn2n ex ey
        have hXq := (HXY.out.1 ex)
        have hYq := (HXY.out.2.1 ey)
        have t1 := HT1.out ex
        have t2 := HT2.out ey
        obtain ⟨-, hx, hy⟩ := HH.out
        rw [hn2n] at hy
        rw [hn1k] at hx
        have kd1 := Lib.hid (fun (W : World) (r : Below w7.heap.size w7 W) => v_dot (xs := times R X) (ys := Y) ((hxv.below R67.out).below r) (hYq.1 ▸ (hy.below B7.out).below r) (by omega))
        have kd2 := Lib.hid (fun (W : World) (r : Below w7.heap.size w7 W) => v_dot (xs := X) (ys := times (turned R yn) Y) (hXq.1 ▸ (hx.below B7.out).below r) (hyv.below r) (by omega))
        rw [← hD] at kd2
        have hwd : wt (dot (times R X) Y) ≤ 9000 := Nat.le_trans (wt_rsum _) (by have := wts_zmul (times R X) Y; omega)
        have fD := fit_qr (X := dot (times R X) Y) (by omega)
        have kq := Lib.hid (fun (W : World) {p1 o1 p2 o2 : Option Addr} {q1 r1 q2 r2 : Nat} (g1 : Reads W (.slice p1 (qr (dot (times R X) Y)).2.1.length q1) (qr (dot (times R X) Y)).2.1) (g2 : Reads W (.slice o1 (qr (dot (times R X) Y)).2.2.length r1) (qr (dot (times R X) Y)).2.2) (g3 : Reads W (.slice p2 (qr (dot (times R X) Y)).2.1.length q2) (qr (dot (times R X) Y)).2.1) (g4 : Reads W (.slice o2 (qr (dot (times R X) Y)).2.2.length r2) (qr (dot (times R X) Y)).2.2) => sameRat_any true (qr_can (dot (times R X) Y)) (qr_can (dot (times R X) Y)) (by simp) (by have := fD.2.1; omega) (by have := fD.2.2; omega) (by have := fD.2.1; omega) (by have := fD.2.2; omega) g1 g2 g3 g4)
        obtain ⟨q, hqe⟩ : ∃ q, q = qr (dot (times R X) Y) := ⟨_, rfl⟩
        rw [← hqe] at kd1 kd2 kq
        clear hD hXq hYq t1 t2 hx hy hwd fD hqe hxv hyv ex ey hnk hnk2 HXO HYO HE HT1 HT2 HXY
        subst hn1k hn2n
        clear he1 he2
        go_wp2_with fail
        refine (kd1.out _ (Below.refl _ _)).mono ?_
        rintro e w8 ⟨p1, d1, p2, d2, rfl, f1, f2, rr⟩
        have B8 := Lib.hid rr
        have F1 := Lib.hid f1
        have F2 := Lib.hid f2
        clear rr f1 f2 kd1
        have al := (Below.refl w8.heap.size w8).alloc (Nat.le_refl _) (.cells #[.bool q.1, .slice p1 q.2.1.length d1, .slice p2 q.2.2.length d2] 44)
        have N1 := Lib.hid (BoxN.new w8 44 #[.bool q.1, .slice p1 q.2.1.length d1, .slice p2 q.2.2.length d2])
        have B9 := Lib.hid (then_below B8.out al)
        have F1' := Lib.hid (F1.out.below al)
        have F2' := Lib.hid (F2.out.below al)
        clear al F1 F2
        go_wp2_with fail
        refine (kd2.out _ B9.out).mono ?_
        rintro e w9 ⟨u1, e1, u2, e2, rfl, f1, f2, rr⟩
        have al := (Below.refl w9.heap.size w9).alloc (Nat.le_refl _) (.cells #[.bool q.1, .slice u1 q.2.1.length e1, .slice u2 q.2.2.length e2] 44)
        have N2 := Lib.hid (BoxN.new w9 44 #[.bool q.1, .slice u1 q.2.1.length e1, .slice u2 q.2.2.length e2])
        have r9 := then_below rr al
        have N1' := Lib.hid (N1.out.under r9)
        have B10 := Lib.hid (then_below B9.out r9)
        have F1 := Lib.hid (F1'.out.below r9)
        have F2 := Lib.hid (F2'.out.below r9)
        have F3 := Lib.hid (f1.below al)
        have F4 := Lib.hid (f2.below al)
        clear rr r9 al f1 f2 kd2 N1 B9 F1' F2'
        have z0 := N1'.out.cell 0 _ rfl
        have z1 := N1'.out.cell 1 _ rfl
        have z2 := N1'.out.cell 2 _ rfl
        have y0 := N2.out.cell 0 _ rfl
        have y1 := N2.out.cell 1 _ rfl
        have y2 := N2.out.cell 2 _ rfl
        go_wp2_with fail
        refine (kq.out _ F1.out F2.out F3.out F4.out).mono ?_
        rintro e w11 ⟨rfl, rr⟩
        have BZ := Lib.hid (then_below (then_below B7.out B10.out) rr)
        clear rr z0 z1 z2 y0 y1 y2
        go_wp2_with fail
        go_ret
        exact ⟨rfl, BZ.out⟩
      · as_aux_lemma =>
        have i6 : (er1 != 0) = false := by rw [he1]; rfl
        have i7 : (er2 != 0) = true := bne_iff_ne.2 he2
        go_wp2_with fail
        go_ret
        exact ⟨rfl, B7.out⟩
    · as_aux_lemma =>
      have i6 : (er1 != 0) = true := bne_iff_ne.2 he1
      go_wp2_with fail
      go_ret
      exact ⟨rfl, B7.out⟩
end Go.Proofs.YtgmbaamfobhceaaGreat
