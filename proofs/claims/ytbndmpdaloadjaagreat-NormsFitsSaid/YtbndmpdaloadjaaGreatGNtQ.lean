/- The document's answer for rows of fractions: may all be; the sum of the products. -/
import Derived.Test.YtbndmpdaloadjaaGreatGNtP
import Derived.Test.YtbndmpdaloadjaaGreatGVecD
import Derived.Test.YtbndmpdaloadjaaGreatGRrWh
set_option linter.unusedSimpArgs false
set_option linter.unusedVariables false
set_option maxHeartbeats 16000000
namespace Go.Proofs.YtbndmpdaloadjaaGreat
open Go Go.Proofs Go.RowKit Go.Shelf Nu
set_option linter.unusedVariables false
set_option linter.unusedSimpArgs false
set_option maxRecDepth 100000

attribute [local go_sem] Oper.semAt_some

theorem Mem.two {w W : World} {bs : List (Nat × TypeId × List Value)} {rs : List (Value × List Nat)} {x y : Value × List Nat} (M : Mem w bs rs W) (e0 : rs[0]? = some x) (e1 : rs[1]? = some y) : Mem w bs [x, y] W :=
 ⟨M.1, M.2.1, M.2.2.1, fun k v l h => by
  match k with
  | 0 => simp at h; exact M.2.2.2 0 v l (e0.trans (by rw [h]))
  | 1 => simp at h; exact M.2.2.2 1 v l (e1.trans (by rw [h]))
  | k + 2 => simp at h⟩
theorem rsum_next {l : List Rat} {k : Nat} {x : Rat} (h : l[k]? = some x) : rsum (l.take k) + x = rsum (l.take (k + 1)) := by
 rw [List.take_add_one, h, rsum_append]
 show _ = rsum (l.take k) + (x + 0)
 grind
theorem wts_take (l : List Rat) (k : Nat) : wts (l.take k) ≤ wts l := by have := wts_take_drop l k; omega
theorem rv_check {w : World} {a : Option Addr} {n cap : Nat} {qs : List Qr} (R : Bool) (hR : R = qs.all qok) (h : VReads w (.slice a n cap) qs) (hq : qrows qs) :
  Calls Tryz.prog 42 #[.slice a n cap] w fun e w' => e = .returned (.bool R) ∧ Below w.heap.size w w' := by
 obtain ⟨hn, hcap, b, off, ha, hc⟩ := h.addr
 have HN := Lib.hid hn
 have HR := Lib.hid hR
 have HQ := Lib.hid hq
 have HC := Lib.hid hc
 have HA := Lib.hid ha
 have hn1 : n ≤ 65536 := hn ▸ hq.2
 clear hn hR hq hc h hcap ha
 have k0 : ((0 : Nat) : Int) = 0 := rfl
 go_enter Tryz.func42, Tryz.ntmps42
 go_wp2
 go_loopg [3] n (fun g s wr => ∃ k : Nat, k + g = n ∧ s = .int .i64 (k : Int) ∧ Hid ((qs.take k).all qok = true) ∧ Hid (Below w.heap.size w wr))
 case atStart => exact ⟨0, by omega, rfl, Lib.hid (by simp), Lib.hid (Below.refl _ _)⟩
 case round =>
  clear k0
  obtain ⟨k, hk, rfl, HS, HB⟩ := hrel
  by_cases hlt : k < n
  · have n0 : (0 : Int) ≤ (k : Int) := by omega
    have l0 : (k : Int) < (n : Int) := by omega
    have w0 : IntKind.i64.wrap ((k : Int) + 1) = ((k + 1 : Nat) : Int) := IntWalk.i64_in _ (by omega)
    obtain ⟨rfl, hbl⟩ := HA.out (by omega)
    obtain ⟨q, hqk⟩ : ∃ q, qs[k]? = some q := ⟨_, List.getElem?_eq_getElem (by have := HN.out; omega)⟩
    have hqat := (HC.out k q hqk).below hbl HB.out
    have hfit := HQ.out.1 q (List.mem_of_getElem? hqk)
    have HK := Lib.hid hqk
    obtain ⟨s, l, d⟩ := q
    obtain ⟨p, c, p', c', h0, h1, h2, g1, g2⟩ := hqat
    dsimp only at h0 h1 h2 g1 g2
    obtain ⟨T, hT⟩ : ∃ T, T = qok (s, l, d) := ⟨_, rfl⟩
    have kc := Lib.hid (show Calls Tryz.prog 67 #[.agg #[.bool s, .slice p l.length c, .slice p' d.length c']] wr fun e w' => e = .returned (.bool T) ∧ Below wr.heap.size wr w' from hT ▸ rr_check (n := s) g1 g2 hfit.1.1 hfit.1.2 (Nat.le_trans hfit.2.1 (by omega)) (Nat.le_trans hfit.2.2 (by omega)))
    have HT := Lib.hid hT
    clear g1 g2 hfit hqk hT HA HC
    go_wp2_with fail
    refine kc.out.mono ?_
    rintro e w1 ⟨rfl, rr⟩
    have HB1 := Lib.hid (then_below HB.out rr)
    clear rr kc h0 h1 h2
    cases T with
    | false =>
     have h0 : R = false := by rw [HR.out]; exact all_no HK.out HT.out.symm
     subst h0
     go_wp2_with fail
     go_ret
     exact ⟨rfl, HB1.out⟩
    | true =>
     have HS2 := Lib.hid (all_next HK.out HS.out HT.out.symm)
     go_wp2_with fail
     go_roundg (n - (k + 1))
     case measure => omega
     case rel => exact ⟨k + 1, by omega, by first | rfl | simp, HS2, HB1⟩
  · have h0 : R = true := by rw [HR.out]; exact all_end HS.out (by have := HN.out; omega)
    have l0 : ¬ (k : Int) < (n : Int) := by omega
    subst h0
    clear HA HC
    go_wp2_with fail
    go_ret
    exact ⟨rfl, HB.out⟩
theorem rv_dot {w : World} {a1 a2 : Option Addr} {n c1 c2 : Nat} {xs ys : List Rat} (h1 : VReads w (.slice a1 n c1) (xs.map qr)) (h2 : VReads w (.slice a2 n c2) (ys.map qr)) (hw : wts xs + wts ys ≤ 8900) :
  Calls Tryz.prog 46 #[.slice a1 n c1, .slice a2 n c2] w fun e w' => ∃ a c a' c', e = .returned (.tuple #[.agg #[.bool (qr (dot xs ys)).1, .slice a (qr (dot xs ys)).2.1.length c, .slice a' (qr (dot xs ys)).2.2.length c'], .int .i64 0]) ∧ Reads w' (.slice a (qr (dot xs ys)).2.1.length c) (qr (dot xs ys)).2.1 ∧ Reads w' (.slice a' (qr (dot xs ys)).2.2.length c') (qr (dot xs ys)).2.2 ∧ Below w.heap.size w w' := by
 have al : Below w.heap.size w (w.alloc (.cells #[.bool false, .slice none 0 0, .slice none 0 0] 32)) := (Below.refl _ _).alloc (Nat.le_refl _) _
 have M : Mem w [(w.heap.size, 32, [.bool false, .slice none 0 0, .slice none 0 0])] [] (w.alloc (.cells #[.bool false, .slice none 0 0, .slice none 0 0] 32)) := (Mem.start w).new _ _
 have hx : xs.length = n := by have := h1.addr.1; simpa using this.symm
 have hy : ys.length = n := by have := h2.addr.1; simpa using this.symm
 have l1 := wts_len xs
 have l2 := wts_len ys
 have fx := fit_qrs (xs := xs) (by omega)
 have fy := fit_qrs (xs := ys) (by omega)
 have k1 := Lib.hid (fun (W : World) (r : Below w.heap.size w W) => rv_check true (by rw [all_qok_qr]) (h1.below r) ⟨fx, by simp; omega⟩)
 have k2 := Lib.hid (fun (W : World) (r : Below w.heap.size w W) => rv_check true (by rw [all_qok_qr]) (h2.below r) ⟨fy, by simp; omega⟩)
 have hzl : (zmul xs ys).length = n := by simp [zmul, hx, hy]
 have hzw := wts_zmul xs ys
 obtain ⟨-, -, bx, ox, hA1, hC1⟩ := h1.addr
 obtain ⟨-, -, by', oy, hA2, hC2⟩ := h2.addr
 have HA1 := Lib.hid hA1
 have HA2 := Lib.hid hA2
 have HC1 := Lib.hid hC1
 have HC2 := Lib.hid hC2
 have HL := Lib.hid (show xs.length = n ∧ ys.length = n ∧ (zmul xs ys).length = n ∧ wts (zmul xs ys) ≤ 8900 ∧ wts xs ≤ 8900 ∧ wts ys ≤ 8900 from ⟨hx, hy, hzl, by omega, by omega, by omega⟩)
 have hn9 : n ≤ 9000 := by omega
 have HDD := Lib.hid (show dot xs ys = rsum (zmul xs ys) from rfl)
 have ko := Lib.hid (fun (W : World) => rr_of (w := W) 0 (qr_can ((0 : Int) : Rat)) (by omega) (by omega))
 have HQ0 := Lib.hid (show qr ((0 : Int) : Rat) = qr (rsum ((zmul xs ys).take 0)) from rfl)
 have enn : ((n : Int) != (n : Int)) = false := by simp
 generalize qr ((0 : Int) : Rat) = q0 at *
 generalize hD : dot xs ys = D at *
 clear h1 h2 hw hx hy l1 l2 fx fy hzl hzw hA1 hA2 hC1 hC2 hD
 go_enter Tryz.func46, Tryz.ntmps46
 go_wp2_with fail
 refine (k1.out _ M.below).mono ?_
 rintro e w1 ⟨rfl, rr⟩
 have M' := M.up rr
 clear M rr k1
 have M := M'; clear M'
 go_wp2_with fail
 refine (k2.out _ M.below).mono ?_
 rintro e w2 ⟨rfl, rr⟩
 have M' := M.up rr
 clear M rr k2 al
 have M := M'; clear M'
 go_wp2_with fail
 refine (ko.out _).mono ?_
 rintro e w3 ⟨a, c, a', c', rfl, g, g', rr⟩
 have M' := (((M.up rr).add g).add g').new 32 [.bool q0.1, .slice a q0.2.1.length c, .slice a' q0.2.2.length c']
 have M0 := Lib.hid M'
 clear M M' g g' rr ko
 have k0 : ((0 : Nat) : Int) = 0 := rfl
 go_wp2_with fail
 obtain ⟨b6, hb6⟩ : ∃ b, b = w3.heap.size := ⟨_, rfl⟩
 simp only [← hb6] at M0 ⊢
 clear hb6
 go_loopg [7] n (fun g s wr => ∃ (k : Nat) (a : Option Addr) (c : Nat) (a' : Option Addr) (c' : Nat) (q : Qr), k + g = n ∧ s = .int .i64 (k : Int) ∧ Hid (q = qr (rsum ((zmul xs ys).take k))) ∧ Hid (Mem w [(b6, 32, [.bool q.1, .slice a q.2.1.length c, .slice a' q.2.2.length c']), (w.heap.size, 32, [.bool false, .slice none 0 0, .slice none 0 0])] [(.slice a' q.2.2.length c', q.2.2), (.slice a q.2.1.length c, q.2.1)] wr))
 case atStart => exact ⟨0, a, c, a', c', q0, by omega, rfl, HQ0, M0⟩
 case round =>
  clear k0 M0 HQ0
  obtain ⟨k, a, c, a', c', q, hk, rfl, HQK, HM⟩ := hrel
  by_cases hlt : k < n
  · have n0 : (0 : Int) ≤ (k : Int) := by omega
    have l0 : (k : Int) < (n : Int) := by omega
    have w0 : IntKind.i64.wrap ((k : Int) + 1) = ((k + 1 : Nat) : Int) := IntWalk.i64_in _ (by omega)
    obtain ⟨rfl, hbl⟩ := HA1.out (by omega)
    obtain ⟨rfl, hbl2⟩ := HA2.out (by omega)
    obtain ⟨X, hX⟩ : ∃ X, xs[k]? = some X := ⟨_, List.getElem?_eq_getElem (by have := HL.out; omega)⟩
    obtain ⟨Y, hY⟩ : ∃ Y, ys[k]? = some Y := ⟨_, List.getElem?_eq_getElem (by have := HL.out; omega)⟩
    have hz : (zmul xs ys)[k]? = some (X * Y) := by unfold zmul; rw [List.getElem?_zipWith, hX, hY]
    have hxat := HC1.out k (qr X) (by rw [List.getElem?_map, hX]; rfl)
    have hyat := HC2.out k (qr Y) (by rw [List.getElem?_map, hY]; rfl)
    have hnext := rsum_next hz
    have wX : wt X ≤ 8900 := Nat.le_trans (wt_mem (List.mem_of_getElem? hX)) HL.out.2.2.2.2.1
    have wY : wt Y ≤ 8900 := Nat.le_trans (wt_mem (List.mem_of_getElem? hY)) HL.out.2.2.2.2.2
    have wZ : wt (X * Y) ≤ 8900 := Nat.le_trans (wt_mem (List.mem_of_getElem? hz)) HL.out.2.2.2.1
    have wS : wt (rsum ((zmul xs ys).take k)) ≤ 8901 := Nat.le_trans (wt_rsum _) (by have := wts_take (zmul xs ys) k; have := HL.out.2.2.2.1; omega)
    obtain ⟨S', hS'⟩ : ∃ S', S' = rsum ((zmul xs ys).take (k + 1)) := ⟨_, rfl⟩
    rw [← hS'] at hnext
    have HS' := Lib.hid hS'
    clear hS'
    have hqk := HQK.out
    subst hqk
    generalize rsum ((zmul xs ys).take k) = S at *
    have fX := fit_qr (X := X) (by omega)
    have fY := fit_qr (X := Y) (by omega)
    have fZ := fit_qr (X := X * Y) (by omega)
    have fS := fit_qr (X := S) (by omega)
    obtain ⟨p1, e1, o1, f1, u0, u1, u2, gx, gx'⟩ := hxat
    obtain ⟨p2, e2, o2, f2, v0, v1, v2, gy, gy'⟩ := hyat
    have KM := Lib.hid (fun (W : World) (r : Below w.heap.size w W) => rr_mul (qr_can (X * Y)) rfl (qr_can X).is (qr_can Y).is fX.2.1 fX.2.2 fY.2.1 fY.2.2 (gx.below r) (gx'.below r) (gy.below r) (gy'.below r))
    have KA := Lib.hid (fun (W : World) {pa po pb pq : Option Addr} {qa qo qb qq : Nat} (r1 : Reads W (.slice pa (qr S).2.1.length qa) (qr S).2.1) (r2 : Reads W (.slice po (qr S).2.2.length qo) (qr S).2.2) (r3 : Reads W (.slice pb (qr (X * Y)).2.1.length qb) (qr (X * Y)).2.1) (r4 : Reads W (.slice pq (qr (X * Y)).2.2.length qq) (qr (X * Y)).2.2) => rr_add (qr_can S') hnext.symm (qr_can S).is (qr_can (X * Y)).is fS.2.1 fS.2.2 fZ.2.1 fZ.2.2 r1 r2 r3 r4)
    have M := HM.out
    clear gx gx' gy gy' hX hY hz hnext wX wY wZ wS fX fY fZ fS HA1 HA2 HC1 HC2 HM HQK
    generalize qr X = qx at *
    generalize qr Y = qy at *
    generalize qr (X * Y) = qz at *
    generalize qr S = q at *
    obtain ⟨q9, hq9⟩ : ∃ q, q = qr S' := ⟨_, rfl⟩
    simp only [← hq9] at KA
    have HQ9 := Lib.hid (hq9.trans (by rw [HS'.out]))
    clear hq9
    obtain ⟨s1, l1, d1⟩ := qx
    obtain ⟨s2, l2, d2⟩ := qy
    dsimp only at u0 u1 u2 v0 v1 v2
    go_wp2_with fail
    refine region_mem (S := fun W => Below w.heap.size w W) M (by kernel_rfl) ?_
    intro V0 M
    have hS0 := M.below
    refine wpAnyH_take (i := 1) (oi := ⟨_, _, _, _, _, _⟩) (v := .slice (some ⟨bx, ox, none⟩) n c1) rfl (by kernel_rfl) (by kernel_rfl) (by kernel_rfl) (fun _ _ _ h => h) (Or.inl ⟨by rfl, fun W3 hS => by go_simp⟩) hS0 ?_
    try simp only [Act.put, List.setIfInBounds_toArray, List.set_cons_zero, List.set_cons_succ]
    refine wpAnyH_take (i := 2) (oi := ⟨_, _, _, _, _, _⟩) (v := .int .i64 (k : Int)) rfl (by kernel_rfl) (by kernel_rfl) (by kernel_rfl) (fun _ _ _ h => h) (Or.inl ⟨by rfl, fun W3 hS => by go_simp⟩) hS0 ?_
    try simp only [Act.put, List.setIfInBounds_toArray, List.set_cons_zero, List.set_cons_succ]
    refine wpAnyH_take (i := 3) (oi := ⟨_, _, _, _, _, _⟩) (v := .pointer (some ⟨bx, ox + k * 3, none⟩)) rfl (by kernel_rfl) (by kernel_rfl) (by kernel_rfl) (fun _ _ _ h => h) (Or.inl ⟨by rfl, fun W3 hS => by go_simp⟩) hS0 ?_
    try simp only [Act.put, List.setIfInBounds_toArray, List.set_cons_zero, List.set_cons_succ]
    refine wpAnyH_take (i := 4) (oi := ⟨_, _, _, _, _, _⟩) (v := .agg #[.bool s1, .slice p1 l1.length e1, .slice o1 d1.length f1]) rfl (by kernel_rfl) (by kernel_rfl) (by kernel_rfl) (fun _ _ _ h => h) (Or.inl ⟨by rfl, fun W3 hS => by have c0 := (hS.cell (p := ⟨bx, ox + k * 3, none⟩) hbl).trans u0; have c1 := (hS.cell (p := ⟨bx, ox + k * 3 + 1, none⟩) hbl).trans u1; have c2 := (hS.cell (p := ⟨bx, ox + k * 3 + 2, none⟩) hbl).trans u2; go_simp⟩) hS0 ?_
    try simp only [Act.put, List.setIfInBounds_toArray, List.set_cons_zero, List.set_cons_succ]
    refine wpAnyH_take (i := 5) (oi := ⟨_, _, _, _, _, _⟩) (v := .slice (some ⟨by', oy, none⟩) n c2) rfl (by kernel_rfl) (by kernel_rfl) (by kernel_rfl) (fun _ _ _ h => h) (Or.inl ⟨by rfl, fun W3 hS => by go_simp⟩) hS0 ?_
    try simp only [Act.put, List.setIfInBounds_toArray, List.set_cons_zero, List.set_cons_succ]
    refine wpAnyH_take (i := 6) (oi := ⟨_, _, _, _, _, _⟩) (v := .int .i64 (k : Int)) rfl (by kernel_rfl) (by kernel_rfl) (by kernel_rfl) (fun _ _ _ h => h) (Or.inl ⟨by rfl, fun W3 hS => by go_simp⟩) hS0 ?_
    try simp only [Act.put, List.setIfInBounds_toArray, List.set_cons_zero, List.set_cons_succ]
    refine wpAnyH_take (i := 7) (oi := ⟨_, _, _, _, _, _⟩) (v := .pointer (some ⟨by', oy + k * 3, none⟩)) rfl (by kernel_rfl) (by kernel_rfl) (by kernel_rfl) (fun _ _ _ h => h) (Or.inl ⟨by rfl, fun W3 hS => by go_simp⟩) hS0 ?_
    try simp only [Act.put, List.setIfInBounds_toArray, List.set_cons_zero, List.set_cons_succ]
    refine wpAnyH_take (i := 8) (oi := ⟨_, _, _, _, _, _⟩) (v := .agg #[.bool s2, .slice p2 l2.length e2, .slice o2 d2.length f2]) rfl (by kernel_rfl) (by kernel_rfl) (by kernel_rfl) (fun _ _ _ h => h) (Or.inl ⟨by rfl, fun W3 hS => by have c0 := (hS.cell (p := ⟨by', oy + k * 3, none⟩) hbl2).trans v0; have c1 := (hS.cell (p := ⟨by', oy + k * 3 + 1, none⟩) hbl2).trans v1; have c2 := (hS.cell (p := ⟨by', oy + k * 3 + 2, none⟩) hbl2).trans v2; go_simp⟩) hS0 ?_
    try simp only [Act.put, List.setIfInBounds_toArray, List.set_cons_zero, List.set_cons_succ]
    clear hS0 u0 u1 u2 v0 v1 v2
    refine wpAnyH_all (rs := [0, 9]) (by kernel_rfl) (by simp) ?_
    intro i hi
    have hi2 : i = 0 ∨ i = 9 := by simpa using hi
    clear hi
    rcases hi2 with rfl | rfl
    · have z0_0 := M.cell 0 rfl 0 rfl; have z0_1 := M.cell 0 rfl 1 rfl; have z0_2 := M.cell 0 rfl 2 rfl
      refine wpOp_intro rfl (fun K1 hK => ?_)
      go_simp
      clear z0_0 z0_1 z0_2
      refine hK _ _ ⟨M.below, ?_⟩
      clear hK K1
      refine wpAnyH_all (rs := [9]) (by kernel_rfl) (by simp) ?_
      intro i hi
      obtain rfl : i = 9 := by simpa using hi
      clear hi
      refine wpOp_intro rfl (fun K2 hK => ?_)
      go_simp
      refine (KM.out _ M.below).mono ?_
      rintro e V9 ⟨a3, c3, o3, r3, rfl, g, g', rr⟩
      have M' := ((M.up rr).add g).add g'
      clear M rr g g'
      have M := M'; clear M'
      refine hK _ _ ⟨M.below, ?_⟩
      clear hK K2
      refine wpAnyH_all (rs := [10]) (by kernel_rfl) (by simp) ?_
      intro i hi
      obtain rfl : i = 10 := by simpa using hi
      clear hi
      refine wpOp_intro rfl (fun K3 hK => ?_)
      go_simp
      refine (KA.out _ (M.get 3 rfl) (M.get 2 rfl) (M.get 1 rfl) (M.get 0 rfl)).mono ?_
      rintro e V10 ⟨a4, c4, o4, r4, rfl, g, g', rr⟩
      have M' := ((M.up rr).add g).add g'
      clear M rr g g'
      have M := M'; clear M'
      refine hK _ _ ⟨M.below, ?_⟩
      clear hK K3
      refine wpAnyH_all (rs := [11]) (by kernel_rfl) (by simp) ?_
      intro i hi
      obtain rfl : i = 11 := by simpa using hi
      clear hi
      have f0_0 := M.fr 0 rfl 0; have f0_1 := M.fr 0 rfl 1; have f0_2 := M.fr 0 rfl 2
      have z0_0 := M.cell 0 rfl 0 rfl; have z0_1 := M.cell 0 rfl 1 rfl; have z0_2 := M.cell 0 rfl 2 rfl
      refine wpOp_intro rfl (fun K4 hK => ?_)
      go_simp
      have M' := (((M.put 0 rfl rfl 0 (.bool q9.1)).put 0 rfl rfl 1 (.slice a4 q9.2.1.length c4)).put 0 rfl rfl 2 (.slice o4 q9.2.2.length r4))
      clear M f0_0 z0_0 f0_1 z0_1 f0_2 z0_2
      have M2 := Lib.hid (M'.two rfl rfl)
      have hS1 := M'.below
      clear M'
      refine hK _ _ ⟨hS1, ?_⟩
      clear hK K4 hS1
      refine wpAnyH_done (by kernel_rfl) ?_ _
      go_wp2
      go_roundg (n - (k + 1))
      case measure => omega
      case rel => exact ⟨k + 1, a4, c4, o4, r4, q9, by omega, by first | rfl | simp, HQ9, M2⟩
    · refine wpOp_intro rfl (fun K2 hK => ?_)
      go_simp
      refine (KM.out _ M.below).mono ?_
      rintro e V9 ⟨a3, c3, o3, r3, rfl, g, g', rr⟩
      have M' := ((M.up rr).add g).add g'
      clear M rr g g'
      have M := M'; clear M'
      refine hK _ _ ⟨M.below, ?_⟩
      clear hK K2
      refine wpAnyH_all (rs := [0]) (by kernel_rfl) (by simp) ?_
      intro i hi
      obtain rfl : i = 0 := by simpa using hi
      clear hi
      have z0_0 := M.cell 0 rfl 0 rfl; have z0_1 := M.cell 0 rfl 1 rfl; have z0_2 := M.cell 0 rfl 2 rfl
      refine wpOp_intro rfl (fun K1 hK => ?_)
      go_simp
      clear z0_0 z0_1 z0_2
      refine hK _ _ ⟨M.below, ?_⟩
      clear hK K1
      refine wpAnyH_all (rs := [10]) (by kernel_rfl) (by simp) ?_
      intro i hi
      obtain rfl : i = 10 := by simpa using hi
      clear hi
      refine wpOp_intro rfl (fun K3 hK => ?_)
      go_simp
      refine (KA.out _ (M.get 3 rfl) (M.get 2 rfl) (M.get 1 rfl) (M.get 0 rfl)).mono ?_
      rintro e V10 ⟨a4, c4, o4, r4, rfl, g, g', rr⟩
      have M' := ((M.up rr).add g).add g'
      clear M rr g g'
      have M := M'; clear M'
      refine hK _ _ ⟨M.below, ?_⟩
      clear hK K3
      refine wpAnyH_all (rs := [11]) (by kernel_rfl) (by simp) ?_
      intro i hi
      obtain rfl : i = 11 := by simpa using hi
      clear hi
      have f0_0 := M.fr 0 rfl 0; have f0_1 := M.fr 0 rfl 1; have f0_2 := M.fr 0 rfl 2
      have z0_0 := M.cell 0 rfl 0 rfl; have z0_1 := M.cell 0 rfl 1 rfl; have z0_2 := M.cell 0 rfl 2 rfl
      refine wpOp_intro rfl (fun K4 hK => ?_)
      go_simp
      have M' := (((M.put 0 rfl rfl 0 (.bool q9.1)).put 0 rfl rfl 1 (.slice a4 q9.2.1.length c4)).put 0 rfl rfl 2 (.slice o4 q9.2.2.length r4))
      clear M f0_0 z0_0 f0_1 z0_1 f0_2 z0_2
      have M2 := Lib.hid (M'.two rfl rfl)
      have hS1 := M'.below
      clear M'
      refine hK _ _ ⟨hS1, ?_⟩
      clear hK K4 hS1
      refine wpAnyH_done (by kernel_rfl) ?_ _
      go_wp2
      go_roundg (n - (k + 1))
      case measure => omega
      case rel => exact ⟨k + 1, a4, c4, o4, r4, q9, by omega, by first | rfl | simp, HQ9, M2⟩
  · obtain rfl : k = n := by omega
    have l0 : ¬ (k : Int) < (k : Int) := by omega
    have hqk := HQK.out
    rw [List.take_of_length_le (by have := HL.out; omega), ← HDD.out] at hqk
    have HQE := Lib.hid hqk
    have M := HM.out
    clear HM hqk HA1 HA2 HC1 HC2
    have z0_0 := M.cell 0 rfl 0 rfl; have z0_1 := M.cell 0 rfl 1 rfl; have z0_2 := M.cell 0 rfl 2 rfl
    have z1_0 := M.cell 1 rfl 0 rfl; have z1_1 := M.cell 1 rfl 1 rfl; have z1_2 := M.cell 1 rfl 2 rfl
    have f1_0 := M.fr 1 rfl 0; have f1_1 := M.fr 1 rfl 1; have f1_2 := M.fr 1 rfl 2
    go_wp2_with fail
    have M' := (((M.put 1 rfl rfl 0 (.bool q.1)).put 1 rfl rfl 1 (.slice a q.2.1.length c)).put 1 rfl rfl 2 (.slice a' q.2.2.length c'))
    refine ret_boxN_tmpV rfl rfl rfl (M'.box 1 rfl) Tryz.underlying32 size_rat rfl ?_
    rw [← HQE.out]
    exact ⟨a, c, a', c', rfl, M'.get 1 rfl, M'.get 0 rfl, M'.below⟩
end Go.Proofs.YtbndmpdaloadjaaGreat
