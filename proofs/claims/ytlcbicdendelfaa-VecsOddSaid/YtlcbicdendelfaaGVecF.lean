/- Rows of fractions: are both the same? -/
import Derived.Test.YtlcbicdendelfaaGVecE
namespace Go.Proofs.Ytlcbicdendelfaa
open Go Go.Proofs Go.RowKit Go.Shelf Nu

attribute [local go_sem] Oper.semAt_some

theorem rsg_zero (X Y : Rat) : rsg X Y = 0 ↔ X = Y := by
  unfold rsg
  constructor
  · intro h
    by_cases h1 : X < Y
    · simp [h1] at h
    · by_cases h2 : Y < X
      · simp [h1, h2] at h
      · exact Rat.le_antisymm (Rat.not_lt.1 h2) (Rat.not_lt.1 h1)
  · rintro rfl
    have h : ¬ X < X := Rat.lt_irrefl
    simp [h]
theorem lists_same {xs ys : List Rat} {n : Nat} (hx : xs.length = n) (hy : ys.length = n) (h : ∀ j, j < n → xs.getD j 0 = ys.getD j 0) : xs = ys := by
  refine List.ext_getElem (by omega) fun j h1 h2 => ?_
  have := h j (by omega)
  rwa [List.getD_eq_getElem?_getD, List.getD_eq_getElem?_getD, List.getElem?_eq_getElem h1, List.getElem?_eq_getElem h2] at this
def SInv (w : World) (v1 v2 : Value) (s : Nat) (xs ys : List Rat) (k : Nat) (W : World) : Prop :=
  (∀ j, j < k → xs.getD j 0 = ys.getD j 0) ∧ Boxed W w.heap.size 4 (.bool false) ∧ Boxed W s 38 v1 ∧ Boxed W (s + 1) 38 v2 ∧ Below w.heap.size w W
def SEnd (w : World) (xs ys : List Rat) (c : Code) (W : World) : Prop := c = .ret ∧ xs ≠ ys ∧ Boxed W w.heap.size 4 (.bool false) ∧ Below w.heap.size w W
def SMid (w : World) (v1 v2 : Value) (s : Nat) (B1 B2 : Nat) (c1 c2 : Array Value) (_ : Unit) (W : World) : Prop :=
  Boxed W w.heap.size 4 (.bool false) ∧ Boxed W s 38 v1 ∧ Boxed W (s + 1) 38 v2 ∧ Below w.heap.size w W ∧ BoxN W B1 43 c1 ∧ BoxN W B2 43 c2
theorem SMid.own {w : World} {v1 v2 : Value} {s B1 B2 : Nat} {c1 c2 : Array Value} {M : Nat} (hM : w.heap.size ≤ M) : OwnFrom M (SMid w v1 v2 s B1 B2 c1 c2) := by
  rintro u W W' row ⟨h1, h2, h3, h4, h5, h6⟩ hg hr
  exact ⟨keepBox h1 hg hr, keepBox h2 hg hr, keepBox h3 hg hr, keepBelow h4 (Nat.le_refl _) hM hg hr, keepBoxN h5 hg hr, keepBoxN h6 hg hr⟩

set_option maxRecDepth 100000 in
set_option maxHeartbeats 2000000 in
theorem v_same_no {w : World} {a1 a2 : Option Addr} {n1 n2 c1 c2 : Nat} {q1 q2 : List Qr} (hR : (decide (n1 = n2) && (q1.all qok && q2.all qok)) = false) (h1 : VReads w (.slice a1 n1 c1) q1) (h2 : VReads w (.slice a2 n2 c2) q2) (f1 : qrows q1) (f2 : qrows q2) :
    Calls Try.prog 23 #[.slice a1 n1 c1, .slice a2 n2 c2] w fun e w' => e = .returned (.bool false) ∧ Below w.heap.size w w' := by
  have al : Below w.heap.size w (w.alloc (.cells #[.bool false] 4)) := (Below.refl _ _).alloc (Nat.le_refl _) _
  have k1 := v_match false hR.symm (h1.below al) (h2.below al) f1 f2
  have HB := Lib.hid (Boxed.new w 4 (.bool false))
  clear h1 h2 hR f1 f2
  refine (callsIn_wide (n := 0)).1 ?_
  refine callsIn_of_wp_marks Try.func23 rfl trivial ?_ rfl
  simp only [Try.ntmps23, List.size_toArray, List.length_cons, List.length_nil, Nat.reduceAdd, Nat.reduceSub, Array.replicate_succ, Array.replicate_zero, List.push_toArray, List.append_toArray, List.nil_append, List.cons_append]
  refine wpIn_wide.2 ?_
  go_wp2_with fail
  refine k1.mono ?_
  rintro e w1 ⟨rfl, rr⟩
  have hb := boxed_under HB.out rr
  have HL := Lib.hid ((then_below al rr).setCell (p := ⟨w.heap.size, 0, none⟩) (Nat.le_refl _) (.bool false))
  have r1 := hb.cell
  have r2 := hb.frozen
  have HS := Lib.hid (hb.set (.bool false))
  clear k1 rr al HB hb
  go_wp2_with fail
  refine ⟨.bool false, ?_, rfl, HL.out⟩
  have h7 := HS.out.cell
  simp [results, Try.f23, go_sem, h7]

set_option maxRecDepth 100000 in
set_option maxHeartbeats 4000000 in
theorem v_samem {w : World} {a1 a2 : Option Addr} {n c1 c2 : Nat} {xs ys : List Rat} (R : Bool) (hR : R = decide (xs = ys)) (h1 : VReads w (.slice a1 n c1) (xs.map qr)) (h2 : VReads w (.slice a2 n c2) (ys.map qr)) (hwx : ∀ x ∈ xs, wt x ≤ 9999) (hwy : ∀ x ∈ ys, wt x ≤ 9999) (hn : n ≤ 60000) :
    Calls Try.prog 23 #[.slice a1 n c1, .slice a2 n c2] w fun e w' => e = .returned (.bool R) ∧ Below w.heap.size w w' := by
  have al : Below w.heap.size w (w.alloc (.cells #[.bool false] 4)) := (Below.refl _ _).alloc (Nat.le_refl _) _
  have hx : xs.length = n := by have := h1.addr.1; simpa using this.symm
  have hy : ys.length = n := by have := h2.addr.1; simpa using this.symm
  have fx := fit_each hwx
  have fy := fit_each hwy
  have k1 := v_match true (by rw [all_qok_qr, all_qok_qr]; simp) (h1.below al) (h2.below al) ⟨fx, by simp; omega⟩ ⟨fy, by simp; omega⟩
  have hd1 := h1.addr.2.1
  have hd2 := h2.addr.2.1
  obtain ⟨b1, o1, f, hA1, hf⟩ := h1.fn
  obtain ⟨b2, o2, g, hA2, hg⟩ := h2.fn
  have HF := Lib.hid hf
  have HG := Lib.hid hg
  have HA1 := Lib.hid hA1
  have HA2 := Lib.hid hA2
  have HXL := Lib.hid hx
  have HYL := Lib.hid hy
  have HR := Lib.hid hR
  have HWX := Lib.hid hwx
  have HWY := Lib.hid hwy
  have HB := Lib.hid (Boxed.new w 4 (.bool false))
  clear h1 h2 hf hg hA1 hA2 hx hy fx fy hR hwx hwy
  refine (callsIn_wide (n := 0)).1 ?_
  refine callsIn_of_wp_marks Try.func23 rfl trivial ?_ rfl
  simp only [Try.ntmps23, List.size_toArray, List.length_cons, List.length_nil, Nat.reduceAdd, Nat.reduceSub, Array.replicate_succ, Array.replicate_zero, List.push_toArray, List.append_toArray, List.nil_append, List.cons_append]
  refine wpIn_wide.2 ?_
  go_wp2_with fail
  refine k1.mono ?_
  rintro e w1 ⟨rfl, rr⟩
  have hb := boxed_under HB.out rr
  have hbel1 := then_below al rr
  have hs1 : w.heap.size + 1 ≤ w1.heap.size := by simpa using rr.size
  have HB1 := Lib.hid hb
  have HL1 := Lib.hid hbel1
  clear k1 rr al HB hb hbel1
  go_wp2_with ((go_at_call 53; refine (places_any _ _ _ _ _ _ _).mono ?_; rintro e w' ⟨rfl, rfl⟩))
  refine (wpIn_wide (n := 0)).1 ?_
  refine wp_rangeMid (gf := 78) rfl (enters_of Try.func78 (by kernel_rfl) rfl)
    (places_iter n b1 o1 b2 o2 c1 c2 w1.heap.size (w1.heap.size + 1) a1 a2 f g (by omega) (fun h => (HA1.out h).1) (fun h => (HA2.out h).1) hd1 hd2) (fun _ => rfl)
    (SInv w (.slice a1 n c1) (.slice a2 n c2) w1.heap.size xs ys) (SEnd w xs ys) ?own ?ownx
    (fun k W h => ⟨h.2.2.1.cell, h.2.2.2.1.cell, fun hk => ⟨(HF.out k hk).2.1.below (HA1.out (by omega)).2 h.2.2.2.2, (HG.out k hk).2.1.below (HA2.out (by omega)).2 h.2.2.2.2⟩⟩) ?start ?round ?done ?stop
  case own =>
    rintro k W W' row ⟨h0, h1, h2, h3, h4⟩ hg hr
    exact ⟨h0, keepBox h1 hg hr, keepBox h2 hg hr, keepBox h3 hg hr, keepBelow h4 (Nat.le_refl _) (by simp; omega) hg hr⟩
  case ownx =>
    rintro c W W' row ⟨h0, h1, h2, h3⟩ hg hr
    exact ⟨h0, h1, keepBox h2 hg hr, keepBelow h3 (Nat.le_refl _) (by simp; omega) hg hr⟩
  case start =>
    exact ⟨fun j hj => by omega, (HB1.out.alloc _).alloc _, (Boxed.new w1 _ _).alloc _, boxed_new1 w1 _ _ _, (HL1.out.alloc (by omega) _).alloc (by simp; omega) _⟩
  case round =>
    intro l k W hk hinv
    have hfk := HF.out k hk
    have hgk := HG.out k hk
    rw [qr_at (by have := HXL.out; omega)] at hfk
    rw [qr_at (by have := HYL.out; omega)] at hgk
    have w1' := HWX.out _ (at_mem (xs := xs) (j := k) (by have := HXL.out; omega))
    have w2' := HWY.out _ (at_mem (xs := ys) (j := k) (by have := HYL.out; omega))
    obtain ⟨X, hX⟩ : ∃ X, X = xs.getD k 0 := ⟨_, rfl⟩
    obtain ⟨Y, hY⟩ : ∃ Y, Y = ys.getD k 0 := ⟨_, rfl⟩
    rw [← hX] at hfk w1'
    rw [← hY] at hgk w2'
    have fX := fit_qr (X := X) w1'
    have fY := fit_qr (X := Y) w2'
    generalize f k = z1 at *
    generalize g k = z2 at *
    obtain ⟨q1, ⟨p, c⟩, p', c'⟩ := z1
    obtain ⟨q2, ⟨q, e⟩, q', e'⟩ := z2
    obtain ⟨e1, _, i1⟩ := hfk
    obtain ⟨e2, _, i2⟩ := hgk
    dsimp only at e1 e2
    subst e1 e2
    obtain ⟨z, hz⟩ : ∃ z, z = rsg X Y := ⟨_, rfl⟩
    have kc := fun (V : World) (r : Below w.heap.size w V) => r_cmp z hz.symm (qr_can X).is (qr_can Y).is fX.2.1 fX.2.2 fY.2.1 fY.2.2 (i1.below r).1 (i1.below r).2 (i2.below r).1 (i2.below r).2
    dsimp only at kc
    have hzz := rsg_zero X Y
    rw [← hz] at hzz
    have HZ := Lib.hid hzz
    have HX := Lib.hid hX
    have HY := Lib.hid hY
    dsimp only [zval]
    obtain ⟨hall, hb, hb1, hb2, hbel⟩ := hinv
    have hWs : w.heap.size ≤ W.heap.size := hbel.size
    have hWs2 : w1.heap.size + 1 < W.heap.size := (Array.getElem?_eq_some_iff.1 (show W.heap[w1.heap.size + 1]? = _ from hb2)).1
    generalize qr X = qX at *
    generalize qr Y = qY at *
    have hmid : SMid w (.slice a1 n c1) (.slice a2 n c2) w1.heap.size W.heap.size (W.heap.size + 1) #[.bool qX.1, .slice p qX.2.1.length c, .slice p' qX.2.2.length c'] #[.bool qY.1, .slice q qY.2.1.length e, .slice q' qY.2.2.length e'] () ((W.alloc (.cells #[.bool qX.1, .slice p qX.2.1.length c, .slice p' qX.2.2.length c'] 43)).alloc (.cells #[.bool qY.1, .slice q qY.2.1.length e, .slice q' qY.2.2.length e'] 43)) :=
      ⟨(hb.alloc _).alloc _, (hb1.alloc _).alloc _, (hb2.alloc _).alloc _, (hbel.alloc hWs _).alloc (by simp; omega) _, (BoxN.new W _ _).alloc _, BoxN.new1 W _ _ _⟩
    have HMID := Lib.hid hmid
    have HALL := Lib.hid hall
    clear fX fY w1' w2' i1 i2 hX hY hz hzz hall hb hb1 hb2 hbel hmid
    gi_wp2
    refine ⟨((KeepsOthers.alloc W _).trans (KeepsOthers.alloc _ _)).from _, _, HMID.out, SMid.own (by first | omega | (simp; omega)), ?_⟩
    rintro W2 ⟨hb, hb1, hb2, hbel, hx1, hx2⟩
    have x0 := hx1.cell 0 _ rfl
    have x1 := hx1.cell 1 _ rfl
    have x2 := hx1.cell 2 _ rfl
    have y0 := hx2.cell 0 _ rfl
    have y1 := hx2.cell 1 _ rfl
    have y2 := hx2.cell 2 _ rfl
    have HB := Lib.hid hb
    have HBA := Lib.hid hb1
    have HBB := Lib.hid hb2
    have HL := Lib.hid hbel
    have kc2 := kc W2 hbel
    clear hb hb1 hb2 hbel hx1 hx2 HMID kc
    gi_wp2_with fail
    refine ⟨trivial, rfl, ?_⟩
    refine ((Lets.round l).calls kc2).mono ?_
    rintro e w3 ⟨rfl, rr⟩
    have hb3 := boxed_under HB.out rr
    have HB3 := Lib.hid hb3
    have HBA3 := Lib.hid (boxed_under HBA.out rr)
    have HBB3 := Lib.hid (boxed_under HBB.out rr)
    have HL3 := Lib.hid (then_below HL.out rr)
    have HKO := Lib.hid (keeps_below rr)
    have r1 := hb3.cell
    have r2 := hb3.frozen
    clear rr hb3 kc2 x0 x1 x2 y0 y1 y2 HB HBA HBB HL
    by_cases h0 : z = 0
    · have hq : (z != 0) = false := by simp [h0]
      have HE := Lib.hid (HZ.out.1 h0)
      clear h0
      gi_wp2_with fail
      refine ⟨HKO.out.from _, fun j hj => ?_, HB3.out, HBA3.out, HBB3.out, HL3.out⟩
      by_cases hjk : j = k
      · subst hjk; rw [← HX.out, ← HY.out]; exact HE.out
      · exact HALL.out j (by omega)
    · have hq : (z != 0) = true := by simp [h0]
      have HE := Lib.hid (fun h => h0 (HZ.out.2 h))
      clear h0
      gi_wp2_with fail
      refine ⟨(HKO.out.trans (KeepsOthers.setCell _ _ _)).from _, rfl, ?_, HB3.out.set _, HL3.out.setCell (p := ⟨w.heap.size, 0, none⟩) (Nat.le_refl _) _⟩
      rintro rfl
      exact HE.out (by rw [HX.out, HY.out])
  case done =>
    rintro D W hD ⟨hall, hb, hb1, hb2, hbel⟩ hK
    have hR : R = true := by rw [HR.out]; exact decide_eq_true (lists_same HXL.out HYL.out hall)
    have HRR := Lib.hid hR
    have HB := Lib.hid hb
    have HL := Lib.hid hbel
    have r1 := hb.cell
    have r2 := hb.frozen
    clear hall hb hb1 hb2 hbel hR
    go_wp2
    have hK' := heap_box HB.out (.bool true) hK rfl
    have h6 := keepBox (M := 0) (HB.out.set (.bool true)) (grownBy_putObj' _ D (.deferred none)) (offCells_putObj (Nat.zero_le _) hK' rfl)
    refine ⟨by simp, .inl ⟨_, _, rfl, run_takeDeferred hK', ?_⟩⟩
    refine ⟨.bool true, ?_, by rw [HRR.out], below_left _ (HL.out.setCell (p := ⟨w.heap.size, 0, none⟩) (Nat.le_refl _) _) (by simp at hD; omega) hK' rfl⟩
    have h7 := h6.cell
    simp [results, Try.f23, go_sem, h7]
  case stop =>
    rintro D c W hD ⟨rfl, hne, h2, h3⟩ hK
    have hR : R = false := by rw [HR.out]; exact decide_eq_false hne
    have h6 := keepBox (M := 0) h2 (grownBy_putObj' _ D (.deferred none)) (offCells_putObj (Nat.zero_le _) hK rfl)
    gi_wp2
    refine ⟨by simp, .inl ⟨_, _, rfl, run_takeDeferred hK, ?_⟩⟩
    refine ⟨.bool false, ?_, by rw [hR], below_left _ h3 (by simp at hD; omega) hK rfl⟩
    have h7 := h6.cell
    simp [results, Try.f23, go_sem, h7]
theorem v_same {w : World} {a1 a2 : Option Addr} {n c1 c2 : Nat} {xs ys : List Rat} (R : Bool) (hR : R = decide (xs = ys)) (h1 : VReads w (.slice a1 n c1) (xs.map qr)) (h2 : VReads w (.slice a2 n c2) (ys.map qr)) (hwx : wts xs ≤ 9000) (hwy : wts ys ≤ 9000) :
    Calls Try.prog 23 #[.slice a1 n c1, .slice a2 n c2] w fun e w' => e = .returned (.bool R) ∧ Below w.heap.size w w' := by
  have hx : xs.length = n := by have := h1.addr.1; simpa using this.symm
  have l1 := wts_len xs
  exact v_samem R hR h1 h2 (fun x hx => Nat.le_trans (wt_mem hx) (by omega)) (fun x hx => Nat.le_trans (wt_mem hx) (by omega)) (by omega)
end Go.Proofs.Ytlcbicdendelfaa
