/- Rows of fractions: what is made of two, place by place. -/
import Derived.Test.YtbndmpdaloadjaaGreatGVecP
import Derived.Test.YtbndmpdaloadjaaGreatGVecS
import Derived.Test.YtbndmpdaloadjaaGreatGVecI
import Derived.Test.YtbndmpdaloadjaaGreatGVecW
set_option linter.unusedSimpArgs false
set_option linter.unusedVariables false
set_option maxRecDepth 100000
set_option maxHeartbeats 4000000
namespace Go.Proofs.YtbndmpdaloadjaaGreat
open Go Go.Proofs Go.RowKit Go.Shelf Nu

attribute [local go_sem] Oper.semAt_some

theorem keepBoxN {W W' : World} {M : Nat} {row : Option Nat} {B : Nat} {t : TypeId} {cs : Array Value} (h : BoxN W B t cs) (hg : W.grownBy W' row) (hr : OffCells M row W) : BoxN W' B t cs := by
 refine (hg.block B h.lt fun e => ?_).trans h
 obtain ⟨_, o, ho, hc⟩ := hr B e.symm
 rw [show W.heap[B]? = _ from h] at ho; cases ho; cases hc
/-- what holds between two rounds -/
def JInv (w : World) (F0 v1 v2 : Value) (s : Nat) (zs : List Rat) (k : Nat) (W : World) : Prop :=
  (∃ (v : Value) (ys : List Zr), ys.map (·.1) = (zs.take k).map qr ∧ Boxed W s 23 v ∧ VF W w.heap.size v ys) ∧
  Boxed W w.heap.size 96 F0 ∧ Boxed W (s + 1) 23 v1 ∧ Boxed W (s + 1 + 1) 23 v2 ∧ Below w.heap.size w W
theorem JInv.own {w : World} {F0 v1 v2 : Value} {s : Nat} {zs : List Rat} {M : Nat} (hM : w.heap.size ≤ M) : OwnFrom M (JInv w F0 v1 v2 s zs) := by
 rintro k W W' row ⟨⟨v, ys, h0, h1, h2⟩, h3, h4, h5, h6⟩ hg hr
 exact ⟨⟨v, ys, h0, keepBox h1 hg hr, h2.off hg hr⟩, keepBox h3 hg hr, keepBox h4 hg hr, keepBox h5 hg hr, keepBelow h6 (Nat.le_refl _) hM hg hr⟩
def JMid (w : World) (v : Value) (ys : List Zr) (F0 v1 v2 : Value) (s B1 B2 : Nat) (c1 c2 : Array Value) (_ : Unit) (W : World) : Prop :=
 Boxed W s 23 v ∧ VF W w.heap.size v ys ∧ Boxed W w.heap.size 96 F0 ∧ Boxed W (s + 1) 23 v1 ∧ Boxed W (s + 1 + 1) 23 v2 ∧ Below w.heap.size w W ∧ BoxN W B1 32 c1 ∧ BoxN W B2 32 c2
theorem JMid.own {w : World} {v : Value} {ys : List Zr} {F0 v1 v2 : Value} {s B1 B2 : Nat} {c1 c2 : Array Value} {M : Nat} (hM : w.heap.size ≤ M) : OwnFrom M (JMid w v ys F0 v1 v2 s B1 B2 c1 c2) := by
 rintro u W W' row ⟨h1, h2, h3, h4, h5, h6, h7, h8⟩ hg hr
 exact ⟨keepBox h1 hg hr, h2.off hg hr, keepBox h3 hg hr, keepBox h4 hg hr, keepBox h5 hg hr, keepBelow h6 (Nat.le_refl _) hM hg hr, keepBoxN h7 hg hr, keepBoxN h8 hg hr⟩
theorem keeps_below {W W' : World} (r : Below W.heap.size W W') : KeepsOthers W W' := ⟨r.size, fun k _ hk _ => (r.block k (Array.getElem?_eq_some_iff.1 hk).1).trans hk⟩
theorem grown_off {W W' : World} {B : Nat} {t : TypeId} {cs : Array Value} {row : Option Nat} (h : BoxN W B t cs) (hg : W.grownBy W' row) (hne : row = some B → False) : BoxN W' B t cs := (hg.block B h.lt fun e => hne e.symm).trans h
theorem VF.box {W : World} {base B : Nat} {v : Value} {zs : List Zr} {t : TypeId} {u : Value} (h : VF W base v zs) (hB : Boxed W B t u) (ht : t ≠ 32) (hu : no32 u = true) (x : Value) : VF (W.setCell ⟨B, 0, none⟩ x) base v zs := by
 have hne : v.ownBlock = none ∨ v.ownBlock ≠ some B := .inr (hB.not_row ht h.1.1).symm
 refine ⟨⟨World.ownsRow.kept h.1.1 (grownBy_setCell' W B x) hne, h.1.2.kept (grownBy_setCell' W B x) hne⟩, fun z hz => ?_⟩
 have hb : BoxN W B t ([u] : List Value).toArray := hB
 exact ⟨(h.2 z hz).1.put hb (by simp [hu]) 0 x, (h.2 z hz).2.put hb (by simp [hu]) 0 x⟩
theorem take_qr {zs : List Rat} {ys : List Zr} {k : Nat} {z : Zr} (hk : k < zs.length) (h : ys.map (·.1) = (zs.take k).map qr) (hz : z.1 = qr (zs.getD k 0)) : (ys ++ [z]).map (·.1) = (zs.take (k + 1)).map qr := by
 have e : zs.take (k + 1) = zs.take k ++ [zs.getD k 0] := by
  rw [List.take_add_one, List.getD_eq_getElem?_getD, List.getElem?_eq_getElem hk]; rfl
 rw [e, List.map_append, List.map_append, h, List.map_singleton, List.map_singleton, hz]

theorem v_joined {w : World} {a1 a2 : Option Addr} {n c1 c2 : Nat} {qs1 qs2 : List Qr} {J : Nat} {caps : Array Value} {zs : List Rat} (h1 : VReads w (.slice a1 n c1) qs1) (h2 : VReads w (.slice a2 n c2) qs2) (hn : n ≤ 65536) (hzs : zs.length = n)
  (eJ : ∀ (args : Array Value) (w : World), (callFunc J args).run Tryz.prog w = .ok (.enter J args) w)
  (kJ : ∀ (W : World) (j : Nat) (z1 z2 : Zr), j < n → z1.1 = qs1.getD j default → z2.1 = qs2.getD j default → ZIn W z1 → ZIn W z2 → Below w.heap.size w W → Calls Tryz.prog J (#[zval z1, zval z2] ++ caps) W (RAns W (zs.getD j 0))) :
  Calls Tryz.prog 70 #[.slice a1 n c1, .slice a2 n c2, .func (.func J) #[] caps] w fun e w' => ∃ v, e = .returned v ∧ VFresh w' w.heap.size v (zs.map qr) ∧ Below w.heap.size w w' := by
 obtain ⟨i0, hi, hz0, hz1, hz2⟩ := info_parts info_rat
 have hd1 := h1.addr.2.1
 have hd2 := h2.addr.2.1
 obtain ⟨b1, o1, f, hA1, hf⟩ := h1.fn
 obtain ⟨b2, o2, g, hA2, hg⟩ := h2.fn
 have HF := Lib.hid hf
 have HG := Lib.hid hg
 have HK := Lib.hid kJ
 have HA1 := Lib.hid hA1
 have HA2 := Lib.hid hA2
 have HZ := Lib.hid hzs
 clear h1 h2 hf hg kJ hA1 hA2 hzs
 refine (callsIn_wide (n := 0)).1 ?_
 refine callsIn_of_wp_marks Tryz.func70 rfl trivial ?_ rfl
 simp only [Tryz.ntmps70, List.size_toArray, List.length_cons, List.length_nil, Nat.reduceAdd, Nat.reduceSub, Array.replicate_succ, Array.replicate_zero, List.push_toArray, List.append_toArray, List.nil_append, List.cons_append]
 refine wpIn_wide.2 ?_
 go_wp2_with (first
    | (at_make; go_loud (refine wpList_make_rat hi hz0 hz1 hz2 _ rfl _ _ rfl w.heap.size .i64 .i64 n rfl rfl (by omega) (by simp) ?_); intro w1 hV1 hgrow1)
    | (go_at_call 94; refine (places_any _ _ _ _ _ _ _).mono ?_; rintro e w' ⟨rfl, rfl⟩))
 have hs1 : (w.alloc (.cells #[.func (.func J) #[] caps] 96)).heap.size ≤ w1.heap.size := hgrow1.size
 have hs2 : w.heap.size + 1 ≤ w1.heap.size := by simpa using hs1
 have hbel1 : Below w.heap.size w w1 := ((Below.refl _ _).alloc (Nat.le_refl _) _).grown hgrow1 (by simp) (fun _ e => by cases e)
 have hbx : Boxed w1 w.heap.size 96 (.func (.func J) #[] caps) := (Boxed.new w _ _).kept hgrow1 (by simp)
 clear hs1
 simp only [World.size_alloc] at hV1
 refine (wpIn_wide (n := 0)).1 ?_
 refine wp_rangeMid (gf := 126) rfl (enters_of Tryz.func126 (by kernel_rfl) rfl)
  (places_iter n b1 o1 b2 o2 c1 c2 (w1.heap.size + 1) (w1.heap.size + 1 + 1) a1 a2 f g hn (fun h => (HA1.out h).1) (fun h => (HA2.out h).1) hd1 hd2) (fun _ => rfl)
  (JInv w (.func (.func J) #[] caps) (.slice a1 n c1) (.slice a2 n c2) w1.heap.size zs) (fun _ _ => False) (JInv.own (by simp; omega)) (fun _ _ _ _ h _ _ => h)
  (fun k W h => ⟨h.2.2.1.cell, h.2.2.2.1.cell, fun hk => ⟨(HF.out k hk).2.1.below (HA1.out (by omega)).2 h.2.2.2.2, (HG.out k hk).2.1.below (HA2.out (by omega)).2 h.2.2.2.2⟩⟩) ?start ?round ?done ?stop
 case start =>
  refine ⟨⟨_, [], rfl, ((Boxed.new w1 _ _).alloc _).alloc _, ((hV1.alloc _).alloc _).alloc _⟩, ((hbx.alloc _).alloc _).alloc _, (boxed_new1 w1 _ _ _).alloc _, boxed_new2 w1 _ _ _ _, ?_⟩
  exact ((hbel1.alloc (by omega) _).alloc (by simp; omega) _).alloc (by simp; omega) _
 case round =>
  intro l k W hk hinv
  have hfk := HF.out k hk
  have hgk := HG.out k hk
  generalize f k = z1 at *
  generalize g k = z2 at *
  obtain ⟨⟨s, l1, d1⟩, ⟨p, c⟩, p', c'⟩ := z1
  obtain ⟨⟨s', l2, d2⟩, ⟨q, e⟩, q', e'⟩ := z2
  dsimp only [zval]
  have HFK := Lib.hid hfk
  have HGK := Lib.hid hgk
  obtain ⟨⟨v, ys, hmap, hbv, hV⟩, hbf, hb1, hb2, hbel⟩ := hinv
  have hlt : ∀ g, v.ownBlock = some g → g < W.heap.size := fun g e => (hV.lt e).2
  have hyl : ys.length = k := by
    have := congrArg List.length hmap
    simp only [List.length_map, List.length_take] at this
    have := HZ.out; omega
  obtain ⟨av, cv, ev⟩ := hV.form
  rw [hyl] at ev
  subst ev
  have hWs : w.heap.size ≤ W.heap.size := hbel.size
  have hWs2 : w1.heap.size + 1 + 1 < W.heap.size := (Array.getElem?_eq_some_iff.1 (show W.heap[w1.heap.size + 1 + 1]? = _ from hb2)).1
  have hmid : JMid w (.slice av k cv) ys (.func (.func J) #[] caps) (.slice a1 n c1) (.slice a2 n c2) w1.heap.size W.heap.size (W.heap.size + 1) #[.bool s, .slice p l1.length c, .slice p' d1.length c'] #[.bool s', .slice q l2.length e, .slice q' d2.length e'] () ((W.alloc (.cells #[.bool s, .slice p l1.length c, .slice p' d1.length c'] 32)).alloc (.cells #[.bool s', .slice q l2.length e, .slice q' d2.length e'] 32)) :=
    ⟨(hbv.alloc _).alloc _, (hV.alloc _).alloc _, (hbf.alloc _).alloc _, (hb1.alloc _).alloc _, (hb2.alloc _).alloc _, (hbel.alloc hWs _).alloc (by simp; omega) _, (BoxN.new W _ _).alloc _, BoxN.new1 W _ _ _⟩
  have HMAP := Lib.hid hmap
  have HLT := Lib.hid hlt
  have HYL := Lib.hid hyl
  have HMID := Lib.hid hmid
  clear hfk hgk hmap hlt hyl hmid hbv hV hbf hb1 hb2 hbel
  gi_wp2
  refine ⟨((KeepsOthers.alloc W _).trans (KeepsOthers.alloc _ _)).from _, _, HMID.out, JMid.own (by first | omega | (simp; omega)), ?_⟩
  rintro W2 ⟨hbv, hV, hbf, hb1, hb2, hbel, hx1, hx2⟩
  have r1 := hbv.cell
  have r2 := hbv.frozen
  have r3 := hbf.cell
  have x0 := hx1.cell 0 _ rfl
  have x1 := hx1.cell 1 _ rfl
  have x2 := hx1.cell 2 _ rfl
  have y0 := hx2.cell 0 _ rfl
  have y1 := hx2.cell 1 _ rfl
  have y2 := hx2.cell 2 _ rfl
  have HBV := Lib.hid hbv
  have HV0 := Lib.hid hV
  have HBF0 := Lib.hid hbf
  have HB10 := Lib.hid hb1
  have HB20 := Lib.hid hb2
  have HBEL0 := Lib.hid hbel
  have HX10 := Lib.hid hx1
  have HX20 := Lib.hid hx2
  clear hbv hV hbf hb1 hb2 hbel hx1 hx2
  gi_wp2_with (refine region_held_in (Lets.round l) (fun V => Boxed V w.heap.size 96 (.func (.func J) #[] caps) ∧ BoxN V W.heap.size 32 #[.bool s, .slice p l1.length c, .slice p' d1.length c'] ∧ BoxN V (W.heap.size + 1) 32 #[.bool s', .slice q l2.length e, .slice q' d2.length e']) (by kernel_rfl) (by kernel_rfl) (by rintro ⟨_, _, h⟩; exact h) (Stop.of ?_))
  refine Stop.mk ?_
  clear r1 r2 r3 x0 x1 x2 y0 y1 y2 HMID
  have dr : Below W2.heap.size W2 W2.drew := ⟨rfl, rfl, rfl, Nat.le_refl _, fun _ _ => rfl⟩
  have HB7 := Lib.hid (boxed_under HBV.out dr)
  have HBF := Lib.hid (boxed_under HBF0.out dr)
  have HB1 := Lib.hid (boxed_under HB10.out dr)
  have HB2 := Lib.hid (boxed_under HB20.out dr)
  have HX1 := Lib.hid (HX10.out.under dr)
  have HX2 := Lib.hid (HX20.out.under dr)
  have HV := Lib.hid (HV0.out.below dr)
  have HBEL := Lib.hid (then_below HBEL0.out dr)
  have hS0 : (fun V => Boxed V w.heap.size 96 (.func (.func J) #[] caps) ∧ BoxN V W.heap.size 32 #[.bool s, .slice p l1.length c, .slice p' d1.length c'] ∧ BoxN V (W.heap.size + 1) 32 #[.bool s', .slice q l2.length e, .slice q' d2.length e']) W2.drew := ⟨HBF.out, HX1.out, HX2.out⟩
  refine wpAnyH_take (i := 1) (oi := ⟨_, _, _, _, _, _⟩) (v := .func (.func J) #[] caps) rfl (by kernel_rfl) (by kernel_rfl) (by kernel_rfl) (fun _ _ _ h => h) (Or.inl ⟨by rfl, fun W3 hS => by obtain ⟨hS1, _, _⟩ := hS; have c1 := hS1.cell; go_simp⟩) hS0 ?_
  refine wpAnyH_take (i := 2) (oi := ⟨_, _, _, _, _, _⟩) (v := .agg #[.bool s, .slice p l1.length c, .slice p' d1.length c']) rfl (by kernel_rfl) (by kernel_rfl) (by kernel_rfl) (fun _ _ _ h => h) (Or.inl ⟨by rfl, fun W3 hS => by obtain ⟨_, hS1, _⟩ := hS; have c0 := hS1.cell 0 _ rfl; have c1 := hS1.cell 1 _ rfl; have c2 := hS1.cell 2 _ rfl; go_simp⟩) hS0 ?_
  refine wpAnyH_take (i := 3) (oi := ⟨_, _, _, _, _, _⟩) (v := .agg #[.bool s', .slice q l2.length e, .slice q' d2.length e']) rfl (by kernel_rfl) (by kernel_rfl) (by kernel_rfl) (fun _ _ _ h => h) (Or.inl ⟨by rfl, fun W3 hS => by obtain ⟨_, _, hS1⟩ := hS; have c0 := hS1.cell 0 _ rfl; have c1 := hS1.cell 1 _ rfl; have c2 := hS1.cell 2 _ rfl; go_simp⟩) hS0 ?_
  clear hS0
  try simp only [Act.put, List.setIfInBounds_toArray, List.set_cons_zero, List.set_cons_succ]
  have hzi1 := (HFK.out.2.2.below HBEL0.out).below dr
  have hzi2 := (HGK.out.2.2.below HBEL0.out).below dr
  have kc := HK.out W2.drew k _ _ hk HFK.out.1 HGK.out.1 hzi1 hzi2 HBEL.out
  obtain ⟨X, hX⟩ : ∃ X, X = zs.getD k 0 := ⟨_, rfl⟩
  rw [← hX] at kc
  have HX := Lib.hid hX
  unfold RAns at kc
  dsimp only [zval] at kc
  clear hzi1 hzi2 hX
  refine wpAnyH_all (rs := [0, 4]) (by kernel_rfl) (by simp) ?_
  intro i hii
  obtain rfl | rfl : i = 0 ∨ i = 4 := by simpa using hii
  clear hii
  · have r1 := HB7.out.cell
    refine wpOp_intro rfl (fun K2 hK => ?_)
    go_simp
    refine hK _ _ ⟨⟨HBF.out, HX1.out, HX2.out⟩, ?_⟩
    clear hK K2 r1
    refine wpAnyH_all (rs := [4]) (by kernel_rfl) (by simp) ?_
    intro i hii
    obtain rfl : i = 4 := by simpa using hii
    clear hii
    refine wpOp_intro rfl (fun K1 hK => ?_)
    go_simp
    refine kc.mono ?_
    rintro ex V1 ⟨a3, c3, o3, r3, rfl, g3, g3', rr⟩
    have HB7' := Lib.hid (boxed_under HB7.out rr)
    have HBF' := Lib.hid (boxed_under HBF.out rr)
    have HB1' := Lib.hid (boxed_under HB1.out rr)
    have HB2' := Lib.hid (boxed_under HB2.out rr)
    have HX1' := Lib.hid (HX1.out.under rr)
    have HX2' := Lib.hid (HX2.out.under rr)
    have HV' := Lib.hid (HV.out.below rr)
    have HBEL' := Lib.hid (then_below HBEL.out rr)
    have HKP := Lib.hid ((KeepsOthers.drew W2).trans (keeps_below rr))
    clear kc rr HB7 HBF HB1 HB2 HX1 HX2 HV HBEL
    refine hK _ _ ⟨⟨HBF'.out, HX1'.out, HX2'.out⟩, ?_⟩
    clear hK K1
    refine wpAnyH_all (rs := [5]) (by kernel_rfl) (by simp) ?_
    intro i hii
    obtain rfl : i = 5 := by simpa using hii
    clear hii
    refine wpOp_intro rfl (fun K3 hK => ?_)
    go_simp
    refine hK _ _ ⟨⟨HBF'.out.alloc _, HX1'.out.alloc _, HX2'.out.alloc _⟩, ?_⟩
    clear hK K3
    refine wpAnyH_all (rs := [6]) (by kernel_rfl) (by simp) ?_
    intro i hii
    obtain rfl : i = 6 := by simpa using hii
    refine wpOp_intro rfl (fun K4 hK => ?_)
    clear hii
    rw [if_pos (by rfl)]
    refine wp_append_rat hi hz0 hz1 hz2 V1 _ _ rfl w.heap.size (.slice av k cv) ys (qr X, (a3, c3), (o3, r3)) rfl rfl HV'.out ⟨g3, g3'⟩ HBEL'.out.size (by have := HYL.out; omega) ?_
    intro v' w3 hV3 hgrow
    obtain ⟨hKO, hBl, hBx, -⟩ := rat_append HV'.out HBEL'.out.size hgrow
    have HKP3 := Lib.hid (HKP.out.trans hKO)
    have hb7 := hBx _ _ _ (by decide) HB7'.out
    have hbf := hBx _ _ _ (by decide) HBF'.out
    have hb1 := hBx _ _ _ (by decide) HB1'.out
    have hb2 := hBx _ _ _ (by decide) HB2'.out
    have hx1 := grown_off (HX1'.out.alloc _) hgrow (fun e => by have := HLT.out _ e; omega)
    have hx2 := grown_off (HX2'.out.alloc _) hgrow (fun e => by have := HLT.out _ e; omega)
    have hbel3 := HBEL'.out.trans hBl
    obtain ⟨av', cv', ev'⟩ := hV3.form
    rw [List.length_append, List.length_singleton] at ev'
    subst ev'
    have HB73 := Lib.hid hb7
    have HBF3 := Lib.hid hbf
    have HB13 := Lib.hid hb1
    have HB23 := Lib.hid hb2
    have HX13 := Lib.hid hx1
    have HX23 := Lib.hid hx2
    have HV3 := Lib.hid hV3
    have HBEL3 := Lib.hid hbel3
    have r1 := hb7.cell
    have r2 := hb7.frozen
    clear hKO hBl hBx hb7 hbf hb1 hb2 hx1 hx2 hbel3 hV3 hgrow HB7' HBF' HB1' HB2' HX1' HX2' HV' HBEL' HKP
    refine hK _ _ ⟨⟨HBF3.out, HX13.out, HX23.out⟩, ?_⟩
    clear hK K4
    refine wpAnyH_all (rs := [7]) (by kernel_rfl) (by simp) ?_
    intro i hii
    obtain rfl : i = 7 := by simpa using hii
    refine wpOp_intro rfl (fun K5 hK => ?_)
    clear hii
    go_simp
    have HB7f := Lib.hid (HB73.out.set (.slice av' (ys.length + 1) cv'))
    have HBFf := Lib.hid (HBF3.out.other (B' := w1.heap.size) (by omega) (.slice av' (ys.length + 1) cv'))
    refine hK _ _ ⟨⟨HBFf.out, HX13.out.other (by omega) _, HX23.out.other (by omega) _⟩, ?_⟩
    clear hK K5 r1 r2
    refine wpAnyH_done (by kernel_rfl) ?_ _
    refine ⟨(HKP3.out.trans (KeepsOthers.setCell w3 _ _)).from _, ⟨⟨_, _, take_qr (by have := HZ.out; omega) HMAP.out (by rw [HX.out]), HB7f.out, HV3.out.box HB73.out (by decide) rfl _⟩, HBFf.out, HB13.out.other (by omega) _, HB23.out.other (by omega) _, HBEL3.out.setCell (p := ⟨w1.heap.size, 0, none⟩) (by simp; omega) _⟩⟩
  · refine wpOp_intro rfl (fun K1 hK => ?_)
    go_simp
    refine kc.mono ?_
    rintro ex V1 ⟨a3, c3, o3, r3, rfl, g3, g3', rr⟩
    have HB7' := Lib.hid (boxed_under HB7.out rr)
    have HBF' := Lib.hid (boxed_under HBF.out rr)
    have HB1' := Lib.hid (boxed_under HB1.out rr)
    have HB2' := Lib.hid (boxed_under HB2.out rr)
    have HX1' := Lib.hid (HX1.out.under rr)
    have HX2' := Lib.hid (HX2.out.under rr)
    have HV' := Lib.hid (HV.out.below rr)
    have HBEL' := Lib.hid (then_below HBEL.out rr)
    have HKP := Lib.hid ((KeepsOthers.drew W2).trans (keeps_below rr))
    clear kc rr HB7 HBF HB1 HB2 HX1 HX2 HV HBEL
    refine hK _ _ ⟨⟨HBF'.out, HX1'.out, HX2'.out⟩, ?_⟩
    clear hK K1
    refine wpAnyH_all (rs := [0, 5]) (by kernel_rfl) (by simp) ?_
    intro i hii
    obtain rfl | rfl : i = 0 ∨ i = 5 := by simpa using hii
    clear hii
    · have r1 := HB7'.out.cell
      refine wpOp_intro rfl (fun K2 hK => ?_)
      go_simp
      refine hK _ _ ⟨⟨HBF'.out, HX1'.out, HX2'.out⟩, ?_⟩
      clear hK K2 r1
      refine wpAnyH_all (rs := [5]) (by kernel_rfl) (by simp) ?_
      intro i hii
      obtain rfl : i = 5 := by simpa using hii
      clear hii
      refine wpOp_intro rfl (fun K3 hK => ?_)
      go_simp
      refine hK _ _ ⟨⟨HBF'.out.alloc _, HX1'.out.alloc _, HX2'.out.alloc _⟩, ?_⟩
      clear hK K3
      refine wpAnyH_all (rs := [6]) (by kernel_rfl) (by simp) ?_
      intro i hii
      obtain rfl : i = 6 := by simpa using hii
      refine wpOp_intro rfl (fun K4 hK => ?_)
      clear hii
      rw [if_pos (by rfl)]
      refine wp_append_rat hi hz0 hz1 hz2 V1 _ _ rfl w.heap.size (.slice av k cv) ys (qr X, (a3, c3), (o3, r3)) rfl rfl HV'.out ⟨g3, g3'⟩ HBEL'.out.size (by have := HYL.out; omega) ?_
      intro v' w3 hV3 hgrow
      obtain ⟨hKO, hBl, hBx, -⟩ := rat_append HV'.out HBEL'.out.size hgrow
      have HKP3 := Lib.hid (HKP.out.trans hKO)
      have hb7 := hBx _ _ _ (by decide) HB7'.out
      have hbf := hBx _ _ _ (by decide) HBF'.out
      have hb1 := hBx _ _ _ (by decide) HB1'.out
      have hb2 := hBx _ _ _ (by decide) HB2'.out
      have hx1 := grown_off (HX1'.out.alloc _) hgrow (fun e => by have := HLT.out _ e; omega)
      have hx2 := grown_off (HX2'.out.alloc _) hgrow (fun e => by have := HLT.out _ e; omega)
      have hbel3 := HBEL'.out.trans hBl
      obtain ⟨av', cv', ev'⟩ := hV3.form
      rw [List.length_append, List.length_singleton] at ev'
      subst ev'
      have HB73 := Lib.hid hb7
      have HBF3 := Lib.hid hbf
      have HB13 := Lib.hid hb1
      have HB23 := Lib.hid hb2
      have HX13 := Lib.hid hx1
      have HX23 := Lib.hid hx2
      have HV3 := Lib.hid hV3
      have HBEL3 := Lib.hid hbel3
      have r1 := hb7.cell
      have r2 := hb7.frozen
      clear hKO hBl hBx hb7 hbf hb1 hb2 hx1 hx2 hbel3 hV3 hgrow HB7' HBF' HB1' HB2' HX1' HX2' HV' HBEL' HKP
      refine hK _ _ ⟨⟨HBF3.out, HX13.out, HX23.out⟩, ?_⟩
      clear hK K4
      refine wpAnyH_all (rs := [7]) (by kernel_rfl) (by simp) ?_
      intro i hii
      obtain rfl : i = 7 := by simpa using hii
      refine wpOp_intro rfl (fun K5 hK => ?_)
      clear hii
      go_simp
      have HB7f := Lib.hid (HB73.out.set (.slice av' (ys.length + 1) cv'))
      have HBFf := Lib.hid (HBF3.out.other (B' := w1.heap.size) (by omega) (.slice av' (ys.length + 1) cv'))
      refine hK _ _ ⟨⟨HBFf.out, HX13.out.other (by omega) _, HX23.out.other (by omega) _⟩, ?_⟩
      clear hK K5 r1 r2
      refine wpAnyH_done (by kernel_rfl) ?_ _
      refine ⟨(HKP3.out.trans (KeepsOthers.setCell w3 _ _)).from _, ⟨⟨_, _, take_qr (by have := HZ.out; omega) HMAP.out (by rw [HX.out]), HB7f.out, HV3.out.box HB73.out (by decide) rfl _⟩, HBFf.out, HB13.out.other (by omega) _, HB23.out.other (by omega) _, HBEL3.out.setCell (p := ⟨w1.heap.size, 0, none⟩) (by simp; omega) _⟩⟩
    · refine wpOp_intro rfl (fun K3 hK => ?_)
      go_simp
      refine hK _ _ ⟨⟨HBF'.out.alloc _, HX1'.out.alloc _, HX2'.out.alloc _⟩, ?_⟩
      clear hK K3
      refine wpAnyH_all (rs := [0]) (by kernel_rfl) (by simp) ?_
      intro i hii
      obtain rfl : i = 0 := by simpa using hii
      clear hii
      have r1 := (HB7'.out.alloc (.cells #[.bool (qr X).1, .slice a3 (qr X).2.1.length c3, .slice o3 (qr X).2.2.length r3] 32)).cell
      refine wpOp_intro rfl (fun K2 hK => ?_)
      go_simp
      refine hK _ _ ⟨⟨HBF'.out.alloc _, HX1'.out.alloc _, HX2'.out.alloc _⟩, ?_⟩
      clear hK K2 r1
      refine wpAnyH_all (rs := [6]) (by kernel_rfl) (by simp) ?_
      intro i hii
      obtain rfl : i = 6 := by simpa using hii
      refine wpOp_intro rfl (fun K4 hK => ?_)
      clear hii
      rw [if_pos (by rfl)]
      refine wp_append_rat hi hz0 hz1 hz2 V1 _ _ rfl w.heap.size (.slice av k cv) ys (qr X, (a3, c3), (o3, r3)) rfl rfl HV'.out ⟨g3, g3'⟩ HBEL'.out.size (by have := HYL.out; omega) ?_
      intro v' w3 hV3 hgrow
      obtain ⟨hKO, hBl, hBx, -⟩ := rat_append HV'.out HBEL'.out.size hgrow
      have HKP3 := Lib.hid (HKP.out.trans hKO)
      have hb7 := hBx _ _ _ (by decide) HB7'.out
      have hbf := hBx _ _ _ (by decide) HBF'.out
      have hb1 := hBx _ _ _ (by decide) HB1'.out
      have hb2 := hBx _ _ _ (by decide) HB2'.out
      have hx1 := grown_off (HX1'.out.alloc _) hgrow (fun e => by have := HLT.out _ e; omega)
      have hx2 := grown_off (HX2'.out.alloc _) hgrow (fun e => by have := HLT.out _ e; omega)
      have hbel3 := HBEL'.out.trans hBl
      obtain ⟨av', cv', ev'⟩ := hV3.form
      rw [List.length_append, List.length_singleton] at ev'
      subst ev'
      have HB73 := Lib.hid hb7
      have HBF3 := Lib.hid hbf
      have HB13 := Lib.hid hb1
      have HB23 := Lib.hid hb2
      have HX13 := Lib.hid hx1
      have HX23 := Lib.hid hx2
      have HV3 := Lib.hid hV3
      have HBEL3 := Lib.hid hbel3
      have r1 := hb7.cell
      have r2 := hb7.frozen
      clear hKO hBl hBx hb7 hbf hb1 hb2 hx1 hx2 hbel3 hV3 hgrow HB7' HBF' HB1' HB2' HX1' HX2' HV' HBEL' HKP
      refine hK _ _ ⟨⟨HBF3.out, HX13.out, HX23.out⟩, ?_⟩
      clear hK K4
      refine wpAnyH_all (rs := [7]) (by kernel_rfl) (by simp) ?_
      intro i hii
      obtain rfl : i = 7 := by simpa using hii
      refine wpOp_intro rfl (fun K5 hK => ?_)
      clear hii
      go_simp
      have HB7f := Lib.hid (HB73.out.set (.slice av' (ys.length + 1) cv'))
      have HBFf := Lib.hid (HBF3.out.other (B' := w1.heap.size) (by omega) (.slice av' (ys.length + 1) cv'))
      refine hK _ _ ⟨⟨HBFf.out, HX13.out.other (by omega) _, HX23.out.other (by omega) _⟩, ?_⟩
      clear hK K5 r1 r2
      refine wpAnyH_done (by kernel_rfl) ?_ _
      refine ⟨(HKP3.out.trans (KeepsOthers.setCell w3 _ _)).from _, ⟨⟨_, _, take_qr (by have := HZ.out; omega) HMAP.out (by rw [HX.out]), HB7f.out, HV3.out.box HB73.out (by decide) rfl _⟩, HBFf.out, HB13.out.other (by omega) _, HB23.out.other (by omega) _, HBEL3.out.setCell (p := ⟨w1.heap.size, 0, none⟩) (by simp; omega) _⟩⟩
 case done =>
  rintro D W hD ⟨⟨v, ys, hmap, hbv, hV⟩, hbf, hb1, hb2, hbel⟩ hK
  rw [List.take_of_length_le (by have := HZ.out; omega)] at hmap
  have HMAP := Lib.hid hmap
  have HV := Lib.hid hV
  have HBEL := Lib.hid hbel
  obtain ⟨av, cv, rfl⟩ := hV.form
  have hc := hbv.cell
  clear hmap hV hbv hbf hb1 hb2 hbel
  go_wp2
  refine ⟨by simp, .inl ⟨_, _, rfl, run_takeDeferred hK, ?_⟩⟩
  refine ⟨_, results_tmp rfl _ _ _, _, rfl, ?_, below_left _ HBEL.out (by simp at hD; omega) hK rfl⟩
  have := (HV.out.off (grownBy_putObj' W D (.deferred none)) (offCells_putObj (M := 0) (Nat.zero_le _) hK rfl)).fresh
  rw [HMAP.out] at this
  exact this
 case stop =>
  rintro D c W _ h _
  exact h.elim
end Go.Proofs.YtbndmpdaloadjaaGreat
