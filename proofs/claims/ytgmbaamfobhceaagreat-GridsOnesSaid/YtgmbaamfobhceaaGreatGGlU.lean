/- A row of small whole numbers, as the law package makes it; what comes of such rows. The law package's own helpers over grids: is a grid too great; .. -/
import Derived.Test.YtgmbaamfobhceaaGreatGNtG
import Derived.Test.YtgmbaamfobhceaaGreatGVecF
import Derived.Test.YtgmbaamfobhceaaGreatGGrC
import Derived.Test.YtgmbaamfobhceaaGreatGGrR
set_option linter.unusedSimpArgs false
set_option linter.unusedVariables false
set_option maxRecDepth 100000
set_option maxHeartbeats 4000000
namespace Go.Proofs.YtgmbaamfobhceaaGreat
section
open Go Go.Proofs Go.RowKit Go.Shelf Nu
attribute [local go_sem] Oper.semAt_some
def ints (zs : List Int) : List Rat := zs.map fun (z : Int) => (z : Rat)
theorem ints_at {zs : List Int} {j : Nat} (h : j < zs.length) : (ints zs).getD j 0 = ((zs.getD j 0 : Int) : Rat) := by
 simp [ints, List.getD_eq_getElem?_getD, List.getElem?_eq_getElem h]
theorem v_of_at {w : World} {b m : Nat} (zs : List Int) (hm : m = zs.length) (hl : zs.length ≤ 10) (hz : ∀ z ∈ zs, -1000 ≤ z ∧ z ≤ 1000) (hb : b < w.heap.size) (hc : ∀ j, j < m → w.cell? ⟨b, j, none⟩ = some (.int .i64 (zs.getD j 0))) :
    Calls Tryz.prog 42 #[.slice (some ⟨b, 0, none⟩) m m] w fun e w' => ∃ v, e = .returned v ∧ VFresh w' w.heap.size v ((ints zs).map qr) ∧ Below w.heap.size w w' := by
  obtain ⟨i0, hi, hz0, hz1, hz2⟩ := info_parts info_rat
  have hil : (ints zs).length = m := by simp [ints, hm]
  have hia : ∀ j, j < m → (ints zs).getD j 0 = ((zs.getD j 0 : Int) : Rat) := fun j hj => ints_at (by omega)
  have hbd : ∀ j, j < m → -1000 ≤ zs.getD j 0 ∧ zs.getD j 0 ≤ 1000 := fun j hj => hz _ (by
    rw [List.getD_eq_getElem?_getD, List.getElem?_eq_getElem (show j < zs.length by omega)]; exact List.getElem_mem _)
  have HIL := Lib.hid hil
  have HIA := Lib.hid hia
  have HBD := Lib.hid hbd
  have HC := Lib.hid hc
  have hm10 : m ≤ 10 := by omega
  generalize ints zs = xs at *
  clear hm hl hz hc hil hia hbd
  go_enter Tryz.func42, Tryz.ntmps42
  go_wp2
  go_loopw [3, 4] (fun v i wr => ∃ (k : Nat) (ys : List Zr) (av : Option Addr) (cv : Nat), k ≤ m ∧ i = .int .i64 k ∧ v = .slice av k cv ∧ Hid (ys.map (·.1) = (xs.take k).map qr) ∧ Hid (VF wr w.heap.size (.slice av k cv) ys) ∧ Hid (Below w.heap.size w wr)) (fun _ i _ => m - (intOf i).toNat)
  case atStart => exact ⟨0, [], none, 0, Nat.zero_le _, rfl, rfl, Lib.hid rfl, Lib.hid (VF.nil _ _), Lib.hid (Below.refl _ _)⟩
  case round =>
    obtain ⟨k, ys, av, cv, hk, rfl, rfl, HM, HV, HB⟩ := hrel
    by_cases hlt : k < m
    · have hyl : ys.length = k := by
        have := congrArg List.length HM.out
        simp only [List.length_map, List.length_take] at this
        have := HIL.out; omega
      have HYL := Lib.hid hyl
      have hx := HIA.out k hlt
      have hcell := (HB.out.cell (p := ⟨b, k, none⟩) hb).trans (HC.out k hlt)
      have hbd := HBD.out k hlt
      generalize zs.getD k 0 = z at *
      have k0 := fun (W : World) => r_of (w := W) (s := (qr (z : Rat)).1) (L := (qr (z : Rat)).2.1) (D := (qr (z : Rat)).2.2) z (qr_can _) (by omega) (by omega)
      have HXX := Lib.hid hx
      generalize (z : Rat) = X at *
      clear hyl hx HC hbd
      go_wp2_with fail
      refine (k0 _).mono ?_
      rintro e w2 ⟨a3, c3, o3, r3, rfl, g, g', rr⟩
      have HB2 := Lib.hid (then_below HB.out rr)
      have HV2 := Lib.hid (HV.out.below rr)
      clear rr HB HV
      have hs2 : w.heap.size ≤ w2.heap.size := HB2.out.size
      go_wp2_with ((at_builtin; go_loud (refine wpList_append_rat hi hz0 hz1 hz2 w2 rfl _ _ rfl w.heap.size (.slice av k cv) ys (qr X, (a3, c3), (o3, r3)) rfl rfl HV2.out ⟨g, g'⟩ hs2 (by have := HYL.out; omega) ?_); intro v' w3 hV3 hgrow; have hap := rat_append HV2.out hs2 hgrow; obtain ⟨av', cv', ev'⟩ := hV3.form; rw [List.length_append, List.length_singleton, HYL.out] at ev'; subst ev'; have HV3 := Lib.hid hV3; have HB3 := Lib.hid (HB2.out.trans hap.2.1); clear hV3 hap hgrow HV2 HB2))
      go_roundw
      case rel => exact ⟨k + 1, ys ++ [(qr X, (a3, c3), (o3, r3))], av', cv', by omega, by simp, rfl, Lib.hid (take_qr (by have := HIL.out; omega) HM.out (by rw [HXX.out])), HV3, HB3⟩
      case measure => simp [intOf]; omega
    · obtain rfl : k = m := by omega
      clear HIA HC HBD
      go_wp2
      go_ret
      have hm := HM.out
      rw [List.take_of_length_le (by have := HIL.out; omega)] at hm
      have hv := HV.out.fresh
      rw [hm] at hv
      exact ⟨_, rfl, hv, HB.out⟩
theorem v_of {W : World} (zs : List Int) {vs : Array Value} (hv : vs = (zs.map fun z => Value.int .i64 z).toArray) {m : Nat} (hm : m = zs.length) (hl : zs.length ≤ 10) (hz : ∀ z ∈ zs, -1000 ≤ z ∧ z ≤ 1000) :
   Calls Tryz.prog 42 #[.slice (some ⟨W.heap.size, 0, none⟩) m m] (W.alloc (.cells vs 2)) fun e w' => ∃ v, e = .returned v ∧ VFresh w' W.heap.size v ((ints zs).map qr) ∧ Below W.heap.size W w' := by
 subst hv; subst hm
 have al : Below W.heap.size W (W.alloc (.cells (zs.map fun z => Value.int .i64 z).toArray 2)) := (Below.refl _ _).alloc (Nat.le_refl _) _
 refine (v_of_at zs rfl hl hz (by simp) (fun j hj => ?_)).mono ?_
 · unfold World.cell?
   rw [World.alloc_heap_new]
   simp [List.getElem?_map, List.getD_eq_getElem?_getD, List.getElem?_eq_getElem hj]
 · rintro e w' ⟨v, rfl, hv, r⟩
   exact ⟨v, rfl, hv.mono (by simp), then_below al r⟩
theorem wts_ints (zs : List Int) (h : ∀ z ∈ zs, -1000 ≤ z ∧ z ≤ 1000) : wts (ints zs) = zs.length := by
 induction zs with
 | nil => rfl
 | cons z t ih =>
  have h1 := h z (by simp)
  show wt (z : Rat) + wts (ints t) = t.length + 1
  rw [ih (fun x hx => h x (by simp [hx])), wt_int z (by omega)]; omega
theorem qrows_ints (zs : List Int) (h : ∀ z ∈ zs, -1000 ≤ z ∧ z ≤ 1000) (hl : zs.length ≤ 100) : qrows ((ints zs).map qr) :=
 ⟨fit_qrs (by rw [wts_ints zs h]; omega), by simp [ints]; omega⟩
section
variable {W : World}
theorem o_of {b : Nat} (hb : W.heap.size = b) (zs : List Int) {vs : Array Value} (hv : vs = (zs.map fun z => Value.int .i64 z).toArray) {m : Nat} (hm : m = zs.length) (hl : zs.length ≤ 10) (hz : ∀ z ∈ zs, -1000 ≤ z ∧ z ≤ 1000) :
  Calls Tryz.prog 42 #[.slice (some ⟨b, 0, none⟩) m m] (W.alloc (.cells vs 2)) fun e w' => ∃ a c, e = .returned (.slice a m c) ∧ VReads w' (.slice a m c) ((ints zs).map qr) ∧ Below W.heap.size W w' := by
 subst hb
 exact (v_of zs hv hm hl hz).mono fun e w' h => by
  obtain ⟨v, rfl, hf, r⟩ := h
  have hr := hf.reads
  obtain ⟨a, c, rfl⟩ := hr.form
  have e : ((ints zs).map qr).length = m := by simp [ints, hm]
  rw [e] at hr ⊢
  exact ⟨a, c, rfl, hr, r⟩
theorem o_same {a1 a2 : Option Addr} {n c1 c2 : Nat} {zs : List Int} (hz : ∀ z ∈ zs, -1000 ≤ z ∧ z ≤ 1000) (hl : zs.length ≤ 100) (h1 : VReads W (.slice a1 n c1) ((ints zs).map qr)) (h2 : VReads W (.slice a2 n c2) ((ints zs).map qr)) :
  Calls Tryz.prog 21 #[.slice a1 n c1, .slice a2 n c2] W fun e w' => e = .returned (.bool true) ∧ Below W.heap.size W w' :=
 v_same true (by simp) h1 h2 (by rw [wts_ints zs hz]; omega) (by rw [wts_ints zs hz]; omega)
end
end
section
open Go Go.Proofs Go.RowKit Go.Shelf Nu
set_option linter.unusedVariables false
set_option linter.unusedSimpArgs false
set_option maxRecDepth 100000
attribute [local go_sem] Oper.semAt_some
theorem lit_grid {W : World} (l : List (Value × List Qr)) (h : ∀ p ∈ l, VReads W p.1 p.2) {vs : Array Value} (hv : vs = (l.map (·.1)).toArray) {b m : Nat} (hb : W.heap.size = b) (hm : m = l.length) :
    GridR (W.alloc (.cells vs 30)) (.slice (some ⟨b, 0, none⟩) m m) (l.map (·.2)) := by
  subst hb; subst hv; subst hm
  have al : Below W.heap.size W (W.alloc (.cells (l.map (·.1)).toArray 30)) := (Below.refl _ _).alloc (Nat.le_refl _) _
  have hB := BoxN.new W 30 (l.map (·.1)).toArray
  refine ⟨some ⟨W.heap.size, 0, none⟩, l.length, by rw [List.length_map], by rw [List.length_map]; exact Nat.le_refl _, fun _ => ⟨W.heap.size, 0, rfl, hB.lt, fun j x hx => ?_⟩⟩
  rw [List.getElem?_map] at hx
  cases hp : l[j]? with
  | none => rw [hp] at hx; cases hx
  | some p =>
    rw [hp] at hx
    cases hx
    refine ⟨p.1, ?_, (h p (List.mem_of_getElem? hp)).below al⟩
    rw [Nat.zero_add, Nat.mul_one]
    refine hB.cell j _ ?_
    simp [hp]
def ggreat (rows : List (List Qr)) : Bool := decide (8 < rows.length) || decide (300 < gsize rows) || rows.any fun r => decide (8 < r.length)
theorem gl_great {w : World} {a : Option Addr} {n cap : Nat} {rows : List (List Qr)} (h : GridR w (.slice a n cap) rows) (hq : GBig rows) (R : Bool) (hR : R = ggreat rows) :
   Calls Tryz.prog 12 #[.slice a n cap] w fun e w' => e = .returned (.bool R) ∧ Below w.heap.size w w' := by
 obtain ⟨hl, hcap, hA⟩ := h.addr
 have KS := Lib.hid (gridSize_any h hq)
 have HA := Lib.hid hA
 have HL := Lib.hid hl
 obtain ⟨G, hG⟩ : ∃ G, G = gsize rows := ⟨_, rfl⟩
 have hR2 : R = (decide (8 < n) || decide (300 < G) || rows.any fun r => decide (8 < r.length)) := by rw [hR, ggreat, hG, hl]
 rw [← hG] at KS
 have HR := Lib.hid hR2
 have hn : n ≤ 70368744177664 := by rw [hl]; exact hq.1
 have HB := Lib.hid hq.2
 clear h hA hq hl hR hR2 hG
 by_cases h8 : 8 < n
 · have h0 : R = true := by rw [HR.out, decide_eq_true h8]; rfl
   have j1 : (8 : Int) < (n : Int) := by omega
   have j2 : decide ((8 : Int) < (n : Int)) = true := decide_eq_true j1
   have H0 := Lib.hid h0
   clear h0 h8
   go_enter Tryz.func12, Tryz.ntmps12
   go_wp2_with fail
   go_ret
   exact ⟨ret_bool H0.out.symm, Below.refl _ _⟩
 have j1 : ¬ (8 : Int) < (n : Int) := by omega
 have j2 : decide ((8 : Int) < (n : Int)) = false := decide_eq_false j1
 by_cases h3 : 300 < G
 · have h0 : R = true := by rw [HR.out, decide_eq_true h3, Bool.or_true]; rfl
   have j3 : (300 : Int) < (G : Int) := by omega
   have j4 : decide ((300 : Int) < (G : Int)) = true := decide_eq_true j3
   have H0 := Lib.hid h0
   clear h0 h8 h3
   go_enter Tryz.func12, Tryz.ntmps12
   go_wp2_with fail
   refine KS.out.mono ?_
   rintro e w1 ⟨rfl, rr⟩
   have HB1 := Lib.hid rr
   clear rr
   go_wp2_with fail
   go_ret
   exact ⟨ret_bool H0.out.symm, HB1.out⟩
 have j3 : ¬ (300 : Int) < (G : Int) := by omega
 have j4 : decide ((300 : Int) < (G : Int)) = false := decide_eq_false j3
 have HR2 := Lib.hid (show R = rows.any fun r => decide (8 < r.length) by rw [HR.out, decide_eq_false h8, decide_eq_false h3]; rfl)
 clear HR h3
 go_enter Tryz.func12, Tryz.ntmps12
 go_wp2_with fail
 refine KS.out.mono ?_
 rintro e w1 ⟨rfl, rr⟩
 have HB1 := Lib.hid rr
 clear rr KS
 go_wp2_with fail
 go_loopg [3] n (fun x i wr => ∃ k : Nat, k + x = n ∧ i = .int .i64 (k : Int) ∧ Hid (∀ j r, j < k → rows[j]? = some r → ¬ 8 < r.length) ∧ Hid (Below w.heap.size w wr))
 case atStart => exact ⟨0, by omega, rfl, Lib.hid (fun j r hj => by omega), HB1⟩
 case round => as_aux_lemma =>
   clear HB1
   obtain ⟨k, hk, rfl, HN, HW⟩ := hrel
   by_cases hlt : k < n
   · obtain ⟨b, off, rfl, hbl, hc⟩ := HA.out (by omega)
     obtain ⟨qs, hqs⟩ : ∃ qs, rows[k]? = some qs := ⟨_, List.getElem?_eq_getElem (by have := HL.out; omega)⟩
     obtain ⟨u, hu, hv⟩ := hc k qs hqs
     have hu2 := (HW.out.cell (p := ⟨b, off + k * 1, none⟩) hbl).trans hu
     rw [Nat.mul_one] at hu2
     obtain ⟨a2, c2, rfl⟩ := hv.form
     have HQ := Lib.hid (show 8 < qs.length → R = true from fun h => by rw [HR2.out, List.any_eq_true]; exact ⟨qs, List.mem_of_getElem? hqs, decide_eq_true h⟩)
     have HS := Lib.hid (show ¬ 8 < qs.length → ∀ j r, j < k + 1 → rows[j]? = some r → ¬ 8 < r.length from fun h j r hj e => by
       by_cases ej : j = k
       · subst ej; rw [hqs] at e; cases e; exact h
       · exact HN.out j r (by omega) e)
     have n0 : (0 : Int) ≤ (k : Int) := by omega
     have l0 : (k : Int) < (n : Int) := by omega
     have w0 : IntKind.i64.wrap ((k : Int) + 1) = ((k + 1 : Nat) : Int) := IntWalk.i64_in _ (by omega)
     obtain ⟨m, hm⟩ : ∃ m, m = qs.length := ⟨_, rfl⟩
     rw [← hm] at hu2 HQ HS
     clear hu hc HA hv hqs hm
     by_cases hm8 : 8 < m
     · have i1 : (8 : Int) < (m : Int) := by omega
       have H0 := Lib.hid (HQ.out hm8)
       go_wp2_with fail
       go_ret
       exact ⟨ret_bool H0.out.symm, HW.out⟩
     · have i1 : ¬ (8 : Int) < (m : Int) := by omega
       have H0 := Lib.hid (HS.out hm8)
       go_wp2_with fail
       go_roundg (n - (k + 1))
       case measure => omega
       case rel => exact ⟨k + 1, by omega, by first | rfl | simp, H0, HW⟩
   · have l0 : ¬ (k : Int) < (n : Int) := by omega
     have H0 := Lib.hid (show R = false by
       rw [HR2.out, List.any_eq_false]
       intro r hr
       obtain ⟨j, hj, e⟩ := List.getElem_of_mem hr
       have := HN.out j r (by have := HL.out; omega) (by rw [List.getElem?_eq_getElem hj, e])
       simpa using this)
     go_wp2_with fail
     go_ret
     exact ⟨ret_bool H0.out.symm, HW.out⟩
theorem g_turn_no {w : World} {a : Option Addr} {n cap : Nat} {rows : List (List Qr)} (h : GridR w (.slice a n cap) rows) (hq : grows rows) (hno : gokB rows = false) :
  Calls Tryz.prog 14 #[.slice a n cap] w fun e w' => e = .returned (.tuple #[.slice none 0 0, .int .i64 1]) ∧ Below w.heap.size w w' := by
 have k1 := Lib.hid (g_check false hno.symm h hq)
 clear h hq hno
 go_enter Tryz.func14, Tryz.ntmps14
 go_wp2_with fail
 refine k1.out.mono ?_
 rintro e w1 ⟨rfl, rr⟩
 have B1 := Lib.hid rr
 clear rr k1
 go_wp2_with fail
 go_ret2
 exact ⟨rfl, B1.out⟩
theorem g_times_no {w : World} {a a2 : Option Addr} {n cap m c2 : Nat} {rows : List (List Qr)} {xs : List Qr} (h : GridR w (.slice a n cap) rows) (hx : VReads w (.slice a2 m c2) xs) (hq : grows rows) (hxq : qrows xs) (hm : m ≤ 60000)
   (hno : gokB rows = false ∨ gokB rows = true ∧ xs.all qok = false ∨ gokB rows = true ∧ xs.all qok = true ∧ 0 < n ∧ m ≠ cols rows) :
   Calls Tryz.prog 20 #[.slice a n cap, .slice a2 m c2] w fun e w' => e = .returned (.tuple #[.slice none 0 0, .int .i64 1]) ∧ Below w.heap.size w w' := by
 rcases hno with hno | ⟨hy, hno⟩ | ⟨hy, hy2, h0, hne⟩
 · have k1 := Lib.hid (g_check false hno.symm h hq)
   clear h hx hq hxq hno
   go_enter Tryz.func20, Tryz.ntmps20
   go_wp2_with fail
   refine k1.out.mono ?_
   rintro e w1 ⟨rfl, rr⟩
   have B1 := Lib.hid rr
   clear rr k1
   go_wp2_with fail
   go_ret2
   exact ⟨rfl, B1.out⟩
 · have k1 := Lib.hid (g_check true hy.symm h hq)
   have k2 := Lib.hid (fun (W : World) (r : Below w.heap.size w W) => v_check false hno.symm (hx.below r) hxq)
   clear h hx hq hxq hno hy
   go_enter Tryz.func20, Tryz.ntmps20
   go_wp2_with fail
   refine k1.out.mono ?_
   rintro e w1 ⟨rfl, rr⟩
   have B1 := Lib.hid rr
   clear rr k1
   go_wp2_with fail
   refine (k2.out _ B1.out).mono ?_
   rintro e w2 ⟨rfl, rr⟩
   have B2 := Lib.hid (then_below B1.out rr)
   clear rr k2 B1
   go_wp2_with fail
   go_ret2
   exact ⟨rfl, B2.out⟩
 · have k1 := Lib.hid (g_check true hy.symm h hq)
   have k2 := Lib.hid (fun (W : World) (r : Below w.heap.size w W) => v_check true hy2.symm (hx.below r) hxq)
   have hn : n ≤ 1000 := by rw [h.addr.1]; exact hq.1
   have k3 := Lib.hid (fun (W : World) (r : Below w.heap.size w W) => g_columns (h.below r) hn)
   obtain ⟨K, hK⟩ : ∃ K, K = cols rows := ⟨_, rfl⟩
   rw [← hK] at k3 hne
   have q1 : (0 : Int) < (n : Int) := by omega
   have q1' : decide ((0 : Int) < (n : Int)) = true := decide_eq_true q1
   have q2 : ((m : Int) != (K : Int)) = true := bne_iff_ne.2 (by omega)
   clear h hx hq hxq hy hy2 hK hne
   go_enter Tryz.func20, Tryz.ntmps20
   go_wp2_with fail
   refine k1.out.mono ?_
   rintro e w1 ⟨rfl, rr⟩
   have B1 := Lib.hid rr
   clear rr k1
   go_wp2_with fail
   refine (k2.out _ B1.out).mono ?_
   rintro e w2 ⟨rfl, rr⟩
   have B2 := Lib.hid (then_below B1.out rr)
   clear rr k2 B1
   go_wp2_with (go_at_call 44; refine (k3.out _ B2.out).mono ?_; rintro e w3 ⟨rfl, rfl⟩)
   go_ret2
   exact ⟨rfl, B2.out⟩
end
section
open Go Go.Proofs Go.RowKit Go.Shelf Nu
set_option linter.unusedVariables false
set_option linter.unusedSimpArgs false
def times (R : List (List Rat)) (x : List Rat) : List Rat := R.map fun r => dot r x
theorem times_len (R : List (List Rat)) (x : List Rat) : (times R x).length = R.length := by simp [times]
theorem dot_axpy2 (t : Rat) (a b c : List Rat) (h : a.length = b.length) : dot c (axpy t a b) = dot c a + t * dot c b := by
 rw [dot_comm, dot_axpy t a b c h, dot_comm a c, dot_comm b c]
theorem turned_cons {r : List Rat} {R : List (List Rat)} {m : Nat} {y0 : Rat} {ys : List Rat} (hr : r.length = m) : times (turned (r :: R) m) (y0 :: ys) = axpy y0 (times (turned R m) ys) r := by
 apply List.ext_getElem
 · simp [times, turned, axpy, hr]
 · intro k h1 h2
   have hk : k < m := by simpa [times, turned] using h1
   simp only [times, turned, axpy, List.getElem_map, List.getElem_range, List.getElem_zipWith]
   show dot (r.getD k 0 :: tcol R k) (y0 :: ys) = _
   rw [dot_cons, List.getD_eq_getElem?_getD, List.getElem?_eq_getElem (by omega)]
   show r[k] * y0 + dot (tcol R k) ys = dot (tcol R k) ys + r[k] * y0
   grind
theorem turned_nil (m : Nat) (ys : List Rat) : times (turned [] m) ys = zeros m := by
 apply List.ext_getElem
 · simp [times, turned, zeros]
 · intro k h1 h2
   simp only [times, turned, zeros, List.getElem_map, List.getElem_range, List.getElem_replicate]
   rfl
theorem dots_turned (R : List (List Rat)) (m : Nat) (x y : List Rat) (hR : ∀ r ∈ R, r.length = m) (hx : x.length = m) (hy : y.length = R.length) : dot (times R x) y = dot x (times (turned R m) y) := by
 induction R generalizing y with
 | nil =>
  rw [turned_nil, ← hx, dot_zeros]
  rfl
 | cons r R ih =>
  cases y with
  | nil => simp at hy
  | cons y0 ys =>
   have h1 := ih ys (fun s hs => hR s (by simp [hs])) (by simpa using hy)
   have hr := hR r (by simp)
   rw [turned_cons hr, dot_axpy2 _ _ _ _ (by rw [times_len]; simp [turned, hr]), ← h1]
   show dot r x * y0 + dot (times R x) ys = _
   rw [dot_comm x r]
   grind
theorem wt_times {R : List (List Rat)} {x : List Rat} {k : Nat} (h : ∀ r ∈ R, wts r + wts x + 1 ≤ k) : ∀ y ∈ times R x, wt y ≤ k := by
 intro y hy
 obtain ⟨r, hr, rfl⟩ := List.mem_map.1 hy
 have h1 := wt_rsum (zmul r x)
 have h2 := wts_zmul r x
 have h3 := h r hr
 show wt (rsum (zmul r x)) ≤ k
 omega
theorem wts_all {l : List Rat} {k : Nat} (h : ∀ x ∈ l, wt x ≤ k) : wts l ≤ l.length * k := by
 induction l with
 | nil => show 0 ≤ _; omega
 | cons x l ih =>
  have h1 := ih (fun y hy => h y (by simp [hy]))
  have h2 := h x (by simp)
  show wt x + wts l ≤ (l.length + 1) * k
  rw [Nat.add_mul, Nat.one_mul]; omega
end
section
open Go Go.Proofs Go.RowKit Go.Shelf Nu
set_option linter.unusedVariables false
set_option linter.unusedSimpArgs false
set_option maxRecDepth 100000
attribute [local go_sem] Oper.semAt_some
theorem row_ok {qs : List Qr} {M : Nat} (hM : M ≤ 8000) (hb : ∀ q ∈ qs, Big q) (hg : rsize qs ≤ M) (hk : qs.all qok = true) : qs = (qs.map qval).map qr ∧ wts (qs.map qval) ≤ M := by
 have hf := fit_of_small (n := qs.length) (by omega) hb hg
 have e := fits_eq hf hk
 refine ⟨e, ?_⟩
 have h1 := wts_psum (qs.map qval)
 rw [← e] at h1
 have := ssz_small (by omega) hg
 omega
theorem qrows_small {qs : List Qr} {M : Nat} (hM : M ≤ 8000) (hb : ∀ q ∈ qs, Big q) (hg : rsize qs ≤ M) : qrows qs := ⟨fit_of_small (n := qs.length) (by omega) hb hg, by have := ssz_small (by omega) hg; omega⟩
def gval (rows : List (List Qr)) : List (List Rat) := rows.map fun r => r.map qval
theorem gval_len (rows : List (List Qr)) : (gval rows).length = rows.length := by unfold gval; rw [List.length_map]
theorem grid_ok {rows : List (List Qr)} {M : Nat} (hM : M ≤ 8000) (hb : GBig rows) (hg : gsize rows ≤ M) (hk : gokB rows = true) : rows = gq (gval rows) ∧ (∀ r ∈ gval rows, r.length = cols rows) ∧ ∀ r ∈ gval rows, wts r ≤ M := by
 have hs := lsz_small rsize (by omega) hg
 unfold gokB at hk
 rw [List.all_eq_true] at hk
 have hr : ∀ r ∈ rows, r.length = cols rows ∧ r = (r.map qval).map qr ∧ wts (r.map qval) ≤ M := fun r hr => by
   have h1 := hk r hr
   rw [Bool.and_eq_true] at h1
   have h2 := lsum_mem rsize hr
   exact ⟨of_decide_eq_true h1.1, row_ok hM (hb.2 r hr).2 (by omega) h1.2⟩
 refine ⟨?_, ?_, ?_⟩
 · unfold gq gval
   rw [List.map_map]
   conv => lhs; rw [← List.map_id rows]
   exact List.map_congr_left fun r h => (hr r h).2.1
 · intro r h
   obtain ⟨s, hs', rfl⟩ := List.mem_map.1 h
   rw [List.length_map]; exact (hr s hs').1
 · intro r h
   obtain ⟨s, hs', rfl⟩ := List.mem_map.1 h
   exact (hr s hs').2.2
theorem grows_small {rows : List (List Qr)} {M : Nat} (hM : M ≤ 1000) (hb : GBig rows) (hg : gsize rows ≤ M) : grows rows := by
 have hs := lsz_small rsize (by omega) hg
 refine ⟨by omega, fun r hr => ?_⟩
 have h2 := lsum_mem rsize hr
 exact qrows_small (M := M) (by omega) (hb.2 r hr).2 (by omega)
theorem ggreat_no {rows : List (List Qr)} (h : ggreat rows = false) : rows.length ≤ 8 ∧ gsize rows ≤ 300 ∧ ∀ r ∈ rows, r.length ≤ 8 := by
 unfold ggreat at h
 rw [Bool.or_eq_false_iff, Bool.or_eq_false_iff] at h
 obtain ⟨⟨h1, h2⟩, h3⟩ := h
 rw [List.any_eq_false] at h3
 refine ⟨by have := of_decide_eq_false h1; omega, by have := of_decide_eq_false h2; omega, fun r hr => ?_⟩
 have := h3 r hr
 simp only [decide_eq_true_eq] at this
 omega
theorem cols_le {rows : List (List Qr)} {M : Nat} (h : ∀ r ∈ rows, r.length ≤ M) : cols rows ≤ M := by
 unfold cols
 cases rows with
 | nil => exact Nat.zero_le _
 | cons r t => exact h r (by simp)
theorem g_times_any {w : World} {a a2 : Option Addr} {n cap m c2 : Nat} {rows : List (List Qr)} {xs : List Qr} {R : List (List Rat)} {X : List Rat} (h : GridR w (.slice a n cap) rows) (hx : VReads w (.slice a2 m c2) xs) (hq : grows rows) (hxq : qrows xs) (hm : m ≤ 60000)
  (hR : gokB rows = true → rows = gq R ∧ ∀ r ∈ R, r.length = cols rows) (hX : xs.all qok = true → xs = X.map qr) (hw : gokB rows = true → xs.all qok = true → (∀ r ∈ R, wts r + wts X ≤ 8900) ∧ wts X ≤ 8900) :
  Calls Tryz.prog 20 #[.slice a n cap, .slice a2 m c2] w fun e w' => ∃ (va : Option Addr) (vn vc : Nat) (er : Int), e = .returned (.tuple #[.slice va vn vc, .int .i64 er]) ∧ Below w.heap.size w w' ∧ (er = 0 ∧ vn = n ∧ gokB rows = true ∧ xs.all qok = true ∧ (0 < n → m = cols rows) ∧ VReads w' (.slice va n vc) ((times R X).map qr) ∨ er = 1) := by
 have no : (gokB rows = false ∨ gokB rows = true ∧ xs.all qok = false ∨ gokB rows = true ∧ xs.all qok = true ∧ 0 < n ∧ m ≠ cols rows) → Calls Tryz.prog 20 #[.slice a n cap, .slice a2 m c2] w fun e w' => ∃ (va : Option Addr) (vn vc : Nat) (er : Int), e = .returned (.tuple #[.slice va vn vc, .int .i64 er]) ∧ Below w.heap.size w w' ∧ (er = 0 ∧ vn = n ∧ gokB rows = true ∧ xs.all qok = true ∧ (0 < n → m = cols rows) ∧ VReads w' (.slice va n vc) ((times R X).map qr) ∨ er = 1) := fun hno =>
  (g_times_no h hx hq hxq hm hno).mono fun e w' ⟨e1, e2⟩ => ⟨none, 0, 0, 1, e1, e2, .inr rfl⟩
 cases h1 : gokB rows with
 | false => rw [h1] at no; exact no (.inl rfl)
 | true =>
  cases h2 : xs.all qok with
  | false => rw [h1, h2] at no; exact no (.inr (.inl ⟨rfl, rfl⟩))
  | true =>
   by_cases h3 : 0 < n ∧ m ≠ cols rows
   · rw [h1, h2] at no; exact no (.inr (.inr ⟨rfl, rfl, h3.1, h3.2⟩))
   · have hmc : 0 < n → m = cols rows := fun h0 => by
       by_cases e : m = cols rows
       · exact e
       · exact absurd ⟨h0, e⟩ h3
     obtain ⟨hr1, hr2⟩ := hR h1
     have hx1 := hX h2
     obtain ⟨hw1, hw2⟩ := hw h1 h2
     have hl : n = rows.length := h.addr.1
     have hmx : m = X.length := by have := hx.addr.1; rw [hx1, List.length_map] at this; exact this
     have hn : n ≤ 1000 := by rw [hl]; exact hq.1
     refine (g_times (hr1 ▸ h) (hx1 ▸ hx) hn hm (fun r hr => ?_) hw1 hw2).mono ?_
     · rw [hr2 r hr, ← hmx]
       refine (hmc ?_).symm
       rw [hl, hr1]; unfold gq; rw [List.length_map]; exact List.length_pos_of_mem hr
     · rintro e w' ⟨v, rfl, hv, rr⟩
       have hvr := hv.reads
       obtain ⟨va, vc, rfl⟩ := hvr.form
       have hvl : ((R.map fun r => dot r X).map qr).length = n := by rw [List.length_map, List.length_map, hl, hr1]; unfold gq; rw [List.length_map]
       rw [hvl] at hvr
       exact ⟨va, _, vc, 0, rfl, rr, .inl ⟨rfl, hvl, rfl, rfl, hmc, hvr⟩⟩
theorem besd_all {R : List (List Rat)} {xs : List Rat} {N : Nat} (hR : ∀ r ∈ R, r.length = N) : ∀ r ∈ besd R xs, r.length = N + 1 := by
 intro r hr
 unfold besd at hr
 obtain ⟨k, hk, rfl⟩ := List.getElem_of_mem hr
 rw [List.getElem_zipWith, List.length_append, hR _ (List.getElem_mem _)]; rfl
theorem grows_each {R : List (List Rat)} {N : Nat} (hn : R.length ≤ 1000) (hR : ∀ r ∈ R, r.length = N) (hN : N ≤ 1000) (hw : ∀ r ∈ R, ∀ x ∈ r, wt x ≤ 9000) : grows (gq R) := by
 refine ⟨by unfold gq; rw [List.length_map]; exact hn, fun r hr => ?_⟩
 obtain ⟨s, hs, rfl⟩ := List.mem_map.1 hr
 have hl := hR s hs
 exact ⟨fit_each fun x hx => Nat.le_trans (hw s hs x hx) (by omega), by rw [List.length_map]; omega⟩
theorem g_solve {w : World} {a a2 : Option Addr} {n cap c2 N : Nat} {R : List (List Rat)} {xs : List Rat} (h : GridR w (.slice a n cap) (gq R)) (hx : VReads w (.slice a2 n c2) (xs.map qr)) (h0 : 0 < n) (hn : n ≤ 1000) (hR : ∀ r ∈ R, r.length = N) (hN : N ≤ 900) (hwx : ∀ x ∈ xs, wt x ≤ 3000) (hwr : ∀ r ∈ R, ∀ x ∈ r, wt x ≤ 3000) (hf : fine (besd R xs) (N + 1)) (S1 : List (List Rat)) (S2 : List Nat) (hS : stp (besd R xs) (N + 1) = (S1, S2)) (hst : N ∉ S2 → ¬ S2.length < N → S2.length = N ∧ N ≤ n ∧ steep S1 N) :
   Calls Tryz.prog 19 #[.slice a n cap, .slice a2 n c2] w fun e w' => ∃ (va : Option Addr) (vn vc : Nat) (er : Int), e = .returned (.tuple #[.slice va vn vc, .int .i64 er]) ∧ Below w.heap.size w w' ∧ (N ∈ S2 ∧ vn = 0 ∧ er = 6 ∨ N ∉ S2 ∧ S2.length < N ∧ vn = 0 ∧ er = 8 ∨ N ∉ S2 ∧ S2.length = N ∧ er = 0 ∧ vn = N ∧ VReads w' (.slice va N vc) ((sol S1 N N).map qr)) := by
 have hl : R.length = n := by have := h.addr.1; unfold gq at this; rw [List.length_map] at this; exact this.symm
 have hxl : xs.length = n := by have := hx.addr.1; simpa using this.symm
 have k1 := Lib.hid (g_check true (gok_gq hR).symm h (grows_each (by omega) hR (by omega) (fun r hr x hx => Nat.le_trans (hwr r hr x hx) (by omega))))
 have k2 := Lib.hid (fun (W : World) (r : Below w.heap.size w W) => v_check true (by rw [all_qok_qr]) (hx.below r) ⟨fit_each (fun x hx => Nat.le_trans (hwx x hx) (by omega)), by rw [List.length_map]; omega⟩)
 have k3 := Lib.hid (fun (W : World) (r : Below w.heap.size w W) => g_beside (h.below r) (hx.below r) h0 hn hR (by omega))
 have k4 := Lib.hid (fun (W : World) {v : Option Addr} {vc : Nat} (hg : GridR W (.slice v n vc) (gq (besd R xs))) => show Calls Tryz.prog 47 #[.slice v n vc] W fun e w' => ∃ B g cap' la lc vs, e = .returned (.pointer (some ⟨B, 0, none⟩)) ∧ W.heap.size ≤ B ∧ BoxN w' B 74 #[.slice (some ⟨g, 0, none⟩) n cap', .slice la S2.length lc] ∧ GR w' W.heap.size g n cap' vs S1 ∧ LD w' W.heap.size (.slice la S2.length lc) S2 ∧ Below W.heap.size W w' from by have := g_stairsOf hg h0 hn (besd_all hR) (by omega) hf; rw [hS] at this; exact this)
 have k5 := Lib.hid (fun (W : World) (r : Below w.heap.size w W) => g_columns (h.below r) hn)
 rw [cols_gq (by omega) hR] at k5
 have HST := Lib.hid hst
 have hS2 : S2.length ≤ 1000 := by
   have : ∀ k, (stp (besd R xs) k).2.length ≤ k := fun k => by
     induction k with
     | zero => exact Nat.le_refl _
     | succ k ih =>
      rw [stp_next]; unfold step
      split
      · rw [List.length_append]; simp; omega
      · omega
   have := this (N + 1); rw [hS] at this; show S2.length ≤ 1000; simp at this; omega
 obtain ⟨m, hm⟩ : ∃ m, m = S2.length := ⟨_, rfl⟩
 rw [← hm] at k4 hS2 HST ⊢
 have HM := Lib.hid hm
 have q0 : ((n : Int) != (n : Int)) = false := by simp
 clear h hx hR hwx hwr hf hS hst hl hxl hm
 go_enter Tryz.func19, Tryz.ntmps19
 go_wp2_with fail
 refine k1.out.mono ?_
 rintro e w1 ⟨rfl, rr⟩
 have B1 := Lib.hid rr
 clear rr k1
 go_wp2_with fail
 refine (k2.out _ B1.out).mono ?_
 rintro e w2 ⟨rfl, rr⟩
 have B2 := Lib.hid (then_below B1.out rr)
 clear rr k2 B1
 go_wp2_with fail
 refine (k3.out _ B2.out).mono ?_
 rintro e w3 ⟨v, vc, rfl, hg, rr⟩
 have B3 := Lib.hid (then_below B2.out rr)
 have G3 := Lib.hid hg
 clear rr k3 B2 hg q0
 go_wp2_with fail
 refine (k4.out _ G3.out).mono ?_
 rintro e w4 ⟨B, g, cap', la, lc, vs, rfl, hs, hB, hG, hL, rr⟩
 have B4 := Lib.hid (then_below B3.out rr)
 have HB := Lib.hid hB
 have HG := Lib.hid hG
 have HL := Lib.hid hL
 have y1 := hB.cell 1 _ rfl
 clear rr k4 B3 hB hG hL hs G3
 go_wp2_with fail
 refine (k5.out _ B4.out).mono ?_
 rintro e w5 ⟨rfl, rfl⟩
 clear k5
 have k6 := Lib.hid (g_contains HL.out HM.out hS2 (show N ≤ 1000 by omega))
 go_wp2_with fail
 refine k6.out.mono ?_
 rintro e w6 ⟨rfl, rr⟩
 have B6 := Lib.hid (then_below B4.out rr)
 have HB6 := Lib.hid (HB.out.under rr)
 have HG6 := Lib.hid (HG.out.below rr)
 have z1 := HB6.out.cell 1 _ rfl
 clear rr k6 B4 HB HG HL y1
 by_cases hc : N ∈ S2
 · have e1 : decide (N ∈ S2) = true := decide_eq_true hc
   have HC := Lib.hid hc
   rw [e1]
   clear e1 hc
   go_wp2_with fail
   go_ret2
   exact ⟨none, 0, 0, 6, rfl, B6.out, .inl ⟨HC.out, rfl, rfl⟩⟩
 · have e1 : decide (N ∈ S2) = false := decide_eq_false hc
   have HC := Lib.hid hc
   rw [e1]
   clear e1 hc
   by_cases hlt : m < N
   · have i1 : (m : Int) < (N : Int) := by omega
     have i2 : decide ((m : Int) < (N : Int)) = true := decide_eq_true i1
     go_wp2_with fail
     go_ret2
     exact ⟨none, 0, 0, 8, rfl, B6.out, .inr (.inl ⟨HC.out, hlt, rfl, rfl⟩)⟩
   · have i1 : ¬ (m : Int) < (N : Int) := by omega
     have i2 : decide ((m : Int) < (N : Int)) = false := decide_eq_false i1
     obtain ⟨h1, h2, h3⟩ := HST.out HC.out hlt
     have k7 := Lib.hid (show Calls Tryz.prog 51 #[.pointer (some ⟨B, 0, none⟩)] w6 fun e w' => ∃ va vc, e = .returned (.slice va N vc) ∧ VReads w' (.slice va N vc) ((sol S1 N N).map qr) ∧ Below w6.heap.size w6 w' from g_solved (by rw [← h1]; exact HB6.out) HG6.out h2 hn h3)
     have H1 := Lib.hid h1
     clear h1 h2 h3 hlt
     go_wp2_with fail
     refine k7.out.mono ?_
     rintro e w7 ⟨va, vd, rfl, hv, rr⟩
     have B7 := Lib.hid (then_below B6.out rr)
     have HV := Lib.hid hv
     clear rr hv
     go_wp2_with fail
     go_ret2
     exact ⟨va, N, vd, 0, rfl, B7.out, .inr (.inr ⟨HC.out, H1.out, rfl, rfl, HV.out⟩)⟩
def tiny (x : Rat) : Bool := decide (hgt x < 4294967296)
theorem wt_tiny {x : Rat} (h : tiny x = true) : wt x ≤ 1 := by
 have h1 : hgt x < 4294967296 := of_decide_eq_true h
 exact digs_length_le (by omega)
def smallB (R : List (List Rat)) (m c : Nat) : Bool := R.all fun r => r.all tiny && tiny (r.getD c 0 / (R.getD m []).getD c 0)
theorem small_of {R : List (List Rat)} {m c : Nat} (h : smallB R m c = true) : small R m c := by
 intro r hr
 have h1 := List.all_eq_true.1 h r hr
 rw [Bool.and_eq_true] at h1
 exact ⟨fun x hx => Nat.le_trans (wt_tiny (List.all_eq_true.1 h1.1 x hx)) (by omega), Nat.le_trans (wt_tiny h1.2) (by omega)⟩
def hitB (S : Stp) (k : Nat) : Bool := match hit S.1 S.2.length k with
 | none => true
 | some q => smallB (swp S.1 S.2.length q) S.2.length k
def fineB (R : List (List Rat)) (N : Nat) : Bool := (List.range N).all fun k => (stp R k).1.all (fun r => r.all tiny) && hitB (stp R k) k
theorem fine_of {R : List (List Rat)} {N : Nat} (h : fineB R N = true) : fine R N := by
 intro k hk
 have h1 := List.all_eq_true.1 h k (List.mem_range.2 hk)
 rw [Bool.and_eq_true] at h1
 refine ⟨fun r hr x hx => ?_, fun q hq => ?_⟩
 · have := List.all_eq_true.1 (List.all_eq_true.1 h1.1 r hr) x hx
   exact Nat.le_trans (wt_tiny this) (by omega)
 · have h2 := h1.2
   unfold hitB at h2
   rw [hq] at h2
   exact small_of h2
def steepB (R : List (List Rat)) (K : Nat) : Bool := (List.range K).all fun j => decide ((R.getD j []).length = K + 1) && !decide ((R.getD j []).getD j 0 = 0) && (R.getD j []).all tiny && (sol R K (K - 1 - j)).all tiny
theorem steep_of {R : List (List Rat)} {K : Nat} (hK : K ≤ 1000) (h : steepB R K = true) : steep R K := by
 intro j hj
 have h1 := List.all_eq_true.1 h j (List.mem_range.2 hj)
 simp only [Bool.and_eq_true, decide_eq_true_eq, Bool.not_eq_true', decide_eq_false_iff_not] at h1
 obtain ⟨⟨⟨h1, h2⟩, h3⟩, h4⟩ := h1
 refine ⟨h1, h2, ?_⟩
 have a := wts_all (l := R.getD j []) (k := 1) fun x hx => wt_tiny (List.all_eq_true.1 h3 x hx)
 have b := wts_all (l := sol R K (K - 1 - j)) (k := 1) fun x hx => wt_tiny (List.all_eq_true.1 h4 x hx)
 rw [sol_len] at b
 omega
theorem rows_tiny (L : List (List Int)) (h : ∀ l ∈ L, ∀ z ∈ l, -1000 ≤ z ∧ z ≤ 1000) : ∀ r ∈ L.map ints, ∀ x ∈ r, wt x ≤ 1 := by
 intro r hr x hx
 obtain ⟨l, hl, rfl⟩ := List.mem_map.1 hr
 obtain ⟨z, hz, rfl⟩ := List.mem_map.1 hx
 have := h l hl z hz
 rw [wt_int z (by omega)]; exact Nat.le_refl _
theorem ints_tiny (l : List Int) (h : ∀ z ∈ l, -1000 ≤ z ∧ z ≤ 1000) : ∀ x ∈ ints l, wt x ≤ 1 := rows_tiny [l] (by simpa using h) _ (by simp)
section
variable {W : World}
theorem o_ofB {b m : Nat} {cs : Array Value} (zs : List Int) (hcs : cs = (zs.map fun z => Value.int .i64 z).toArray) (hB : BoxN W b 2 cs) (hm : m = zs.length) (hl : zs.length ≤ 10) (hz : ∀ z ∈ zs, -1000 ≤ z ∧ z ≤ 1000) :
   Calls Tryz.prog 42 #[.slice (some ⟨b, 0, none⟩) m m] W fun e w' => ∃ a c, e = .returned (.slice a m c) ∧ VReads w' (.slice a m c) ((ints zs).map qr) ∧ Below W.heap.size W w' := by
 refine (v_of_at zs hm hl hz hB.lt (fun j hj => ?_)).mono ?_
 · rw [hB.cell j (.int .i64 (zs.getD j 0)) (by rw [hcs]; simp [List.getD_eq_getElem?_getD, List.getElem?_eq_getElem (show j < zs.length by omega)])]
 · rintro e w' ⟨v, rfl, hf, r⟩
   have hr := hf.reads
   obtain ⟨a, c, rfl⟩ := hr.form
   have e : ((ints zs).map qr).length = m := by simp [ints, hm]
   rw [e] at hr ⊢
   exact ⟨a, c, rfl, hr, r⟩
theorem o_turn {a : Option Addr} {n cap : Nat} (L : List (List Int)) (m : Nat) (T : List (List Int)) (h : GridR W (.slice a n cap) (gq (L.map ints))) (hn : n ≤ 1000) (hm : m = cols (gq (L.map ints))) (hm9 : m ≤ 1000) (hR : ∀ r ∈ L.map ints, r.length = m) (hz : ∀ l ∈ L, ∀ z ∈ l, -1000 ≤ z ∧ z ≤ 1000) (hT : turned (L.map ints) m = T.map ints) :
  Calls Tryz.prog 14 #[.slice a n cap] W fun e w' => ∃ v k c, e = .returned (.tuple #[.slice v k c, .int .i64 0]) ∧ k = T.length ∧ GridR w' (.slice v k c) (gq (T.map ints)) ∧ Below W.heap.size W w' := by
 refine (g_turn h hn hm hm9 hR (fun r hr x hx => Nat.le_trans (rows_tiny L hz r hr x hx) (by omega))).mono ?_
 rintro e w' ⟨v, rfl, hg, r⟩
 rw [hT] at hg
 obtain ⟨b, c, e, _⟩ := id hg
 subst e
 exact ⟨b, _, c, rfl, by unfold gq; rw [List.length_map, List.length_map], hg, r⟩
theorem o_times {a a2 : Option Addr} {n cap m c2 : Nat} (L : List (List Int)) (z : List Int) (T : List Int) (h : GridR W (.slice a n cap) (gq (L.map ints))) (hx : VReads W (.slice a2 m c2) ((ints z).map qr)) (hn : n ≤ 10) (hm : m ≤ 10) (hR : ∀ r ∈ L.map ints, r.length = (ints z).length) (hz : ∀ l ∈ L, ∀ z ∈ l, -1000 ≤ z ∧ z ≤ 1000) (hz2 : ∀ y ∈ z, -1000 ≤ y ∧ y ≤ 1000) (hT : times (L.map ints) (ints z) = ints T) (hTl : T.length = n) :
   Calls Tryz.prog 20 #[.slice a n cap, .slice a2 m c2] W fun e w' => ∃ v c, e = .returned (.tuple #[.slice v n c, .int .i64 0]) ∧ VReads w' (.slice v n c) ((ints T).map qr) ∧ Below W.heap.size W w' := by
 have hml : (ints z).length = m := by have := hx.addr.1; simpa using this.symm
 have hzw : wts (ints z) ≤ 10 := by have := wts_all (l := ints z) (k := 1) (ints_tiny z hz2); omega
 refine (g_times h hx (by omega) (by omega) hR (fun r hr => ?_) (by omega)).mono ?_
 · have := wts_all (l := r) (k := 1) (rows_tiny L hz r hr)
   rw [hR r hr] at this; omega
 · rintro e w' ⟨v, rfl, hf, r⟩
   have hr := hf.reads
   rw [show ((L.map ints).map fun r => dot r (ints z)) = ints T from hT] at hr
   obtain ⟨b, c, rfl⟩ := hr.form
   have e : ((ints T).map qr).length = n := by simp [ints, hTl]
   rw [e] at hr ⊢
   exact ⟨b, c, rfl, hr, r⟩
theorem o_rank {a : Option Addr} {n cap : Nat} (L : List (List Int)) (m k : Nat) (h : GridR W (.slice a n cap) (gq (L.map ints))) (h0 : 0 < n) (hn : n ≤ 1000) (hm : m ≤ 1000) (hR : ∀ r ∈ L.map ints, r.length = m) (hf : fineB (L.map ints) m = true) (hk : (stp (L.map ints) m).2.length = k) :
  Calls Tryz.prog 15 #[.slice a n cap] W fun e w' => e = .returned (.tuple #[.int .i64 (k : Nat), .int .i64 0]) ∧ Below W.heap.size W w' := by
 have := g_rank h h0 hn hR hm (fine_of hf)
 rw [hk] at this
 exact this
theorem o_solve {a a2 : Option Addr} {n cap c2 : Nat} (L : List (List Int)) (z : List Int) (N : Nat) (er : Int) (T : List Int) (h : GridR W (.slice a n cap) (gq (L.map ints))) (hx : VReads W (.slice a2 n c2) ((ints z).map qr)) (h0 : 0 < n) (hn : n ≤ 10) (hN : N ≤ 10) (hR : ∀ r ∈ L.map ints, r.length = N) (hz : ∀ l ∈ L, ∀ z ∈ l, -1000 ≤ z ∧ z ≤ 1000) (hz2 : ∀ y ∈ z, -1000 ≤ y ∧ y ≤ 1000)
   (hf : fineB (besd (L.map ints) (ints z)) (N + 1) = true)
   (hc : (decide (er = 6) && decide (N ∈ (stp (besd (L.map ints) (ints z)) (N + 1)).2) || decide (er = 8) && !decide (N ∈ (stp (besd (L.map ints) (ints z)) (N + 1)).2) && decide ((stp (besd (L.map ints) (ints z)) (N + 1)).2.length < N) || decide (er = 0) && !decide (N ∈ (stp (besd (L.map ints) (ints z)) (N + 1)).2) && decide ((stp (besd (L.map ints) (ints z)) (N + 1)).2.length = N) && decide (N ≤ n) && steepB (stp (besd (L.map ints) (ints z)) (N + 1)).1 N && decide (sol (stp (besd (L.map ints) (ints z)) (N + 1)).1 N N = ints T)) = true) :
   Calls Tryz.prog 19 #[.slice a n cap, .slice a2 n c2] W fun e w' => ∃ v k c, e = .returned (.tuple #[.slice v k c, .int .i64 er]) ∧ (er = 0 → k = N ∧ VReads w' (.slice v k c) ((ints T).map qr)) ∧ Below W.heap.size W w' := by
 obtain ⟨S1, S2, hS⟩ : ∃ S1 S2, stp (besd (L.map ints) (ints z)) (N + 1) = (S1, S2) := ⟨_, _, rfl⟩
 rw [hS] at hc
 simp only [Bool.or_eq_true, Bool.and_eq_true, decide_eq_true_eq, Bool.not_eq_true', decide_eq_false_iff_not] at hc
 refine (g_solve h hx h0 (by omega) hR (by omega) (fun x hx => Nat.le_trans (ints_tiny z hz2 x hx) (by omega)) (fun r hr x hx => Nat.le_trans (rows_tiny L hz r hr x hx) (by omega)) (fine_of hf) S1 S2 hS (fun h1 h2 => ?_)).mono ?_
 · rcases hc with (⟨_, h3⟩ | ⟨_, h3⟩) | ⟨⟨⟨⟨⟨_, h3⟩, h4⟩, h5⟩, h6⟩, h7⟩
   · exact absurd h3 h1
   · exact absurd h3 h2
   · exact ⟨h4, h5, steep_of (by omega) h6⟩
 · rintro e w' ⟨va, vn, vc, er2, rfl, r, h1⟩
   have e : er2 = er := by
     rcases hc with (⟨e1, h3⟩ | ⟨⟨e1, h2⟩, h3⟩) | ⟨⟨⟨⟨⟨e1, h3⟩, h4⟩, h5⟩, h6⟩, h7⟩
     · rcases h1 with ⟨_, _, e2⟩ | ⟨h4, _⟩ | ⟨h4, _⟩
       · rw [e1, e2]
       · exact absurd h3 h4
       · exact absurd h3 h4
     · rcases h1 with ⟨h4, _⟩ | ⟨_, _, _, e2⟩ | ⟨_, h4, _⟩
       · exact absurd h4 h2
       · rw [e1, e2]
       · omega
     · rcases h1 with ⟨h8, _⟩ | ⟨_, h8, _⟩ | ⟨_, _, e2, _⟩
       · exact absurd h8 h3
       · omega
       · rw [e1, e2]
   subst e
   refine ⟨va, vn, vc, rfl, fun e0 => ?_, r⟩
   rcases h1 with ⟨_, _, e2⟩ | ⟨_, _, _, e2⟩ | ⟨_, _, _, h5, h6⟩
   · omega
   · omega
   · subst h5
     rcases hc with (⟨e1, h3⟩ | ⟨⟨e1, h2⟩, h3⟩) | ⟨⟨⟨⟨⟨e1, h3⟩, h4⟩, h5⟩, h6'⟩, h7⟩
     · omega
     · omega
     · rw [h7] at h6
       exact ⟨rfl, h6⟩
end
theorem GridR.row {W : World} {a : Option Addr} {n c k : Nat} {rows : List (List Qr)} {r : List Qr} (h : GridR W (.slice a n c) rows) (hk : rows[k]? = some r) : ∃ b o va vc, a = some ⟨b, o, none⟩ ∧ b < W.heap.size ∧ W.cell? ⟨b, o + k, none⟩ = some (.slice va r.length vc) ∧ VReads W (.slice va r.length vc) r := by
 obtain ⟨hl, hc, hA⟩ := h.addr
 obtain ⟨b, o, rfl, hb, hcel⟩ := hA (by have := (List.getElem?_eq_some_iff.1 hk).1; omega)
 obtain ⟨u, hu, hv⟩ := hcel k r hk
 obtain ⟨va, vc, rfl⟩ := hv.form
 rw [Nat.mul_one] at hu
 exact ⟨b, o, va, vc, rfl, hb, hu, hv⟩
end
end Go.Proofs.YtgmbaamfobhceaaGreat
