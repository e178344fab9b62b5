/- The law package's own helpers over rows of fractions: is one of some rows too great; a row of whole numbers. -/
import Derived.Test.YtlcbicdendelfaaGVecL
namespace Go.Proofs.Ytlcbicdendelfaa
open Go Go.Proofs Go.RowKit Go.Shelf Nu

attribute [local go_sem] Oper.semAt_some

/-- a row as it is handed over: where it lies, and what it reads as -/
abbrev GI : Type := Option Addr × Nat × Nat × List Qr
def gival (t : GI) : Value := .slice t.1 t.2.1 t.2.2.1
def gbig (t : GI) : Bool := decide (30 < t.2.1) || decide (300 < ssz t.2.1 t.2.2.2)
def GOK (W : World) (t : GI) : Prop := VReads W (gival t) t.2.2.2 ∧ ∀ q ∈ t.2.2.2, Big q
theorem GOK.below {W W' : World} {t : GI} (h : GOK W t) (r : Below W.heap.size W W') : GOK W' t := ⟨h.1.below r, h.2⟩

set_option maxRecDepth 100000 in
set_option maxHeartbeats 4000000 in
theorem v_great_at {w : World} {b m : Nat} (zs : List GI) (hm : m = zs.length) (hl : zs.length ≤ 10) (hz : ∀ t ∈ zs, GOK w t) (hb : b < w.heap.size) (hc : ∀ j, j < m → w.cell? ⟨b, j, none⟩ = some (gival (zs.getD j default))) (R : Bool) (hR : R = zs.any gbig) :
    Calls Try.prog 15 #[.slice (some ⟨b, 0, none⟩) m m] w fun e w' => e = .returned (.bool R) ∧ Below w.heap.size w w' := by
  have HM := Lib.hid hm
  have HR := Lib.hid hR
  have HZ := Lib.hid hz
  have HC := Lib.hid hc
  have hm10 : m ≤ 10 := by omega
  clear hR hm hz hc
  go_enter Try.func15, Try.ntmps15
  go_wp2
  go_loopw [3] (fun i wr => ∃ k : Nat, k ≤ m ∧ i = .int .i64 k ∧ Hid (∀ j, j < k → gbig (zs.getD j default) = false) ∧ Below w.heap.size w wr) (fun i _ => m - (intOf i).toNat)
  case atStart => exact ⟨0, Nat.zero_le _, rfl, Lib.hid (fun j hj => by omega), Below.refl _ _⟩
  case round =>
    obtain ⟨k, hk, rfl, HS, hbel⟩ := hrel
    have HB := Lib.hid hbel
    clear hbel
    by_cases hlt : k < m
    · have hk2 : k < zs.length := by have := HM.out; omega
      have hmem : zs.getD k default ∈ zs := by
        rw [List.getD_eq_getElem?_getD, List.getElem?_eq_getElem hk2]; exact List.getElem_mem hk2
      have hcell := (HB.out.cell (p := ⟨b, k, none⟩) hb).trans (HC.out k hlt)
      have hok := (HZ.out _ hmem).below HB.out
      have hany : gbig (zs.getD k default) = true → R = true := fun h => by
        rw [HR.out, List.any_eq_true]; exact ⟨_, hmem, h⟩
      have hno : gbig (zs.getD k default) = false → ∀ j, j < k + 1 → gbig (zs.getD j default) = false := fun h j hj => by
        by_cases e : j = k
        · subst e; exact h
        · exact HS.out j (by omega)
      generalize zs.getD k default = t at *
      obtain ⟨a, n, cap, qs⟩ := t
      simp only [gival, gbig, GOK] at hcell hok hany hno
      have j1 : (k : Int) < (m : Int) := by omega
      by_cases hn : 30 < n
      · have h0 : R = true := hany (by simp [hn])
        have H0 := Lib.hid h0
        have j2 : (30 : Int) < (n : Int) := by omega
        have j3 : decide ((30 : Int) < (n : Int)) = true := decide_eq_true j2
        clear hany hno hok h0 hn hk2 hmem
        go_wp2_with fail
        go_ret
        exact ⟨ret_bool H0.out.symm, HB.out⟩
      · have kc := ratsSize_any hok.1 hok.2 (by omega)
        have j2 : ¬ (30 : Int) < (n : Int) := by omega
        have j3 : decide ((30 : Int) < (n : Int)) = false := decide_eq_false j2
        obtain ⟨s, hs⟩ : ∃ s, s = ssz n qs := ⟨_, rfl⟩
        rw [← hs] at kc hany hno
        by_cases hq : 300 < s
        · have h0 : R = true := hany (by simp [hq])
          have H0 := Lib.hid h0
          have j4 : (300 : Int) < (s : Int) := by omega
          have j5 : decide ((300 : Int) < (s : Int)) = true := decide_eq_true j4
          clear hany hno hok h0 hn hk2 hmem hs hq
          go_wp2_with fail
          refine kc.mono ?_
          rintro e w1 ⟨rfl, rr⟩
          have HB1 := Lib.hid (then_below HB.out rr)
          clear kc rr
          go_wp2_with fail
          go_ret
          exact ⟨ret_bool H0.out.symm, HB1.out⟩
        · have HN := Lib.hid (hno (by simp [hn, hq]))
          have j4 : ¬ (300 : Int) < (s : Int) := by omega
          have j5 : decide ((300 : Int) < (s : Int)) = false := decide_eq_false j4
          clear hany hno hok hn hk2 hmem hs hq
          go_wp2_with fail
          refine kc.mono ?_
          rintro e w1 ⟨rfl, rr⟩
          have HB1 := Lib.hid (then_below HB.out rr)
          clear kc rr
          go_wp2_with fail
          go_roundw
          case rel => exact ⟨k + 1, by omega, by simp, HN, HB1.out⟩
          case measure => simp [intOf]; omega
    · have h0 : R = false := by
        rw [HR.out, List.any_eq_false]
        intro t ht
        obtain ⟨i, hi, rfl⟩ := List.mem_iff_getElem.1 ht
        have := HS.out i (by have := HM.out; omega)
        rw [List.getD_eq_getElem?_getD, List.getElem?_eq_getElem hi] at this
        simpa using this
      have H0 := Lib.hid h0
      have j1 : ¬ (k : Int) < (m : Int) := by omega
      clear h0
      go_wp2_with fail
      go_ret
      exact ⟨ret_bool H0.out.symm, HB.out⟩
theorem v_great {W : World} (zs : List GI) {vs : Array Value} (hv : vs = (zs.map gival).toArray) {m : Nat} (hm : m = zs.length) (hl : zs.length ≤ 10) (hz : ∀ t ∈ zs, GOK W t) (R : Bool) (hR : R = zs.any gbig) :
    Calls Try.prog 15 #[.slice (some ⟨W.heap.size, 0, none⟩) m m] (W.alloc (.cells vs 38)) fun e w' => e = .returned (.bool R) ∧ Below W.heap.size W w' := by
  subst hv; subst hm
  have al : Below W.heap.size W (W.alloc (.cells (zs.map gival).toArray 38)) := (Below.refl _ _).alloc (Nat.le_refl _) _
  refine (v_great_at zs rfl hl (fun t ht => (hz t ht).below al) (by simp) (fun j hj => ?_) R hR).mono ?_
  · unfold World.cell?
    rw [World.alloc_heap_new]
    simp [List.getElem?_map, List.getD_eq_getElem?_getD, List.getElem?_eq_getElem hj]
  · rintro e w' ⟨rfl, r⟩
    exact ⟨rfl, then_below al r⟩

/-- whole numbers of 64 bits -/
def ints (zs : List Int) : List Rat := zs.map fun (z : Int) => (z : Rat)
theorem ints_at {zs : List Int} {j : Nat} (h : j < zs.length) : (ints zs).getD j 0 = ((zs.getD j 0 : Int) : Rat) := by
  simp [ints, List.getD_eq_getElem?_getD, List.getElem?_eq_getElem h]

set_option maxRecDepth 100000 in
set_option maxHeartbeats 4000000 in
theorem v_of_at {w : World} {b m : Nat} (zs : List Int) (hm : m = zs.length) (hl : zs.length ≤ 10) (hz : ∀ z ∈ zs, -1000 ≤ z ∧ z ≤ 1000) (hb : b < w.heap.size) (hc : ∀ j, j < m → w.cell? ⟨b, j, none⟩ = some (.int .i64 (zs.getD j 0))) :
    Calls Try.prog 40 #[.slice (some ⟨b, 0, none⟩) m m] w fun e w' => ∃ v, e = .returned v ∧ VFresh w' w.heap.size v ((ints zs).map qr) ∧ Below w.heap.size w w' := by
  obtain ⟨i0, hi, hz0, hz1, hz2⟩ := info_parts info_rat
  have hil : (ints zs).length = m := by simp [ints, hm]
  have hia : ∀ j, j < m → (ints zs).getD j 0 = ((zs.getD j 0 : Int) : Rat) := fun j hj => ints_at (by omega)
  have hbd : ∀ j, j < m → -1000 ≤ zs.getD j 0 ∧ zs.getD j 0 ≤ 1000 := fun j hj => hz _ (by
    rw [List.getD_eq_getElem?_getD, List.getElem?_eq_getElem (show j < zs.length by omega)]; exact List.getElem_mem _)
  have HIL := Lib.hid hil
  have HIA := Lib.hid hia
  have HBD := Lib.hid hbd
  have HC := Lib.hid hc
  have hm10 : m ≤ 10 := by omega
  generalize ints zs = xs at *
  clear hm hl hz hc hil hia hbd
  go_enter Try.func40, Try.ntmps40
  go_wp2
  go_loopw [3, 4] (fun v i wr => ∃ (k : Nat) (ys : List Zr) (av : Option Addr) (cv : Nat), k ≤ m ∧ i = .int .i64 k ∧ v = .slice av k cv ∧ Hid (ys.map (·.1) = (xs.take k).map qr) ∧ Hid (VF wr w.heap.size (.slice av k cv) ys) ∧ Hid (Below w.heap.size w wr)) (fun _ i _ => m - (intOf i).toNat)
  case atStart => exact ⟨0, [], none, 0, Nat.zero_le _, rfl, rfl, Lib.hid rfl, Lib.hid (VF.nil _ _), Lib.hid (Below.refl _ _)⟩
  case round =>
    obtain ⟨k, ys, av, cv, hk, rfl, rfl, HM, HV, HB⟩ := hrel
    by_cases hlt : k < m
    · have hyl : ys.length = k := by
        have := congrArg List.length HM.out
        simp only [List.length_map, List.length_take] at this
        have := HIL.out; omega
      have HYL := Lib.hid hyl
      have hx := HIA.out k hlt
      have hcell := (HB.out.cell (p := ⟨b, k, none⟩) hb).trans (HC.out k hlt)
      have hbd := HBD.out k hlt
      generalize zs.getD k 0 = z at *
      have k0 := fun (W : World) => r_of (w := W) (s := (qr (z : Rat)).1) (L := (qr (z : Rat)).2.1) (D := (qr (z : Rat)).2.2) z (qr_can _) (by omega) (by omega)
      have HXX := Lib.hid hx
      generalize (z : Rat) = X at *
      clear hyl hx HC hbd
      go_wp2_with fail
      refine (k0 _).mono ?_
      rintro e w2 ⟨a3, c3, o3, r3, rfl, g, g', rr⟩
      have HB2 := Lib.hid (then_below HB.out rr)
      have HV2 := Lib.hid (HV.out.below rr)
      clear rr HB HV
      have hs2 : w.heap.size ≤ w2.heap.size := HB2.out.size
      go_wp2_with ((at_builtin; go_loud (refine wpList_append_rat hi hz0 hz1 hz2 w2 rfl _ _ rfl w.heap.size (.slice av k cv) ys (qr X, (a3, c3), (o3, r3)) rfl rfl HV2.out ⟨g, g'⟩ hs2 (by have := HYL.out; omega) ?_); intro v' w3 hV3 hgrow; have hap := rat_append HV2.out hs2 hgrow; obtain ⟨av', cv', ev'⟩ := hV3.form; rw [List.length_append, List.length_singleton, HYL.out] at ev'; subst ev'; have HV3 := Lib.hid hV3; have HB3 := Lib.hid (HB2.out.trans hap.2.1); clear hV3 hap hgrow HV2 HB2))
      go_roundw
      case rel => exact ⟨k + 1, ys ++ [(qr X, (a3, c3), (o3, r3))], av', cv', by omega, by simp, rfl, Lib.hid (take_qr (by have := HIL.out; omega) HM.out (by rw [HXX.out])), HV3, HB3⟩
      case measure => simp [intOf]; omega
    · obtain rfl : k = m := by omega
      clear HIA HC HBD
      go_wp2
      go_ret
      have hm := HM.out
      rw [List.take_of_length_le (by have := HIL.out; omega)] at hm
      have hv := HV.out.fresh
      rw [hm] at hv
      exact ⟨_, rfl, hv, HB.out⟩
theorem v_of {W : World} (zs : List Int) {vs : Array Value} (hv : vs = (zs.map fun z => Value.int .i64 z).toArray) {m : Nat} (hm : m = zs.length) (hl : zs.length ≤ 10) (hz : ∀ z ∈ zs, -1000 ≤ z ∧ z ≤ 1000) :
    Calls Try.prog 40 #[.slice (some ⟨W.heap.size, 0, none⟩) m m] (W.alloc (.cells vs 2)) fun e w' => ∃ v, e = .returned v ∧ VFresh w' W.heap.size v ((ints zs).map qr) ∧ Below W.heap.size W w' := by
  subst hv; subst hm
  have al : Below W.heap.size W (W.alloc (.cells (zs.map fun z => Value.int .i64 z).toArray 2)) := (Below.refl _ _).alloc (Nat.le_refl _) _
  refine (v_of_at zs rfl hl hz (by simp) (fun j hj => ?_)).mono ?_
  · unfold World.cell?
    rw [World.alloc_heap_new]
    simp [List.getElem?_map, List.getD_eq_getElem?_getD, List.getElem?_eq_getElem hj]
  · rintro e w' ⟨v, rfl, hv, r⟩
    exact ⟨v, rfl, hv.mono (by simp), then_below al r⟩
end Go.Proofs.Ytlcbicdendelfaa
