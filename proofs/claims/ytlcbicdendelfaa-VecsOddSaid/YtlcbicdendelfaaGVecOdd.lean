/- VecsOdd: its walks. -/
import Derived.Test.YtlcbicdendelfaaGVecK
import Derived.Test.YtlcbicdendelfaaGVecQ
namespace Go.Proofs.Ytlcbicdendelfaa
open Go Go.Proofs Go.RowKit Go.Shelf Nu

attribute [local go_sem] Oper.semAt_some

set_option maxRecDepth 100000 in
set_option maxHeartbeats 8000000 in
theorem odd_great {w : World} {a1 : Option Addr} {n c1 : Nat} {q1 : List Qr} {u : Int} (h1 : GOK w (a1, n, c1, q1)) (_hu : (Lit.int .u8 u).wf = true) (hg : ([(a1, n, c1, q1)] : List GI).any gbig = true) :
    Calls Try.prog 4 #[.slice a1 n c1, .int .u8 u] w fun e w' => e = .returned (.bool true) ∧ Below w.heap.size w w' := by
  have HG := Lib.hid hg; clear hg
  have V1 := Lib.hid h1; clear h1
  go_enter Try.func4, Try.ntmps4
  go_wp2_with fail
  refine (v_alive _).mono ?_
  rintro e w1 ⟨rfl, rr⟩
  replace V1 := Lib.hid (V1.out.below rr); have HL := Lib.hid rr; clear rr
  go_wp2_with fail
  refine (v_great (W := w1) [(a1, n, c1, q1)] rfl rfl (by simp) (gokc V1.out (gok0 _)) true HG.out.symm).mono ?_
  rintro e w2 ⟨rfl, rr⟩
  replace V1 := Lib.hid (V1.out.below rr); replace HL := Lib.hid (then_below HL.out rr); clear rr
  go_wp2_with fail
  refine (v_alive _).mono ?_
  rintro e w3 ⟨rfl, rr⟩
  replace V1 := Lib.hid (V1.out.below rr); replace HL := Lib.hid (then_below HL.out rr); clear rr
  go_wp2_with fail
  go_ret
  exact ⟨rfl, HL.out⟩
set_option maxRecDepth 100000 in
set_option maxHeartbeats 8000000 in
theorem odd_nil {w : World} {a1 : Option Addr} {n c1 : Nat} {q1 : List Qr} {u : Int} (h1 : GOK w (a1, n, c1, q1)) (_hu : (Lit.int .u8 u).wf = true) (hg : ([(a1, n, c1, q1)] : List GI).any gbig = false) (hn : n = 0) :
    Calls Try.prog 4 #[.slice a1 n c1, .int .u8 u] w fun e w' => e = .returned (.bool true) ∧ Below w.heap.size w w' := by
  have HG := Lib.hid hg; clear hg; subst hn
  have V1 := Lib.hid h1; clear h1
  go_enter Try.func4, Try.ntmps4
  go_wp2_with fail
  refine (v_alive _).mono ?_
  rintro e w1 ⟨rfl, rr⟩
  replace V1 := Lib.hid (V1.out.below rr); have HL := Lib.hid rr; clear rr
  go_wp2_with fail
  refine (v_great (W := w1) [(a1, 0, c1, q1)] rfl rfl (by simp) (gokc V1.out (gok0 _)) false HG.out.symm).mono ?_
  rintro e w2 ⟨rfl, rr⟩
  replace V1 := Lib.hid (V1.out.below rr); replace HL := Lib.hid (then_below HL.out rr); clear rr
  go_wp2_with fail
  refine (v_alive _).mono ?_
  rintro e w3 ⟨rfl, rr⟩
  replace V1 := Lib.hid (V1.out.below rr); replace HL := Lib.hid (then_below HL.out rr); clear rr
  go_wp2_with fail
  go_ret
  exact ⟨rfl, HL.out⟩
set_option maxRecDepth 100000 in
set_option maxHeartbeats 8000000 in
theorem odd_bad {w : World} {a1 : Option Addr} {n c1 : Nat} {q1 : List Qr} {u : Int} (h1 : GOK w (a1, n, c1, q1)) (_hu : (Lit.int .u8 u).wf = true) (hg : ([(a1, n, c1, q1)] : List GI).any gbig = false) (hn : n ≠ 0) (f1 : qrows q1) (k1 : q1.all qok = false) :
    Calls Try.prog 4 #[.slice a1 n c1, .int .u8 u] w fun e w' => e = .returned (.bool true) ∧ Below w.heap.size w w' := by
  have HG := Lib.hid hg; have HF1 := Lib.hid f1; have HK1 := Lib.hid k1; clear hg f1 k1
  have j1 : ((n : Int) == 0) = false := by simp; omega
  have j2 : ¬ (n : Int) = 0 := by omega
  have V1 := Lib.hid h1; clear h1
  go_enter Try.func4, Try.ntmps4
  go_wp2_with fail
  refine (v_alive _).mono ?_
  rintro e w1 ⟨rfl, rr⟩
  replace V1 := Lib.hid (V1.out.below rr); have HL := Lib.hid rr; clear rr
  go_wp2_with fail
  refine (v_great (W := w1) [(a1, n, c1, q1)] rfl rfl (by simp) (gokc V1.out (gok0 _)) false HG.out.symm).mono ?_
  rintro e w2 ⟨rfl, rr⟩
  replace V1 := Lib.hid (V1.out.below rr); replace HL := Lib.hid (then_below HL.out rr); clear rr
  go_wp2_with fail
  refine (v_check false HK1.out.symm V1.out.1 HF1.out).mono ?_
  rintro e w3 ⟨rfl, rr⟩
  replace V1 := Lib.hid (V1.out.below rr); replace HL := Lib.hid (then_below HL.out rr); clear rr
  go_wp2_with fail
  refine (v_alive _).mono ?_
  rintro e w4 ⟨rfl, rr⟩
  replace V1 := Lib.hid (V1.out.below rr); replace HL := Lib.hid (then_below HL.out rr); clear rr
  go_wp2_with fail
  go_ret
  exact ⟨rfl, HL.out⟩

abbrev q2 : Qr := (false, [2], [2])
theorem q2_sm : Sm [2] := by intro x hx; simp at hx; omega
theorem q2_bad : qok q2 = false := by
  have e : val [2] = 2 := by simp [val]
  simp [qok, rchk, e]
theorem q2_fit : Fit q2 := ⟨⟨q2_sm, q2_sm⟩, by decide, by decide⟩
theorem q2_val : qval q2 = 0 := (q2_fit.is).zero q2_bad
theorem set_bad {qs : List Qr} {k : Nat} (h : k < qs.length) : (qs.set k q2).all qok = false := by
  rw [List.all_eq_false]
  exact ⟨q2, List.mem_set h _, by rw [q2_bad]; decide⟩
theorem set_fit {qs : List Qr} {k : Nat} (h : qrows qs) : qrows (qs.set k q2) := by
  refine ⟨fun q hq => ?_, by rw [List.length_set]; exact h.2⟩
  rcases List.mem_or_eq_of_mem_set hq with hq | rfl
  · exact h.1 q hq
  · exact q2_fit
theorem set_qval (xs : List Rat) (k : Nat) : ((xs.map qr).set k q2).map qval = xs.set k 0 := by
  rw [List.map_set, map_qval_qr, q2_val]
theorem set_back {xs : List Rat} {k : Nat} (h : k < xs.length) : ((xs.set k 0).map qr).set k (qr (xs.getD k 0)) = xs.map qr := by
  rw [List.map_set, List.set_set, ← List.map_set]
  congr 1
  apply List.ext_getElem (by simp)
  intro j h1 h2
  rw [List.getElem_set]
  split
  · rename_i e; subst e; rw [List.getD_eq_getElem?_getD, List.getElem?_eq_getElem h]; rfl
  · rfl
theorem zs_at {zs : List Zr} {k : Nat} {z y : Zr} (h : (zs.set k z)[k]? = some y) : y = z := by
  rw [List.getElem?_set] at h
  simp only [if_true] at h
  split at h
  · cases h; rfl
  · cases h
theorem one_at {zs : List Zr} {qs : List Qr} {k : Nat} {z : Zr} (h : zs[k]? = some z) (e : zs.map (·.1) = qs) : qs[k]? = some z.1 := by rw [← e, List.getElem?_map, h]; rfl
theorem lit_two (W : World) : Reads (W.alloc (.cells #[.int .u32 2] 41)) (.slice (some ⟨W.heap.size, 0, none⟩) 1 1) [2] :=
  (show Fresh (W.alloc (.cells #[.int .u32 2] 41)) W.heap.size (.slice (some ⟨W.heap.size, 0, none⟩) 1 1) [2] from ⟨rfl, .inr ⟨W.heap.size, 1, _, rfl, Nat.le_refl _, World.alloc_heap_new W _, Nat.le_refl _, small_max (by decide), rfl, rfl⟩⟩).reads

set_option maxRecDepth 100000 in
set_option maxHeartbeats 8000000 in
theorem odd_near {w : World} {b1 o1 n c1 t k : Nat} {xs : List Rat} (h1 : GOK w (some ⟨b1, o1, none⟩, n, c1, xs.map qr)) (ht : t ≤ 255) (hk : k = t % n) (hg : ([(some ⟨b1, o1, none⟩, n, c1, xs.map qr)] : List GI).any gbig = false) (h30 : n ≤ 30) (hn0 : 0 < n) (hw1 : wts xs ≤ 300) :
    Calls Try.prog 4 #[.slice (some ⟨b1, o1, none⟩) n c1, .int .u8 (t : Int)] w fun e w' => e = .returned (.bool true) ∧ Below w.heap.size w w' := by
  obtain ⟨i0, hi, hz0, hz1, hz2⟩ := info_parts info_rat
  have HG := Lib.hid hg; clear hg
  have l1 := wts_len xs
  have hlx : xs.length = n := by have := h1.1.addr.1; simpa using this.symm
  have hcap1 : n ≤ c1 := h1.1.addr.2.1
  have HF1 : Hid (qrows (xs.map qr)) := Lib.hid ⟨fit_qrs (by omega), by simp; omega⟩
  have HK1 : Hid ((xs.map qr).all qok = true) := Lib.hid (all_qok_qr _)
  have hkn : k < n := by rw [hk]; exact Nat.mod_lt _ hn0
  have HK := Lib.hid hk
  have HW1 := Lib.hid hw1
  have jm : Int.tmod (t : Int) (n : Int) = (k : Int) := by rw [hk]; rfl
  have jc : IntKind.i64.wrap (t : Int) = (t : Int) := by rw [IntKind.wrap_i64]; omega
  have jk : IntKind.i64.wrap (k : Int) = (k : Int) := by rw [IntKind.wrap_i64]; omega
  have j1 : ((n : Int) == 0) = false := by simp; omega
  have j2 : ¬ (n : Int) = 0 := by omega
  have i1 : (0 : Int) ≤ (k : Int) := by omega
  have i4 : (k : Int) < (n : Int) := by omega
  clear hk hw1 l1
  have V1 := Lib.hid h1; clear h1
  go_enter Try.func4, Try.ntmps4
  go_wp2_with fail
  refine (v_alive _).mono ?_
  rintro e w1 ⟨rfl, rr⟩
  have HL := Lib.hid rr; clear rr
  go_wp2_with fail
  refine (v_great (W := w1) [(some ⟨b1, o1, none⟩, n, c1, xs.map qr)] rfl rfl (by simp) (gokc (V1.out.below HL.out) (gok0 _)) false HG.out.symm).mono ?_
  rintro e w2 ⟨rfl, rr⟩
  replace HL := Lib.hid (then_below HL.out rr); clear rr
  go_wp2_with fail
  refine (v_check true HK1.out.symm (V1.out.below HL.out).1 HF1.out).mono ?_
  rintro e w3 ⟨rfl, rr⟩
  replace HL := Lib.hid (then_below HL.out rr); clear rr
  obtain ⟨zs, hzq, hzl, hcells, hzin⟩ := VReads.cells (W := w3) (b := b1) (off := o1) (n := n) (cap := c1) (qs := xs.map qr) (V1.out.below HL.out).1 hn0
  have HZQ := Lib.hid hzq; clear hzq
  go_wp2_with ((at_builtin; refine wpList_copy_rat hi hz0 hz1 hz2 _ rfl _ _ rfl b1 o1 c1 n zs rfl rfl hzl hn0 (by omega) hcells hzin ?_); intro g cg w4 hVB hbel; have HVB := Lib.hid hVB; have hgw := (hVB.lt (g := g) rfl).1; have hs3 := HL.out.size; have hgl := (hVB.lt (g := g) rfl).2; replace HL := Lib.hid (then_below HL.out hbel); have HZL := Lib.hid hzl; have hst := VF.at HVB.out HZL.out hkn; obtain ⟨z9, hz9, s0, s1, s2, f0, f1, f2⟩ := hst; have HZ9 := Lib.hid hz9; clear hVB hbel hcells hzin hzl hz9)
  go_wp2_with fail
  have al1 : Below (((w4.setCell ⟨g, k * 3, none⟩ (.bool false)).setCell ⟨g, k * 3 + 1, none⟩ (.slice (some ⟨w4.heap.size, 0, none⟩) 1 1)).setCell ⟨g, k * 3 + 2, none⟩ (.slice (some ⟨w4.heap.size + 1, 0, none⟩) 1 1)).heap.size (((w4.setCell ⟨g, k * 3, none⟩ (.bool false)).setCell ⟨g, k * 3 + 1, none⟩ (.slice (some ⟨w4.heap.size, 0, none⟩) 1 1)).setCell ⟨g, k * 3 + 2, none⟩ (.slice (some ⟨w4.heap.size + 1, 0, none⟩) 1 1)) ((((w4.setCell ⟨g, k * 3, none⟩ (.bool false)).setCell ⟨g, k * 3 + 1, none⟩ (.slice (some ⟨w4.heap.size, 0, none⟩) 1 1)).setCell ⟨g, k * 3 + 2, none⟩ (.slice (some ⟨w4.heap.size + 1, 0, none⟩) 1 1)).alloc (.cells #[.int .u32 2] 41)) := (Below.refl _ _).alloc (Nat.le_refl _) _
  obtain ⟨v4, hv4⟩ : ∃ v, v = (((w4.setCell ⟨g, k * 3, none⟩ (.bool false)).setCell ⟨g, k * 3 + 1, none⟩ (.slice (some ⟨w4.heap.size, 0, none⟩) 1 1)).setCell ⟨g, k * 3 + 2, none⟩ (.slice (some ⟨w4.heap.size + 1, 0, none⟩) 1 1)) := ⟨_, rfl⟩
  rw [← hv4] at al1 ⊢
  have hsv : v4.heap.size = w4.heap.size := by rw [hv4]; simp
  obtain ⟨v5, hv5⟩ : ∃ v, v = v4.alloc (.cells #[.int .u32 2] 41) := ⟨_, rfl⟩
  rw [← hv5] at al1 ⊢
  obtain ⟨v6, hv6⟩ : ∃ v, v = v5.alloc (.cells #[.int .u32 2] 41) := ⟨_, rfl⟩
  have al2 : Below v5.heap.size v5 v6 := by rw [hv6]; exact (Below.refl _ _).alloc (Nat.le_refl _) _
  rw [← hv6]
  have hs5 : v5.heap.size = w4.heap.size + 1 := by rw [hv5]; simp [hsv]
  obtain ⟨P1, hP1⟩ : ∃ p, p = w4.heap.size := ⟨_, rfl⟩
  obtain ⟨P2, hP2⟩ : ∃ p, p = w4.heap.size + 1 := ⟨_, rfl⟩
  have RP1 : Reads v6 (.slice (some ⟨P1, 0, none⟩) 1 1) [2] := by
    have := lit_two v4
    rw [hsv, ← hv5, ← hP1] at this
    exact this.below al2
  have RP2 : Reads v6 (.slice (some ⟨P2, 0, none⟩) 1 1) [2] := by
    have := lit_two v5
    rw [hs5, ← hv6, ← hP2] at this
    exact this
  have VB0 : VF v6 w3.heap.size (.slice (some ⟨g, 0, none⟩) n cg) (zs.set k (q2, (some ⟨P1, 0, none⟩, 1), (some ⟨P2, 0, none⟩, 1))) := by
    refine HVB.out.put_later HZL.out hkn (q2, (some ⟨P1, 0, none⟩, 1), (some ⟨P2, 0, none⟩, 1)) ?_ ⟨RP1, RP2⟩
    rw [hP1, hP2]
    show Below w4.heap.size (((w4.setCell ⟨g, k * 3, none⟩ (.bool false)).setCell ⟨g, k * 3 + 1, none⟩ (.slice (some ⟨w4.heap.size, 0, none⟩) 1 1)).setCell ⟨g, k * 3 + 2, none⟩ (.slice (some ⟨w4.heap.size + 1, 0, none⟩) 1 1)) v6
    rw [← hv4, ← hsv]
    exact then_below al1 al2
  have hg0 : w.heap.size ≤ g := Nat.le_trans hs3 hgw
  have b4 : Below w.heap.size w v4 := by
    rw [hv4]
    exact ((HL.out.setCell (p := ⟨g, k * 3, none⟩) hg0 _).setCell (p := ⟨g, k * 3 + 1, none⟩) hg0 _).setCell (p := ⟨g, k * 3 + 2, none⟩) hg0 _
  have HL' := Lib.hid (then_below (then_below b4 al1) al2)
  clear HL
  have HL := HL'
  clear HL' b4 hg0
  have hlB : (zs.set k (q2, (some ⟨P1, 0, none⟩, 1), (some ⟨P2, 0, none⟩, 1))).length = n := by rw [List.length_set]; exact HZL.out
  have hqB : (zs.set k (q2, (some ⟨P1, 0, none⟩, 1), (some ⟨P2, 0, none⟩, 1))).map (·.1) = (xs.map qr).set k q2 := by rw [List.map_set, HZQ.out]
  obtain ⟨zb, hzb⟩ : ∃ zb, zb = zs.set k (q2, (some ⟨P1, 0, none⟩, 1), (some ⟨P2, 0, none⟩, 1)) := ⟨_, rfl⟩
  rw [← hzb] at VB0 hlB hqB
  have ZB := Lib.hid (show ∀ y, zb[k]? = some y → y = (q2, (some ⟨P1, 0, none⟩, 1), (some ⟨P2, 0, none⟩, 1)) from fun y hy => zs_at (by rw [hzb] at hy; exact hy))
  have LB := Lib.hid hlB
  have QB := Lib.hid hqB
  have VB := Lib.hid VB0
  have FB := Lib.hid (set_fit (k := k) HF1.out)
  have BB := Lib.hid (set_bad (qs := xs.map qr) (k := k) (by simp; omega))
  have LX := Lib.hid hlx
  clear VB0 RP1 RP2 al1 al2 hv4 hv5 hv6 hsv hs5 hP1 hP2 hlB hqB hzb HVB HZ9 s0 s1 s2 f0 f1 f2 hs3 hgw hgl HZQ HZL i0 hi hz0 hz1 hz2
  refine (v_dot_no (by rw [BB.out]; simp) (V1.out.below HL.out).1 (show VReads _ (.slice (some ⟨g, 0, none⟩) n cg) ((xs.map qr).set k q2) by rw [← QB.out]; exact VB.out.fresh.reads) HF1.out FB.out).mono ?_
  rintro e w7 ⟨rfl, rr⟩
  replace VB := Lib.hid (VB.out.below rr)
  have HL' := Lib.hid (then_below HL.out rr)
  clear HL
  have HL := HL'
  clear HL'
  clear rr
  go_wp2_with fail
  obtain ⟨u7, hu7⟩ : ∃ v, v = w7.alloc (.cells #[.bool false, .slice none 0 0, .slice none 0 0] 43) := ⟨_, rfl⟩
  have rr : Below w7.heap.size w7 u7 := by rw [hu7]; exact (Below.refl _ _).alloc (Nat.le_refl _) _
  rw [← hu7]
  replace VB := Lib.hid (VB.out.below rr)
  have HL' := Lib.hid (then_below HL.out rr)
  clear HL
  have HL := HL'
  clear HL' rr hu7
  refine (k_of 1 (by decide) (by decide)).mono ?_
  rintro e w8 ⟨o1a, o1c, o1b, o1d, rfl, g1, g2, rr⟩
  replace VB := Lib.hid (VB.out.below rr)
  have G1 := Lib.hid g1
  have G2 := Lib.hid g2
  have HL' := Lib.hid (then_below HL.out rr)
  clear HL
  have HL := HL'
  clear HL'
  clear rr g1 g2
  go_wp2_with fail
  refine (v_add_no (by rw [BB.out]; simp) (show VReads _ (.slice (some ⟨g, 0, none⟩) n cg) ((xs.map qr).set k q2) by rw [← QB.out]; exact VB.out.fresh.reads) (V1.out.below HL.out).1 FB.out HF1.out).mono ?_
  rintro e w9 ⟨rfl, rr⟩
  replace VB := Lib.hid (VB.out.below rr)
  replace G1 := Lib.hid (G1.out.below rr)
  replace G2 := Lib.hid (G2.out.below rr)
  have HL' := Lib.hid (then_below HL.out rr)
  clear HL
  have HL := HL'
  clear HL'
  clear rr
  clear G1 G2
  obtain ⟨y, yh, s0, s1, s2, f0, f1, f2⟩ := VF.at VB.out LB.out hkn
  obtain rfl := ZB.out _ yh
  have RQ := VB.out.2 _ (List.mem_of_getElem? yh)
  have RQ1 := Lib.hid RQ.1
  have RQ2 := Lib.hid RQ.2
  dsimp only at s0 s1 s2
  clear RQ yh
  go_wp2_with fail
  clear s0 s1 s2 f0 f1 f2
  refine (v_add_bad (b := false) (l := [2]) (d := [2]) (V1.out.below HL.out).1 (V1.out.below HL.out).1 RQ1.out RQ2.out q2_fit q2_bad (by have := HW1.out; omega)).mono ?_
  rintro e w10 ⟨rfl, rr⟩
  replace VB := Lib.hid (VB.out.below rr)
  have HL' := Lib.hid (then_below HL.out rr)
  clear HL
  have HL := HL'
  clear HL'
  clear rr
  clear RQ1 RQ2
  go_wp2_with fail
  refine (k_of 1 (by decide) (by decide)).mono ?_
  rintro e w11 ⟨o2a, o2c, o2b, o2d, rfl, g1, g2, rr⟩
  replace VB := Lib.hid (VB.out.below rr)
  have G1 := Lib.hid g1
  have G2 := Lib.hid g2
  have HL' := Lib.hid (then_below HL.out rr)
  clear HL
  have HL := HL'
  clear HL'
  clear rr g1 g2
  go_wp2_with fail
  have hf1 := fit_qr (X := ((1 : Int) : Rat)) (by rw [wt_int 1 (by decide)]; omega)
  have HB9 := Lib.hid HL.out.size
  have HG9 := Lib.hid (VB.out.lt (g := g) rfl).2
  refine (v_scale_own (show VReads _ (.slice (some ⟨g, 0, none⟩) n cg) ((xs.map qr).set k q2) by rw [← QB.out]; exact VB.out.fresh.reads) FB.out (qr_can ((1 : Int) : Rat)).is hf1.2.1 hf1.2.2 G1.out G2.out).mono ?_
  rintro e w12 ⟨vc, zc, rfl, hvc, hqc, rr⟩
  replace VB := Lib.hid (VB.out.below rr)
  have HL' := Lib.hid (then_below HL.out rr)
  clear HL
  have HL := HL'
  clear HL' rr G1 G2 hf1
  rw [set_qval, show (((1 : Int) : Rat)) = 1 from rfl, scl_one] at hqc
  have hlc : zc.length = n := by have := congrArg List.length hqc; simp at this; rw [this]; exact LX.out
  obtain ⟨ac, cc, evc⟩ := hvc.form
  rw [hlc] at evc
  subst evc
  obtain ⟨gc, rfl⟩ : ∃ gc, ac = some ⟨gc, 0, none⟩ := by
    rcases hvc.1.1.2 with ⟨e, h0⟩ | ⟨g', c, cur, e, _⟩
    · omega
    · simp only [Value.slice.injEq] at e; exact ⟨g', e.1⟩
  have hgc := (hvc.lt (g := gc) rfl)
  have VC := Lib.hid hvc
  have LC := Lib.hid hlc
  have QC := Lib.hid hqc
  have GC := Lib.hid (show w.heap.size ≤ gc from Nat.le_trans HB9.out (Nat.le_of_succ_le hgc.1)) 
  have GG := Lib.hid (show g < gc from Nat.lt_of_lt_of_le HG9.out (Nat.le_of_succ_le hgc.1))
  clear hvc hlc hqc hgc
  obtain ⟨yc, ych, s0, s1, s2, f0, f1, f2⟩ := VF.at VC.out LC.out hkn
  have eyc : yc.1 = qr 0 := by
    have h1 := one_at ych QC.out
    rw [List.getElem?_map, List.getElem?_set_self (by rw [LX.out]; exact hkn)] at h1
    exact (Option.some.inj h1).symm
  have RZ := VC.out.2 _ (List.mem_of_getElem? ych)
  obtain ⟨yq, yp, yo⟩ := yc
  dsimp only at eyc
  subst eyc
  obtain ⟨yp1, yp2⟩ := yp
  obtain ⟨yo1, yo2⟩ := yo
  have RZ1 := Lib.hid RZ.1
  have RZ2 := Lib.hid RZ.2
  dsimp only at s0 s1 s2 RZ1 RZ2
  have zn : ((qr 0).1 = false) := rfl
  have YC := Lib.hid ych
  clear RZ ych
  go_wp2_with fail
  clear s0 s1 s2 f0 f1 f2
  refine (k_sign 0 0 rfl (by rw [wt_zero]; omega) RZ1.out RZ2.out).mono ?_
  rintro e w13 ⟨rfl, rr⟩
  replace VB := Lib.hid (VB.out.below rr)
  replace VC := Lib.hid (VC.out.below rr)
  replace RZ1 := Lib.hid (RZ1.out.below rr)
  replace RZ2 := Lib.hid (RZ2.out.below rr)
  have HL' := Lib.hid (then_below HL.out rr)
  clear HL
  have HL := HL'
  clear HL'
  clear rr
  obtain ⟨y2, y2h, s0, s1, s2, f0, f1, f2⟩ := VF.at VC.out LC.out hkn
  obtain rfl := Option.some.inj (YC.out.symm.trans y2h)
  dsimp only at s0 s1 s2
  clear y2h
  go_wp2_with fail
  clear s0 s1 s2 f0 f1 f2
  refine (k_rcheck (qr 0) true (qok_qr 0) (fit_qr (by rw [wt_zero]; omega)) RZ1.out RZ2.out).mono ?_
  rintro e w14 ⟨rfl, rr⟩
  replace VB := Lib.hid (VB.out.below rr)
  replace VC := Lib.hid (VC.out.below rr)
  replace RZ1 := Lib.hid (RZ1.out.below rr)
  replace RZ2 := Lib.hid (RZ2.out.below rr)
  have HL' := Lib.hid (then_below HL.out rr)
  clear HL
  have HL := HL'
  clear HL'
  clear rr
  clear RZ1 RZ2
  obtain ⟨y2, y2h, s0, s1, s2, f0, f1, f2⟩ := VF.at VC.out LC.out hkn
  obtain rfl := Option.some.inj (YC.out.symm.trans y2h)
  dsimp only at s0 s1 s2
  clear y2h
  obtain ⟨hx1, hx2, bA, oA, hA, hcA⟩ := (V1.out.below HL.out).1.addr
  obtain ⟨hAe, hx3⟩ := hA hn0
  clear hx1 hx2 hx3
  simp only [Option.some.injEq, Addr.mk.injEq, and_true] at hAe
  obtain ⟨rfl, rfl⟩ := hAe
  obtain ⟨xk, hxk⟩ : ∃ x, x = xs.getD k 0 := ⟨_, rfl⟩
  obtain ⟨pA, cA, pA', cA', x0, x1, x2, rA, rA'⟩ := hcA k (qr xk) (by rw [List.getElem?_map, hxk, List.getD_eq_getElem?_getD, List.getElem?_eq_getElem (by omega)]; rfl)
  have RA := Lib.hid rA
  have RA' := Lib.hid rA'
  have XK := Lib.hid hxk
  clear hA hcA rA rA' hxk
  go_wp2_with fail
  obtain ⟨v8, hv8⟩ : ∃ v, v = (((w14.setCell ⟨gc, k * 3, none⟩ (.bool (qr xk).1)).setCell ⟨gc, k * 3 + 1, none⟩ (.slice pA (qr xk).2.1.length cA)).setCell ⟨gc, k * 3 + 2, none⟩ (.slice pA' (qr xk).2.2.length cA')) := ⟨_, rfl⟩
  have hgr : w14.grownBy v8 (some gc) := by rw [hv8]; exact grown_setCell (grown_setCell (grown_setCell (grown_refl _ _) _ _) _ _) _ _
  have hVB8 : VF v8 w3.heap.size (.slice (some ⟨g, 0, none⟩) n cg) zb := VB.out.kept hgr (.inr (by simp [Value.ownBlock]; have := GG.out; omega)) (v0 := .slice (some ⟨gc, 0, none⟩) n cc) rfl VC.out.1.2
  have hVC8 := VF.put (k := k) (show VF w14 _ (.slice (some ⟨gc, 0, none⟩) zc.length cc) zc by rw [LC.out]; exact VC.out) (by rw [LC.out]; exact hkn) (qr xk, (pA, cA), (pA', cA')) ⟨RA.out, RA'.out⟩
  have b8 : Below w.heap.size w v8 := by
    rw [hv8]
    exact ((HL.out.setCell (p := ⟨gc, k * 3, none⟩) GC.out _).setCell (p := ⟨gc, k * 3 + 1, none⟩) GC.out _).setCell (p := ⟨gc, k * 3 + 2, none⟩) GC.out _
  have hVC8 : VReads v8 (.slice (some ⟨gc, 0, none⟩) n cc) (xs.map qr) := by
    have h := hVC8.fresh.reads
    rw [List.map_set, QC.out, XK.out, set_back (by rw [LX.out]; exact hkn), ← XK.out, LC.out] at h
    rw [hv8]; exact h
  rw [← hv8]
  clear VB VC HL
  have VB := Lib.hid hVB8
  have RC := Lib.hid hVC8
  have HL := Lib.hid b8
  clear hVB8 hVC8 b8 hgr hv8 RA RA' XK YC QC LC GC GG HB9 HG9 s0 s1 s2 f0 f1 f2 x0 x1 x2
  refine (v_check false BB.out.symm (show VReads _ (.slice (some ⟨g, 0, none⟩) n cg) ((xs.map qr).set k q2) by rw [← QB.out]; exact VB.out.fresh.reads) FB.out).mono ?_
  rintro e w15 ⟨rfl, rr⟩
  replace VB := Lib.hid (VB.out.below rr)
  replace RC := Lib.hid (RC.out.below rr)
  have HL' := Lib.hid (then_below HL.out rr)
  clear HL
  have HL := HL'
  clear HL'
  clear rr
  go_wp2_with fail
  refine (v_same_no (by rw [BB.out]; simp) (show VReads _ (.slice (some ⟨g, 0, none⟩) n cg) ((xs.map qr).set k q2) by rw [← QB.out]; exact VB.out.fresh.reads) (show VReads _ (.slice (some ⟨g, 0, none⟩) n cg) ((xs.map qr).set k q2) by rw [← QB.out]; exact VB.out.fresh.reads) FB.out FB.out).mono ?_
  rintro e w16 ⟨rfl, rr⟩
  replace VB := Lib.hid (VB.out.below rr)
  replace RC := Lib.hid (RC.out.below rr)
  have HL' := Lib.hid (then_below HL.out rr)
  clear HL
  have HL := HL'
  clear HL'
  clear rr
  go_wp2_with fail
  refine (v_samem true (by simp) RC.out (V1.out.below HL.out).1 (each_of HW1.out (by omega)) (each_of HW1.out (by omega)) (by omega)).mono ?_
  rintro e w17 ⟨rfl, rr⟩
  replace VB := Lib.hid (VB.out.below rr)
  replace RC := Lib.hid (RC.out.below rr)
  have HL' := Lib.hid (then_below HL.out rr)
  clear HL
  have HL := HL'
  clear HL'
  clear rr
  clear RC
  obtain ⟨y, yh, s0, s1, s2, f0, f1, f2⟩ := VF.at VB.out LB.out hkn
  obtain rfl := ZB.out _ yh
  have RQ := VB.out.2 _ (List.mem_of_getElem? yh)
  have RQ1 := Lib.hid RQ.1
  have RQ2 := Lib.hid RQ.2
  dsimp only at s0 s1 s2
  clear RQ yh
  go_wp2_with fail
  clear s0 s1 s2 f0 f1 f2
  refine (k_scaleq (n := n) (a1 := some ⟨b1, o1, none⟩) (c1 := c1) q2 q2_fit (zeros n) (by rw [q2_val, scl_zero, LX.out]) (each_of HW1.out (by omega)) (by omega) (V1.out.below HL.out).1 RQ1.out RQ2.out).mono ?_
  rintro e w18 ⟨ax1, cx1, rfl, hs1, rr⟩
  replace VB := Lib.hid (VB.out.below rr)
  have S1 := Lib.hid hs1
  have HL' := Lib.hid (then_below HL.out rr)
  clear HL
  have HL := HL'
  clear HL'
  clear rr hs1
  clear RQ1 RQ2
  go_wp2_with fail
  refine (k_zero n (by omega)).mono ?_
  rintro e w19 ⟨ax2, cx2, rfl, hs2, rr⟩
  replace VB := Lib.hid (VB.out.below rr)
  replace S1 := Lib.hid (S1.out.below rr)
  have S2 := Lib.hid hs2
  have HL' := Lib.hid (then_below HL.out rr)
  clear HL
  have HL := HL'
  clear HL'
  clear rr hs2
  go_wp2_with fail
  refine (v_samem true (by simp) S1.out S2.out (each_zeros (by omega)) (each_zeros (by omega)) (by omega)).mono ?_
  rintro e w20 ⟨rfl, rr⟩
  replace VB := Lib.hid (VB.out.below rr)
  replace S1 := Lib.hid (S1.out.below rr)
  replace S2 := Lib.hid (S2.out.below rr)
  have HL' := Lib.hid (then_below HL.out rr)
  clear HL
  have HL := HL'
  clear HL'
  clear rr
  go_wp2_with fail
  go_ret
  exact ⟨rfl, HL.out⟩
theorem odd_all {w : World} {a1 : Option Addr} {n c1 : Nat} {q1 : List Qr} {u : Int} (h1 : GOK w (a1, n, c1, q1)) (hu : (Lit.int .u8 u).wf = true) :
    Calls Try.prog 4 #[.slice a1 n c1, .int .u8 u] w fun e w' => e = .returned (.bool true) ∧ Below w.heap.size w w' := by
  cases hg : ([(a1, n, c1, q1)] : List GI).any gbig with
  | true => exact odd_great h1 hu hg
  | false =>
    have hgg := hg
    simp only [List.any_cons, List.any_nil, Bool.or_false] at hgg
    have b1 := gbig_no hgg
    dsimp only at b1
    by_cases hn : n = 0
    · exact odd_nil h1 hu hg hn
    · have e1 := h1.1.addr.1
      have f1 := qrows_of e1 b1.1 h1.2 b1.2
      cases k1 : q1.all qok with
      | false => exact odd_bad h1 hu hg hn f1 k1
      | true =>
        obtain ⟨xs, rfl, _, hw1⟩ := row_of e1 h1.2 b1.2 k1
        obtain ⟨_, _, b, o, hA, _⟩ := h1.1.addr
        obtain ⟨rfl, _⟩ := hA (Nat.pos_of_ne_zero hn)
        simp [Lit.wf, IntKind.min, IntKind.max, IntKind.signed, IntKind.bits] at hu
        obtain ⟨t, rfl⟩ : ∃ t : Nat, u = (t : Int) := ⟨u.toNat, by omega⟩
        exact odd_near (k := t % n) h1 (by omega) rfl hg b1.1 (Nat.pos_of_ne_zero hn) hw1
end Go.Proofs.Ytlcbicdendelfaa
