/- VecsParts: its walks. -/
import Derived.Test.YtcndjjhdckbfkaaGVecK
import Derived.Deep.RegionHeld3
namespace Go.Proofs.Ytcndjjhdckbfkaa
open Go Go.Proofs Go.RowKit Go.Shelf Nu

attribute [local go_sem] Oper.semAt_some

set_option maxRecDepth 100000 in
set_option maxHeartbeats 8000000 in
theorem parts_great {w : World} {a1 a2 : Option Addr} {n1 n2 c1 c2 : Nat} {q1 q2 : List Qr} {u : Int} (h1 : GOK w (a1, n1, c1, q1)) (h2 : GOK w (a2, n2, c2, q2)) (_hu : (Lit.int .u8 u).wf = true) (hg : ([(a1, n1, c1, q1), (a2, n2, c2, q2)] : List GI).any gbig = true) :
    Calls Try.prog 6 #[.slice a1 n1 c1, .slice a2 n2 c2, .int .u8 u] w fun e w' => e = .returned (.bool true) ∧ Below w.heap.size w w' := by
  have HG := Lib.hid hg; clear hg
  have V1 := Lib.hid h1; have V2 := Lib.hid h2; clear h1 h2
  go_enter Try.func6, Try.ntmps6
  go_wp2_with fail
  refine (v_alive _).mono ?_
  rintro e w1 ⟨rfl, rr⟩
  replace V1 := Lib.hid (V1.out.below rr); replace V2 := Lib.hid (V2.out.below rr); have HL := Lib.hid rr; clear rr
  go_wp2_with fail
  refine (v_great (W := w1) [(a1, n1, c1, q1), (a2, n2, c2, q2)] rfl rfl (by simp) (gokc V1.out (gokc V2.out (gok0 _))) true HG.out.symm).mono ?_
  rintro e w2 ⟨rfl, rr⟩
  replace V1 := Lib.hid (V1.out.below rr); replace V2 := Lib.hid (V2.out.below rr); replace HL := Lib.hid (then_below HL.out rr); clear rr
  go_wp2_with fail
  refine (v_alive _).mono ?_
  rintro e w3 ⟨rfl, rr⟩
  replace V1 := Lib.hid (V1.out.below rr); replace V2 := Lib.hid (V2.out.below rr); replace HL := Lib.hid (then_below HL.out rr); clear rr
  go_wp2_with fail
  go_ret
  exact ⟨rfl, HL.out⟩
set_option maxRecDepth 100000 in
set_option maxHeartbeats 8000000 in
theorem parts_len {w : World} {a1 a2 : Option Addr} {n1 n2 c1 c2 : Nat} {q1 q2 : List Qr} {u : Int} (h1 : GOK w (a1, n1, c1, q1)) (h2 : GOK w (a2, n2, c2, q2)) (_hu : (Lit.int .u8 u).wf = true) (hg : ([(a1, n1, c1, q1), (a2, n2, c2, q2)] : List GI).any gbig = false) (hn : n1 ≠ n2) :
    Calls Try.prog 6 #[.slice a1 n1 c1, .slice a2 n2 c2, .int .u8 u] w fun e w' => e = .returned (.bool true) ∧ Below w.heap.size w w' := by
  have HG := Lib.hid hg; clear hg
  have j1 : ((n1 : Int) != (n2 : Int)) = true := by simp; omega
  clear hn
  have V1 := Lib.hid h1; have V2 := Lib.hid h2; clear h1 h2
  go_enter Try.func6, Try.ntmps6
  go_wp2_with fail
  refine (v_alive _).mono ?_
  rintro e w1 ⟨rfl, rr⟩
  replace V1 := Lib.hid (V1.out.below rr); replace V2 := Lib.hid (V2.out.below rr); have HL := Lib.hid rr; clear rr
  go_wp2_with fail
  refine (v_great (W := w1) [(a1, n1, c1, q1), (a2, n2, c2, q2)] rfl rfl (by simp) (gokc V1.out (gokc V2.out (gok0 _))) false HG.out.symm).mono ?_
  rintro e w2 ⟨rfl, rr⟩
  replace V1 := Lib.hid (V1.out.below rr); replace V2 := Lib.hid (V2.out.below rr); replace HL := Lib.hid (then_below HL.out rr); clear rr
  go_wp2_with fail
  refine (v_alive _).mono ?_
  rintro e w3 ⟨rfl, rr⟩
  replace V1 := Lib.hid (V1.out.below rr); replace V2 := Lib.hid (V2.out.below rr); replace HL := Lib.hid (then_below HL.out rr); clear rr
  go_wp2_with fail
  go_ret
  exact ⟨rfl, HL.out⟩
set_option maxRecDepth 100000 in
set_option maxHeartbeats 8000000 in
theorem parts_bad1 {w : World} {a1 a2 : Option Addr} {n1 n2 c1 c2 : Nat} {q1 q2 : List Qr} {u : Int} (h1 : GOK w (a1, n1, c1, q1)) (h2 : GOK w (a2, n2, c2, q2)) (_hu : (Lit.int .u8 u).wf = true) (hg : ([(a1, n1, c1, q1), (a2, n2, c2, q2)] : List GI).any gbig = false) (hn : n1 = n2) (f1 : qrows q1) (f2 : qrows q2) (k1 : q1.all qok = false) :
    Calls Try.prog 6 #[.slice a1 n1 c1, .slice a2 n2 c2, .int .u8 u] w fun e w' => e = .returned (.bool true) ∧ Below w.heap.size w w' := by
  have HG := Lib.hid hg; have HF1 := Lib.hid f1; have HF2 := Lib.hid f2; have HK1 := Lib.hid k1; clear hg f1 f2 k1
  subst hn
  have j1 : ((n1 : Int) != (n1 : Int)) = false := by simp
  have V1 := Lib.hid h1; have V2 := Lib.hid h2; clear h1 h2
  go_enter Try.func6, Try.ntmps6
  go_wp2_with fail
  refine (v_alive _).mono ?_
  rintro e w1 ⟨rfl, rr⟩
  replace V1 := Lib.hid (V1.out.below rr); replace V2 := Lib.hid (V2.out.below rr); have HL := Lib.hid rr; clear rr
  go_wp2_with fail
  refine (v_great (W := w1) [(a1, n1, c1, q1), (a2, n1, c2, q2)] rfl rfl (by simp) (gokc V1.out (gokc V2.out (gok0 _))) false HG.out.symm).mono ?_
  rintro e w2 ⟨rfl, rr⟩
  replace V1 := Lib.hid (V1.out.below rr); replace V2 := Lib.hid (V2.out.below rr); replace HL := Lib.hid (then_below HL.out rr); clear rr
  go_wp2_with fail
  refine (v_check false HK1.out.symm V1.out.1 HF1.out).mono ?_
  rintro e w3 ⟨rfl, rr⟩
  replace V1 := Lib.hid (V1.out.below rr); replace V2 := Lib.hid (V2.out.below rr); replace HL := Lib.hid (then_below HL.out rr); clear rr
  go_wp2_with fail
  refine (v_alive _).mono ?_
  rintro e w4 ⟨rfl, rr⟩
  replace V1 := Lib.hid (V1.out.below rr); replace V2 := Lib.hid (V2.out.below rr); replace HL := Lib.hid (then_below HL.out rr); clear rr
  go_wp2_with fail
  go_ret
  exact ⟨rfl, HL.out⟩
set_option maxRecDepth 100000 in
set_option maxHeartbeats 8000000 in
theorem parts_bad2 {w : World} {a1 a2 : Option Addr} {n1 n2 c1 c2 : Nat} {q1 q2 : List Qr} {u : Int} (h1 : GOK w (a1, n1, c1, q1)) (h2 : GOK w (a2, n2, c2, q2)) (_hu : (Lit.int .u8 u).wf = true) (hg : ([(a1, n1, c1, q1), (a2, n2, c2, q2)] : List GI).any gbig = false) (hn : n1 = n2) (f1 : qrows q1) (f2 : qrows q2) (k1 : q1.all qok = true) (k2 : q2.all qok = false) :
    Calls Try.prog 6 #[.slice a1 n1 c1, .slice a2 n2 c2, .int .u8 u] w fun e w' => e = .returned (.bool true) ∧ Below w.heap.size w w' := by
  have HG := Lib.hid hg; have HF1 := Lib.hid f1; have HF2 := Lib.hid f2; have HK1 := Lib.hid k1; clear hg f1 f2 k1
  have HK2 := Lib.hid k2; clear k2
  subst hn
  have j1 : ((n1 : Int) != (n1 : Int)) = false := by simp
  have V1 := Lib.hid h1; have V2 := Lib.hid h2; clear h1 h2
  go_enter Try.func6, Try.ntmps6
  go_wp2_with fail
  refine (v_alive _).mono ?_
  rintro e w1 ⟨rfl, rr⟩
  replace V1 := Lib.hid (V1.out.below rr); replace V2 := Lib.hid (V2.out.below rr); have HL := Lib.hid rr; clear rr
  go_wp2_with fail
  refine (v_great (W := w1) [(a1, n1, c1, q1), (a2, n1, c2, q2)] rfl rfl (by simp) (gokc V1.out (gokc V2.out (gok0 _))) false HG.out.symm).mono ?_
  rintro e w2 ⟨rfl, rr⟩
  replace V1 := Lib.hid (V1.out.below rr); replace V2 := Lib.hid (V2.out.below rr); replace HL := Lib.hid (then_below HL.out rr); clear rr
  go_wp2_with fail
  refine (v_check true HK1.out.symm V1.out.1 HF1.out).mono ?_
  rintro e w3 ⟨rfl, rr⟩
  replace V1 := Lib.hid (V1.out.below rr); replace V2 := Lib.hid (V2.out.below rr); replace HL := Lib.hid (then_below HL.out rr); clear rr
  go_wp2_with fail
  refine (v_check false HK2.out.symm V2.out.1 HF2.out).mono ?_
  rintro e w4 ⟨rfl, rr⟩
  replace V1 := Lib.hid (V1.out.below rr); replace V2 := Lib.hid (V2.out.below rr); replace HL := Lib.hid (then_below HL.out rr); clear rr
  go_wp2_with fail
  refine (v_alive _).mono ?_
  rintro e w5 ⟨rfl, rr⟩
  replace V1 := Lib.hid (V1.out.below rr); replace V2 := Lib.hid (V2.out.below rr); replace HL := Lib.hid (then_below HL.out rr); clear rr
  go_wp2_with fail
  go_ret
  exact ⟨rfl, HL.out⟩
theorem cap_le {W : World} {a : Option Addr} {n c : Nat} {qs : List Qr} (h : VReads W (.slice a n c) qs) : n ≤ c := h.addr.2.1
theorem vtake {W : World} {a : Option Addr} {n c : Nat} {xs : List Rat} (h : VReads W (.slice a n c) (xs.map qr)) (k : Nat) (hk : k ≤ n) : VReads W (.slice a k c) ((xs.take k).map qr) := by
  rw [List.map_take]; exact h.take k hk
theorem vdrop {W : World} {b o n c : Nat} {xs : List Rat} (hn : 0 < n) (h : VReads W (.slice (some ⟨b, o, none⟩) n c) (xs.map qr)) (k : Nat) (hk : k ≤ n) (P : Nat) (hP : P = if c = k then 0 else k * 3) : VReads W (.slice (some ⟨b, o + P, none⟩) (n - k) (c - k)) ((xs.drop k).map qr) := by
  have hc := cap_le h
  by_cases e : c = k
  · subst e
    obtain rfl : n = c := by omega
    have hl : xs.length = n := by have := h.addr.1; simpa using this.symm
    rw [Nat.sub_self, List.drop_eq_nil_of_le (by omega)]
    exact .inr (.inr ⟨_, rfl, rfl⟩)
  · rw [if_neg e] at hP
    rw [List.map_drop, hP]; exact h.drop k _ _ _ rfl rfl rfl hk hn
theorem vat {W : World} {b o n c j : Nat} {xs : List Rat} (h : VReads W (.slice (some ⟨b, o, none⟩) n c) (xs.map qr)) (hj : j < n) :
    ∃ (X : Rat) (p : Option Addr) (cp : Nat) (p' : Option Addr) (cp' : Nat), (xs.drop j).take 1 = [X] ∧ W.cell? ⟨b, o + j * 3, none⟩ = some (.bool (qr X).1) ∧ W.cell? ⟨b, o + j * 3 + 1, none⟩ = some (.slice p (qr X).2.1.length cp) ∧ W.cell? ⟨b, o + j * 3 + 2, none⟩ = some (.slice p' (qr X).2.2.length cp') ∧ Reads W (.slice p (qr X).2.1.length cp) (qr X).2.1 ∧ Reads W (.slice p' (qr X).2.2.length cp') (qr X).2.2 ∧ b < W.heap.size ∧ X ∈ xs := by
  obtain ⟨hn, _, b', off, hA, hc⟩ := h.addr
  obtain ⟨e, hb⟩ := hA (by omega)
  cases e
  have hl : j < xs.length := by simpa [hn] using hj
  obtain ⟨p, cp, p', cp', h0, h1, h2, g, g'⟩ := hc j (qr xs[j]) (by simp [hl])
  refine ⟨xs[j], p, cp, p', cp', ?_, h0, h1, h2, g, g', hb, List.getElem_mem hl⟩
  rw [List.drop_eq_getElem_cons hl]; rfl
theorem vone {W : World} {b o n c j : Nat} {xs : List Rat} {X : Rat} (hn : 0 < n) (h : VReads W (.slice (some ⟨b, o, none⟩) n c) (xs.map qr)) (hj : j < n) (hX : (xs.drop j).take 1 = [X]) : VReads W (.slice (some ⟨b, o + j * 3, none⟩) 1 (c - j)) ([X].map qr) := by
  have hc := cap_le h
  have k := vtake (vdrop hn h j (by omega) (j * 3) (by rw [if_neg (by omega)])) 1 (by omega)
  rwa [hX] at k
set_option maxRecDepth 100000 in
set_option maxHeartbeats 6000000 in
theorem parts_near {w : World} {b1 o1 b2 o2 n c1 c2 t k : Nat} {xs ys : List Rat} (h1 : GOK w (some ⟨b1, o1, none⟩, n, c1, xs.map qr)) (h2 : GOK w (some ⟨b2, o2, none⟩, n, c2, ys.map qr)) (ht : t ≤ 255) (hk : k = t % (n + 1)) (hg : ([(some ⟨b1, o1, none⟩, n, c1, xs.map qr), (some ⟨b2, o2, none⟩, n, c2, ys.map qr)] : List GI).any gbig = false) (h30 : n ≤ 30) (hn0 : 0 < n) (hw1 : wts xs ≤ 300) (hw2 : wts ys ≤ 300) :
    Calls Try.prog 6 #[.slice (some ⟨b1, o1, none⟩) n c1, .slice (some ⟨b2, o2, none⟩) n c2, .int .u8 (t : Int)] w fun e w' => e = .returned (.bool true) ∧ Below w.heap.size w w' := by
  have HG := Lib.hid hg; clear hg
  have hcap1 : n ≤ c1 := cap_le h1.1
  have hcap2 : n ≤ c2 := cap_le h2.1
  have l1 := wts_len xs
  have l2 := wts_len ys
  have hlx : xs.length = n := by have := h1.1.addr.1; simpa using this.symm
  have hly : ys.length = n := by have := h2.1.addr.1; simpa using this.symm
  have HF1 : Hid (qrows (xs.map qr)) := Lib.hid ⟨fit_qrs (by omega), by simp; omega⟩
  have HF2 : Hid (qrows (ys.map qr)) := Lib.hid ⟨fit_qrs (by omega), by simp; omega⟩
  have HK1 : Hid ((xs.map qr).all qok = true) := Lib.hid (all_qok_qr _)
  have HK2 : Hid ((ys.map qr).all qok = true) := Lib.hid (all_qok_qr _)
  have hkn : k ≤ n := by rw [hk]; exact Nat.le_of_lt_succ (Nat.mod_lt _ (by omega))
  have s1 := wts_take_drop xs k
  have s2 := wts_take_drop ys k
  have q1 : wts xs + wts ys ≤ 8900 := by omega
  have q2 : wts (xs.take k) + wts (ys.take k) ≤ 8900 := by omega
  have q3 : wts (xs.drop k) + wts (ys.drop k) ≤ 8900 := by omega
  have e1 := dot_split xs ys k
  have d1 := wt_dot xs ys
  have d2 := wt_dot (xs.take k) (ys.take k)
  have d3 := wt_dot (xs.drop k) (ys.drop k)
  obtain ⟨D, hD⟩ : ∃ D, D = dot xs ys := ⟨_, rfl⟩
  obtain ⟨Y, hY⟩ : ∃ Y, Y = dot (xs.take k) (ys.take k) := ⟨_, rfl⟩
  obtain ⟨Z, hZ⟩ : ∃ Z, Z = dot (xs.drop k) (ys.drop k) := ⟨_, rfl⟩
  rw [← hD] at e1 d1
  rw [← hY] at e1 d2
  rw [← hZ] at e1 d3
  have wD : wt D ≤ 9999 := by omega
  have wY : wt Y ≤ 9999 := by omega
  have wZ : wt Z ≤ 9999 := by omega
  have M2 := Lib.hid hD.symm
  have M3 := Lib.hid hY.symm
  have M4 := Lib.hid hZ.symm
  have M8 := Lib.hid e1
  have L1 := Lib.hid hlx
  have L2 := Lib.hid hly
  have HW1 := Lib.hid hw1
  have HW2 := Lib.hid hw2
  have HK := Lib.hid hk
  have i1 : (0 : Int) ≤ (k : Int) := by omega
  have i2 : (k : Int) ≤ (c1 : Int) := by omega
  have i3 : (k : Int) ≤ (c2 : Int) := by omega
  have i4 : (k : Int) ≤ (n : Int) := by omega
  have i5 : (n : Int) ≤ (c1 : Int) := by omega
  have i6 : (n : Int) ≤ (c2 : Int) := by omega
  have jw : IntKind.i64.wrap ((n : Int) + 1) = (n : Int) + 1 := by rw [IntKind.wrap_i64]; omega
  have jm : Int.tmod (t : Int) ((n : Int) + 1) = (k : Int) := by rw [hk]; rfl
  have jc : IntKind.i64.wrap (t : Int) = (t : Int) := by rw [IntKind.wrap_i64]; omega
  have jk : IntKind.i64.wrap (k : Int) = (k : Int) := by rw [IntKind.wrap_i64]; omega
  have jz : ((n : Int) + 1 == 0) = false := by simp; omega
  have jz2 : ¬ ((n : Int) + 1 = 0) := by omega
  have j1 : ((n : Int) != (n : Int)) = false := by simp
  obtain ⟨P1, hP1⟩ : ∃ P, P = if c1 = k then 0 else k * 3 := ⟨_, rfl⟩
  obtain ⟨P2, hP2⟩ : ∃ P, P = if c2 = k then 0 else k * 3 := ⟨_, rfl⟩
  have HP1 := Lib.hid hP1
  have HP2 := Lib.hid hP2
  clear hP1 hP2
  clear hD hY hZ e1 d1 d2 d3 s1 s2 l1 l2 hlx hly hw1 hw2 hk
  have V1 := Lib.hid h1; have V2 := Lib.hid h2; clear h1 h2
  have M := Mem.start w
  have M' : Mem w [] [] _ := M
  clear M; have M := M'; clear M'
  go_enter Try.func6, Try.ntmps6
  go_wp2_with fail
  refine (v_alive _).mono ?_
  rintro e w1 ⟨rfl, rr⟩
  have M' := M.up rr; clear M rr; have M := M'; clear M'
  go_wp2_with fail
  refine (v_great (W := w1) [(some ⟨b1, o1, none⟩, n, c1, xs.map qr), (some ⟨b2, o2, none⟩, n, c2, ys.map qr)] rfl rfl (by simp) (gokc (V1.out.below M.below) (gokc (V2.out.below M.below) (gok0 _))) false HG.out.symm).mono ?_
  rintro e w2 ⟨rfl, rr⟩
  have M' := M.up rr; clear M rr; have M := M'; clear M'
  go_wp2_with fail
  refine (v_check true HK1.out.symm (V1.out.below M.below).1 HF1.out).mono ?_
  rintro e w3 ⟨rfl, rr⟩
  have M' := M.up rr; clear M rr; have M := M'; clear M'
  go_wp2_with fail
  refine (v_check true HK2.out.symm (V2.out.below M.below).1 HF2.out).mono ?_
  rintro e w4 ⟨rfl, rr⟩
  have M' := M.up rr; clear M rr; have M := M'; clear M'
  go_wp2_with fail
  refine (k_dot D M2.out q1 (V1.out.below M.below).1 (V2.out.below M.below).1).mono ?_
  rintro e w5 ⟨ad1, kd1, od1, rd1, rfl, g, g', rr⟩
  have M' := ((M.up rr).add g).add g'; clear M rr g g'; have M := M'; clear M'
  replace M := M.new 31 [.bool (qr D).1, .slice ad1 (qr D).2.1.length kd1, .slice od1 (qr D).2.2.length rd1]
  have M' : Mem w [(w5.heap.size, 31, [.bool (qr D).1, .slice ad1 (qr D).2.1.length kd1, .slice od1 (qr D).2.2.length rd1])] [(.slice od1 (qr D).2.2.length rd1, (qr D).2.2), (.slice ad1 (qr D).2.1.length kd1, (qr D).2.1)] _ := M
  clear M; have M := M'; clear M'
  go_wp2_with fail
  apply region_cut_nss (Fact := (fun bd2 ad2 kd2 od2 rd2 W => Mem w [(bd2, 31, [.bool (qr Y).1, .slice ad2 (qr Y).2.1.length kd2, .slice od2 (qr Y).2.2.length rd2]), (w5.heap.size, 31, [.bool (qr D).1, .slice ad1 (qr D).2.1.length kd1, .slice od1 (qr D).2.2.length rd1])] [(.slice od2 (qr Y).2.2.length rd2, (qr Y).2.2), (.slice ad2 (qr Y).2.1.length kd2, (qr Y).2.1), (.slice od1 (qr D).2.2.length rd1, (qr D).2.2), (.slice ad1 (qr D).2.1.length kd1, (qr D).2.1)] W))
  case first =>
    refine region_mem (S := (fun W : World => BoxN W (w5.heap.size) 31 #[.bool (qr D).1, .slice ad1 (qr D).2.1.length kd1, .slice od1 (qr D).2.2.length rd1])) M (by kernel_rfl) ?_
    intro V0 M
    have hS0 : (fun W : World => BoxN W (w5.heap.size) 31 #[.bool (qr D).1, .slice ad1 (qr D).2.1.length kd1, .slice od1 (qr D).2.2.length rd1]) V0 := M.box 0 rfl
    refine wpAnyH_take (i := 0) (oi := ⟨_, _, _, _, _, _⟩) (v := (.slice (some ⟨b1, o1, none⟩) n c1)) rfl (by kernel_rfl) (by kernel_rfl) (by kernel_rfl) (fun _ _ _ h => nomatch h.1) (Or.inl ⟨by rfl, fun W3 hS => by go_simp⟩) hS0 ?_
    try simp only [Act.put, List.setIfInBounds_toArray, List.set_cons_zero, List.set_cons_succ]
    refine wpAnyH_take (i := 1) (oi := ⟨_, _, _, _, _, _⟩) (v := (.int .i64 (k : Int))) rfl (by kernel_rfl) (by kernel_rfl) (by kernel_rfl) (fun _ _ _ h => nomatch h.1) (Or.inl ⟨by rfl, fun W3 hS => by go_simp⟩) hS0 ?_
    try simp only [Act.put, List.setIfInBounds_toArray, List.set_cons_zero, List.set_cons_succ]
    refine wpAnyH_take (i := 2) (oi := ⟨_, _, _, _, _, _⟩) (v := (.slice (some ⟨b1, o1, none⟩) k c1)) rfl (by kernel_rfl) (by kernel_rfl) (by kernel_rfl) (fun _ _ _ h => nomatch h.1) (Or.inl ⟨by rfl, fun W3 hS => by go_simp⟩) hS0 ?_
    try simp only [Act.put, List.setIfInBounds_toArray, List.set_cons_zero, List.set_cons_succ]
    refine wpAnyH_take (i := 3) (oi := ⟨_, _, _, _, _, _⟩) (v := (.slice (some ⟨b2, o2, none⟩) n c2)) rfl (by kernel_rfl) (by kernel_rfl) (by kernel_rfl) (fun _ _ _ h => nomatch h.1) (Or.inl ⟨by rfl, fun W3 hS => by go_simp⟩) hS0 ?_
    try simp only [Act.put, List.setIfInBounds_toArray, List.set_cons_zero, List.set_cons_succ]
    refine wpAnyH_take (i := 4) (oi := ⟨_, _, _, _, _, _⟩) (v := (.int .i64 (k : Int))) rfl (by kernel_rfl) (by kernel_rfl) (by kernel_rfl) (fun _ _ _ h => nomatch h.1) (Or.inl ⟨by rfl, fun W3 hS => by go_simp⟩) hS0 ?_
    try simp only [Act.put, List.setIfInBounds_toArray, List.set_cons_zero, List.set_cons_succ]
    refine wpAnyH_take (i := 5) (oi := ⟨_, _, _, _, _, _⟩) (v := (.slice (some ⟨b2, o2, none⟩) k c2)) rfl (by kernel_rfl) (by kernel_rfl) (by kernel_rfl) (fun _ _ _ h => nomatch h.1) (Or.inl ⟨by rfl, fun W3 hS => by go_simp⟩) hS0 ?_
    try simp only [Act.put, List.setIfInBounds_toArray, List.set_cons_zero, List.set_cons_succ]
    clear hS0
    refine wpAnyH_all (rs := [6, 10]) (by kernel_rfl) (by simp) ?_
    intro i hi
    have hi2 : i = 6 ∨ i = 10 := by simpa using hi
    clear hi
    rcases hi2 with rfl | rfl
    · refine wpOp_intro rfl (fun K1 hK => ?_)
      go_simp
      refine (k_dot (n := k) Y M3.out q2 (vtake (V1.out.below M.below).1 k hkn) (vtake (V2.out.below M.below).1 k hkn)).mono ?_
      rintro e V1_6 ⟨ad2, kd2, od2, rd2, rfl, g, g', rr⟩
      have M' := ((M.up rr).add g).add g'
      clear M rr g g'
      have M := M'; clear M'
      refine hK _ _ ⟨M.box 0 rfl, ?_⟩
      clear hK K1
      have hS0 : (fun W : World => BoxN W (w5.heap.size) 31 #[.bool (qr D).1, .slice ad1 (qr D).2.1.length kd1, .slice od1 (qr D).2.2.length rd1]) _ := M.box 0 rfl
      refine wpAnyH_take (i := 7) (oi := ⟨_, _, _, _, _, _⟩) (v := (.tuple #[.agg #[.bool (qr Y).1, .slice ad2 (qr Y).2.1.length kd2, .slice od2 (qr Y).2.2.length rd2], .int .i64 0])) rfl (by kernel_rfl) (by kernel_rfl) (by kernel_rfl) (fun _ _ _ h => nomatch h.1) (Or.inl ⟨by rfl, fun W3 hS => by go_simp⟩) hS0 ?_
      try simp only [Act.put, List.setIfInBounds_toArray, List.set_cons_zero, List.set_cons_succ]
      refine wpAnyH_take (i := 8) (oi := ⟨_, _, _, _, _, _⟩) (v := (.agg #[.bool (qr Y).1, .slice ad2 (qr Y).2.1.length kd2, .slice od2 (qr Y).2.2.length rd2])) rfl (by kernel_rfl) (by kernel_rfl) (by kernel_rfl) (fun _ _ _ h => nomatch h.1) (Or.inl ⟨by rfl, fun W3 hS => by go_simp⟩) hS0 ?_
      try simp only [Act.put, List.setIfInBounds_toArray, List.set_cons_zero, List.set_cons_succ]
      refine wpAnyH_take (i := 9) (oi := ⟨_, _, _, _, _, _⟩) (v := (.int .i64 0)) rfl (by kernel_rfl) (by kernel_rfl) (by kernel_rfl) (fun _ _ _ h => nomatch h.1) (Or.inl ⟨by rfl, fun W3 hS => by go_simp⟩) hS0 ?_
      try simp only [Act.put, List.setIfInBounds_toArray, List.set_cons_zero, List.set_cons_succ]
      clear hS0
      refine wpAnyH_all (rs := [10]) (by kernel_rfl) (by simp) ?_
      intro i hi
      obtain rfl : i = 10 := by simpa using hi
      refine wpOp_intro rfl (fun K2 hK => ?_)
      clear hi
      go_simp
      obtain ⟨bd2, V2_10, hV, hb, M'⟩ := M.fresh 31 [.bool false, .slice none 0 0, .slice none 0 0]
      rw [← hV, ← hb]
      clear M hV hb; have M := M'; clear M'
      refine hK _ _ ⟨M.box 1 rfl, ?_⟩
      clear hK K2
      have f0_0 := M.fr 0 rfl 0; have f0_1 := M.fr 0 rfl 1; have f0_2 := M.fr 0 rfl 2
      have z0_0 := M.cell 0 rfl 0 rfl; have z0_1 := M.cell 0 rfl 1 rfl; have z0_2 := M.cell 0 rfl 2 rfl
      refine wpAnyH_all (rs := [11]) (by kernel_rfl) (by simp) ?_
      intro i hi
      obtain rfl : i = 11 := by simpa using hi
      refine wpOp_intro rfl (fun Ks3 hK => ?_)
      clear hi
      go_simp
      have M' := (((M.put 0 rfl rfl 0 (.bool (qr Y).1)).put 0 rfl rfl 1 (.slice ad2 (qr Y).2.1.length kd2)).put 0 rfl rfl 2 (.slice od2 (qr Y).2.2.length rd2))
      clear M f0_0 z0_0 f0_1 z0_1 f0_2 z0_2
      have M : Mem w [(bd2, 31, [.bool (qr Y).1, .slice ad2 (qr Y).2.1.length kd2, .slice od2 (qr Y).2.2.length rd2]), (w5.heap.size, 31, [.bool (qr D).1, .slice ad1 (qr D).2.1.length kd1, .slice od1 (qr D).2.2.length rd1])] [(.slice od2 (qr Y).2.2.length rd2, (qr Y).2.2), (.slice ad2 (qr Y).2.1.length kd2, (qr Y).2.1), (.slice od1 (qr D).2.2.length rd1, (qr D).2.2), (.slice ad1 (qr D).2.1.length kd1, (qr D).2.1)] _ := M'
      clear M'
      refine hK _ _ ⟨M.box 1 rfl, ?_⟩
      clear hK Ks3
      have hS0 : (fun W : World => BoxN W (w5.heap.size) 31 #[.bool (qr D).1, .slice ad1 (qr D).2.1.length kd1, .slice od1 (qr D).2.2.length rd1]) _ := M.box 1 rfl
      refine wpAnyH_take (i := 12) (oi := ⟨_, _, _, _, _, _⟩) (v := (.int .i64 0)) rfl (by kernel_rfl) (by kernel_rfl) (by kernel_rfl) (fun _ _ _ h => nomatch h.1) (Or.inl ⟨by rfl, fun W3 hS => by go_simp⟩) hS0 ?_
      try simp only [Act.put, List.setIfInBounds_toArray, List.set_cons_zero, List.set_cons_succ]
      clear hS0
      refine wpAnyH_done (by kernel_rfl) ?_ _
      exact ⟨rfl, bd2, ad2, kd2, od2, rd2, rfl, M⟩
    · refine wpOp_intro rfl (fun K1 hK => ?_)
      go_simp
      obtain ⟨bd2, V1_10, hV, hb, M'⟩ := M.fresh 31 [.bool false, .slice none 0 0, .slice none 0 0]
      rw [← hV, ← hb]
      clear M hV hb; have M := M'; clear M'
      refine hK _ _ ⟨M.box 1 rfl, ?_⟩
      clear hK K1
      refine wpAnyH_all (rs := [6]) (by kernel_rfl) (by simp) ?_
      intro i hi
      obtain rfl : i = 6 := by simpa using hi
      refine wpOp_intro rfl (fun K4 hK => ?_)
      clear hi
      go_simp
      refine (k_dot (n := k) Y M3.out q2 (vtake (V1.out.below M.below).1 k hkn) (vtake (V2.out.below M.below).1 k hkn)).mono ?_
      rintro e V4_6 ⟨ad2, kd2, od2, rd2, rfl, g, g', rr⟩
      have M' := ((M.up rr).add g).add g'
      clear M rr g g'
      have M := M'; clear M'
      refine hK _ _ ⟨M.box 1 rfl, ?_⟩
      clear hK K4
      have hS0 : (fun W : World => BoxN W (w5.heap.size) 31 #[.bool (qr D).1, .slice ad1 (qr D).2.1.length kd1, .slice od1 (qr D).2.2.length rd1]) _ := M.box 1 rfl
      refine wpAnyH_take (i := 7) (oi := ⟨_, _, _, _, _, _⟩) (v := (.tuple #[.agg #[.bool (qr Y).1, .slice ad2 (qr Y).2.1.length kd2, .slice od2 (qr Y).2.2.length rd2], .int .i64 0])) rfl (by kernel_rfl) (by kernel_rfl) (by kernel_rfl) (fun _ _ _ h => nomatch h.1) (Or.inl ⟨by rfl, fun W3 hS => by go_simp⟩) hS0 ?_
      try simp only [Act.put, List.setIfInBounds_toArray, List.set_cons_zero, List.set_cons_succ]
      refine wpAnyH_take (i := 8) (oi := ⟨_, _, _, _, _, _⟩) (v := (.agg #[.bool (qr Y).1, .slice ad2 (qr Y).2.1.length kd2, .slice od2 (qr Y).2.2.length rd2])) rfl (by kernel_rfl) (by kernel_rfl) (by kernel_rfl) (fun _ _ _ h => nomatch h.1) (Or.inl ⟨by rfl, fun W3 hS => by go_simp⟩) hS0 ?_
      try simp only [Act.put, List.setIfInBounds_toArray, List.set_cons_zero, List.set_cons_succ]
      refine wpAnyH_take (i := 9) (oi := ⟨_, _, _, _, _, _⟩) (v := (.int .i64 0)) rfl (by kernel_rfl) (by kernel_rfl) (by kernel_rfl) (fun _ _ _ h => nomatch h.1) (Or.inl ⟨by rfl, fun W3 hS => by go_simp⟩) hS0 ?_
      try simp only [Act.put, List.setIfInBounds_toArray, List.set_cons_zero, List.set_cons_succ]
      clear hS0
      have f0_0 := M.fr 0 rfl 0; have f0_1 := M.fr 0 rfl 1; have f0_2 := M.fr 0 rfl 2
      have z0_0 := M.cell 0 rfl 0 rfl; have z0_1 := M.cell 0 rfl 1 rfl; have z0_2 := M.cell 0 rfl 2 rfl
      refine wpAnyH_all (rs := [11]) (by kernel_rfl) (by simp) ?_
      intro i hi
      obtain rfl : i = 11 := by simpa using hi
      refine wpOp_intro rfl (fun Ks5 hK => ?_)
      clear hi
      go_simp
      have M' := (((M.put 0 rfl rfl 0 (.bool (qr Y).1)).put 0 rfl rfl 1 (.slice ad2 (qr Y).2.1.length kd2)).put 0 rfl rfl 2 (.slice od2 (qr Y).2.2.length rd2))
      clear M f0_0 z0_0 f0_1 z0_1 f0_2 z0_2
      have M : Mem w [(bd2, 31, [.bool (qr Y).1, .slice ad2 (qr Y).2.1.length kd2, .slice od2 (qr Y).2.2.length rd2]), (w5.heap.size, 31, [.bool (qr D).1, .slice ad1 (qr D).2.1.length kd1, .slice od1 (qr D).2.2.length rd1])] [(.slice od2 (qr Y).2.2.length rd2, (qr Y).2.2), (.slice ad2 (qr Y).2.1.length kd2, (qr Y).2.1), (.slice od1 (qr D).2.2.length rd1, (qr D).2.2), (.slice ad1 (qr D).2.1.length kd1, (qr D).2.1)] _ := M'
      clear M'
      refine hK _ _ ⟨M.box 1 rfl, ?_⟩
      clear hK Ks5
      have hS0 : (fun W : World => BoxN W (w5.heap.size) 31 #[.bool (qr D).1, .slice ad1 (qr D).2.1.length kd1, .slice od1 (qr D).2.2.length rd1]) _ := M.box 1 rfl
      refine wpAnyH_take (i := 12) (oi := ⟨_, _, _, _, _, _⟩) (v := (.int .i64 0)) rfl (by kernel_rfl) (by kernel_rfl) (by kernel_rfl) (fun _ _ _ h => nomatch h.1) (Or.inl ⟨by rfl, fun W3 hS => by go_simp⟩) hS0 ?_
      try simp only [Act.put, List.setIfInBounds_toArray, List.set_cons_zero, List.set_cons_succ]
      clear hS0
      refine wpAnyH_done (by kernel_rfl) ?_ _
      exact ⟨rfl, bd2, ad2, kd2, od2, rd2, rfl, M⟩
  intro bd2 ad2 kd2 od2 rd2 V M
  go_wp2_with fail
  apply region_cut_nss (Fact := (fun bd3 ad3 kd3 od3 rd3 W => Mem w [(bd3, 31, [.bool (qr Z).1, .slice ad3 (qr Z).2.1.length kd3, .slice od3 (qr Z).2.2.length rd3]), (bd2, 31, [.bool (qr Y).1, .slice ad2 (qr Y).2.1.length kd2, .slice od2 (qr Y).2.2.length rd2]), (w5.heap.size, 31, [.bool (qr D).1, .slice ad1 (qr D).2.1.length kd1, .slice od1 (qr D).2.2.length rd1])] [(.slice od3 (qr Z).2.2.length rd3, (qr Z).2.2), (.slice ad3 (qr Z).2.1.length kd3, (qr Z).2.1), (.slice od2 (qr Y).2.2.length rd2, (qr Y).2.2), (.slice ad2 (qr Y).2.1.length kd2, (qr Y).2.1), (.slice od1 (qr D).2.2.length rd1, (qr D).2.2), (.slice ad1 (qr D).2.1.length kd1, (qr D).2.1)] W))
  case first =>
    refine region_mem (S := (fun W : World => BoxN W (w5.heap.size) 31 #[.bool (qr D).1, .slice ad1 (qr D).2.1.length kd1, .slice od1 (qr D).2.2.length rd1])) M (by kernel_rfl) ?_
    intro V0 M
    have hS0 : (fun W : World => BoxN W (w5.heap.size) 31 #[.bool (qr D).1, .slice ad1 (qr D).2.1.length kd1, .slice od1 (qr D).2.2.length rd1]) V0 := M.box 1 rfl
    refine wpAnyH_take (i := 0) (oi := ⟨_, _, _, _, _, _⟩) (v := (.slice (some ⟨b1, o1, none⟩) n c1)) rfl (by kernel_rfl) (by kernel_rfl) (by kernel_rfl) (fun _ _ _ h => nomatch h.1) (Or.inl ⟨by rfl, fun W3 hS => by go_simp⟩) hS0 ?_
    try simp only [Act.put, List.setIfInBounds_toArray, List.set_cons_zero, List.set_cons_succ]
    refine wpAnyH_take (i := 1) (oi := ⟨_, _, _, _, _, _⟩) (v := (.int .i64 (k : Int))) rfl (by kernel_rfl) (by kernel_rfl) (by kernel_rfl) (fun _ _ _ h => nomatch h.1) (Or.inl ⟨by rfl, fun W3 hS => by go_simp⟩) hS0 ?_
    try simp only [Act.put, List.setIfInBounds_toArray, List.set_cons_zero, List.set_cons_succ]
    refine wpAnyH_take (i := 2) (oi := ⟨_, _, _, _, _, _⟩) (v := (.slice (some ⟨b1, o1 + P1, none⟩) (n - k) (c1 - k))) rfl (by kernel_rfl) (by kernel_rfl) (by kernel_rfl) (fun _ _ _ h => nomatch h.1) (Or.inl ⟨by rfl, fun W3 hS => by go_simp; by_cases e9 : c1 = k <;> simp [HP1.out, e9]⟩) hS0 ?_
    try simp only [Act.put, List.setIfInBounds_toArray, List.set_cons_zero, List.set_cons_succ]
    refine wpAnyH_take (i := 3) (oi := ⟨_, _, _, _, _, _⟩) (v := (.slice (some ⟨b2, o2, none⟩) n c2)) rfl (by kernel_rfl) (by kernel_rfl) (by kernel_rfl) (fun _ _ _ h => nomatch h.1) (Or.inl ⟨by rfl, fun W3 hS => by go_simp⟩) hS0 ?_
    try simp only [Act.put, List.setIfInBounds_toArray, List.set_cons_zero, List.set_cons_succ]
    refine wpAnyH_take (i := 4) (oi := ⟨_, _, _, _, _, _⟩) (v := (.int .i64 (k : Int))) rfl (by kernel_rfl) (by kernel_rfl) (by kernel_rfl) (fun _ _ _ h => nomatch h.1) (Or.inl ⟨by rfl, fun W3 hS => by go_simp⟩) hS0 ?_
    try simp only [Act.put, List.setIfInBounds_toArray, List.set_cons_zero, List.set_cons_succ]
    refine wpAnyH_take (i := 5) (oi := ⟨_, _, _, _, _, _⟩) (v := (.slice (some ⟨b2, o2 + P2, none⟩) (n - k) (c2 - k))) rfl (by kernel_rfl) (by kernel_rfl) (by kernel_rfl) (fun _ _ _ h => nomatch h.1) (Or.inl ⟨by rfl, fun W3 hS => by go_simp; by_cases e9 : c2 = k <;> simp [HP2.out, e9]⟩) hS0 ?_
    try simp only [Act.put, List.setIfInBounds_toArray, List.set_cons_zero, List.set_cons_succ]
    clear hS0
    refine wpAnyH_all (rs := [6, 10]) (by kernel_rfl) (by simp) ?_
    intro i hi
    have hi2 : i = 6 ∨ i = 10 := by simpa using hi
    clear hi
    rcases hi2 with rfl | rfl
    · refine wpOp_intro rfl (fun K1 hK => ?_)
      go_simp
      refine (k_dot (n := n - k) Z M4.out q3 (vdrop hn0 (V1.out.below M.below).1 k hkn P1 HP1.out) (vdrop hn0 (V2.out.below M.below).1 k hkn P2 HP2.out)).mono ?_
      rintro e V1_6 ⟨ad3, kd3, od3, rd3, rfl, g, g', rr⟩
      have M' := ((M.up rr).add g).add g'
      clear M rr g g'
      have M := M'; clear M'
      refine hK _ _ ⟨M.box 1 rfl, ?_⟩
      clear hK K1
      have hS0 : (fun W : World => BoxN W (w5.heap.size) 31 #[.bool (qr D).1, .slice ad1 (qr D).2.1.length kd1, .slice od1 (qr D).2.2.length rd1]) _ := M.box 1 rfl
      refine wpAnyH_take (i := 7) (oi := ⟨_, _, _, _, _, _⟩) (v := (.tuple #[.agg #[.bool (qr Z).1, .slice ad3 (qr Z).2.1.length kd3, .slice od3 (qr Z).2.2.length rd3], .int .i64 0])) rfl (by kernel_rfl) (by kernel_rfl) (by kernel_rfl) (fun _ _ _ h => nomatch h.1) (Or.inl ⟨by rfl, fun W3 hS => by go_simp⟩) hS0 ?_
      try simp only [Act.put, List.setIfInBounds_toArray, List.set_cons_zero, List.set_cons_succ]
      refine wpAnyH_take (i := 8) (oi := ⟨_, _, _, _, _, _⟩) (v := (.agg #[.bool (qr Z).1, .slice ad3 (qr Z).2.1.length kd3, .slice od3 (qr Z).2.2.length rd3])) rfl (by kernel_rfl) (by kernel_rfl) (by kernel_rfl) (fun _ _ _ h => nomatch h.1) (Or.inl ⟨by rfl, fun W3 hS => by go_simp⟩) hS0 ?_
      try simp only [Act.put, List.setIfInBounds_toArray, List.set_cons_zero, List.set_cons_succ]
      refine wpAnyH_take (i := 9) (oi := ⟨_, _, _, _, _, _⟩) (v := (.int .i64 0)) rfl (by kernel_rfl) (by kernel_rfl) (by kernel_rfl) (fun _ _ _ h => nomatch h.1) (Or.inl ⟨by rfl, fun W3 hS => by go_simp⟩) hS0 ?_
      try simp only [Act.put, List.setIfInBounds_toArray, List.set_cons_zero, List.set_cons_succ]
      clear hS0
      refine wpAnyH_all (rs := [10]) (by kernel_rfl) (by simp) ?_
      intro i hi
      obtain rfl : i = 10 := by simpa using hi
      refine wpOp_intro rfl (fun K2 hK => ?_)
      clear hi
      go_simp
      obtain ⟨bd3, V2_10, hV, hb, M'⟩ := M.fresh 31 [.bool false, .slice none 0 0, .slice none 0 0]
      rw [← hV, ← hb]
      clear M hV hb; have M := M'; clear M'
      refine hK _ _ ⟨M.box 2 rfl, ?_⟩
      clear hK K2
      have f0_0 := M.fr 0 rfl 0; have f0_1 := M.fr 0 rfl 1; have f0_2 := M.fr 0 rfl 2
      have z0_0 := M.cell 0 rfl 0 rfl; have z0_1 := M.cell 0 rfl 1 rfl; have z0_2 := M.cell 0 rfl 2 rfl
      refine wpAnyH_all (rs := [11]) (by kernel_rfl) (by simp) ?_
      intro i hi
      obtain rfl : i = 11 := by simpa using hi
      refine wpOp_intro rfl (fun Ks3 hK => ?_)
      clear hi
      go_simp
      have M' := (((M.put 0 rfl rfl 0 (.bool (qr Z).1)).put 0 rfl rfl 1 (.slice ad3 (qr Z).2.1.length kd3)).put 0 rfl rfl 2 (.slice od3 (qr Z).2.2.length rd3))
      clear M f0_0 z0_0 f0_1 z0_1 f0_2 z0_2
      have M : Mem w [(bd3, 31, [.bool (qr Z).1, .slice ad3 (qr Z).2.1.length kd3, .slice od3 (qr Z).2.2.length rd3]), (bd2, 31, [.bool (qr Y).1, .slice ad2 (qr Y).2.1.length kd2, .slice od2 (qr Y).2.2.length rd2]), (w5.heap.size, 31, [.bool (qr D).1, .slice ad1 (qr D).2.1.length kd1, .slice od1 (qr D).2.2.length rd1])] [(.slice od3 (qr Z).2.2.length rd3, (qr Z).2.2), (.slice ad3 (qr Z).2.1.length kd3, (qr Z).2.1), (.slice od2 (qr Y).2.2.length rd2, (qr Y).2.2), (.slice ad2 (qr Y).2.1.length kd2, (qr Y).2.1), (.slice od1 (qr D).2.2.length rd1, (qr D).2.2), (.slice ad1 (qr D).2.1.length kd1, (qr D).2.1)] _ := M'
      clear M'
      refine hK _ _ ⟨M.box 2 rfl, ?_⟩
      clear hK Ks3
      have hS0 : (fun W : World => BoxN W (w5.heap.size) 31 #[.bool (qr D).1, .slice ad1 (qr D).2.1.length kd1, .slice od1 (qr D).2.2.length rd1]) _ := M.box 2 rfl
      refine wpAnyH_take (i := 12) (oi := ⟨_, _, _, _, _, _⟩) (v := (.int .i64 0)) rfl (by kernel_rfl) (by kernel_rfl) (by kernel_rfl) (fun _ _ _ h => nomatch h.1) (Or.inl ⟨by rfl, fun W3 hS => by go_simp⟩) hS0 ?_
      try simp only [Act.put, List.setIfInBounds_toArray, List.set_cons_zero, List.set_cons_succ]
      clear hS0
      refine wpAnyH_done (by kernel_rfl) ?_ _
      exact ⟨rfl, bd3, ad3, kd3, od3, rd3, rfl, M⟩
    · refine wpOp_intro rfl (fun K1 hK => ?_)
      go_simp
      obtain ⟨bd3, V1_10, hV, hb, M'⟩ := M.fresh 31 [.bool false, .slice none 0 0, .slice none 0 0]
      rw [← hV, ← hb]
      clear M hV hb; have M := M'; clear M'
      refine hK _ _ ⟨M.box 2 rfl, ?_⟩
      clear hK K1
      refine wpAnyH_all (rs := [6]) (by kernel_rfl) (by simp) ?_
      intro i hi
      obtain rfl : i = 6 := by simpa using hi
      refine wpOp_intro rfl (fun K4 hK => ?_)
      clear hi
      go_simp
      refine (k_dot (n := n - k) Z M4.out q3 (vdrop hn0 (V1.out.below M.below).1 k hkn P1 HP1.out) (vdrop hn0 (V2.out.below M.below).1 k hkn P2 HP2.out)).mono ?_
      rintro e V4_6 ⟨ad3, kd3, od3, rd3, rfl, g, g', rr⟩
      have M' := ((M.up rr).add g).add g'
      clear M rr g g'
      have M := M'; clear M'
      refine hK _ _ ⟨M.box 2 rfl, ?_⟩
      clear hK K4
      have hS0 : (fun W : World => BoxN W (w5.heap.size) 31 #[.bool (qr D).1, .slice ad1 (qr D).2.1.length kd1, .slice od1 (qr D).2.2.length rd1]) _ := M.box 2 rfl
      refine wpAnyH_take (i := 7) (oi := ⟨_, _, _, _, _, _⟩) (v := (.tuple #[.agg #[.bool (qr Z).1, .slice ad3 (qr Z).2.1.length kd3, .slice od3 (qr Z).2.2.length rd3], .int .i64 0])) rfl (by kernel_rfl) (by kernel_rfl) (by kernel_rfl) (fun _ _ _ h => nomatch h.1) (Or.inl ⟨by rfl, fun W3 hS => by go_simp⟩) hS0 ?_
      try simp only [Act.put, List.setIfInBounds_toArray, List.set_cons_zero, List.set_cons_succ]
      refine wpAnyH_take (i := 8) (oi := ⟨_, _, _, _, _, _⟩) (v := (.agg #[.bool (qr Z).1, .slice ad3 (qr Z).2.1.length kd3, .slice od3 (qr Z).2.2.length rd3])) rfl (by kernel_rfl) (by kernel_rfl) (by kernel_rfl) (fun _ _ _ h => nomatch h.1) (Or.inl ⟨by rfl, fun W3 hS => by go_simp⟩) hS0 ?_
      try simp only [Act.put, List.setIfInBounds_toArray, List.set_cons_zero, List.set_cons_succ]
      refine wpAnyH_take (i := 9) (oi := ⟨_, _, _, _, _, _⟩) (v := (.int .i64 0)) rfl (by kernel_rfl) (by kernel_rfl) (by kernel_rfl) (fun _ _ _ h => nomatch h.1) (Or.inl ⟨by rfl, fun W3 hS => by go_simp⟩) hS0 ?_
      try simp only [Act.put, List.setIfInBounds_toArray, List.set_cons_zero, List.set_cons_succ]
      clear hS0
      have f0_0 := M.fr 0 rfl 0; have f0_1 := M.fr 0 rfl 1; have f0_2 := M.fr 0 rfl 2
      have z0_0 := M.cell 0 rfl 0 rfl; have z0_1 := M.cell 0 rfl 1 rfl; have z0_2 := M.cell 0 rfl 2 rfl
      refine wpAnyH_all (rs := [11]) (by kernel_rfl) (by simp) ?_
      intro i hi
      obtain rfl : i = 11 := by simpa using hi
      refine wpOp_intro rfl (fun Ks5 hK => ?_)
      clear hi
      go_simp
      have M' := (((M.put 0 rfl rfl 0 (.bool (qr Z).1)).put 0 rfl rfl 1 (.slice ad3 (qr Z).2.1.length kd3)).put 0 rfl rfl 2 (.slice od3 (qr Z).2.2.length rd3))
      clear M f0_0 z0_0 f0_1 z0_1 f0_2 z0_2
      have M : Mem w [(bd3, 31, [.bool (qr Z).1, .slice ad3 (qr Z).2.1.length kd3, .slice od3 (qr Z).2.2.length rd3]), (bd2, 31, [.bool (qr Y).1, .slice ad2 (qr Y).2.1.length kd2, .slice od2 (qr Y).2.2.length rd2]), (w5.heap.size, 31, [.bool (qr D).1, .slice ad1 (qr D).2.1.length kd1, .slice od1 (qr D).2.2.length rd1])] [(.slice od3 (qr Z).2.2.length rd3, (qr Z).2.2), (.slice ad3 (qr Z).2.1.length kd3, (qr Z).2.1), (.slice od2 (qr Y).2.2.length rd2, (qr Y).2.2), (.slice ad2 (qr Y).2.1.length kd2, (qr Y).2.1), (.slice od1 (qr D).2.2.length rd1, (qr D).2.2), (.slice ad1 (qr D).2.1.length kd1, (qr D).2.1)] _ := M'
      clear M'
      refine hK _ _ ⟨M.box 2 rfl, ?_⟩
      clear hK Ks5
      have hS0 : (fun W : World => BoxN W (w5.heap.size) 31 #[.bool (qr D).1, .slice ad1 (qr D).2.1.length kd1, .slice od1 (qr D).2.2.length rd1]) _ := M.box 2 rfl
      refine wpAnyH_take (i := 12) (oi := ⟨_, _, _, _, _, _⟩) (v := (.int .i64 0)) rfl (by kernel_rfl) (by kernel_rfl) (by kernel_rfl) (fun _ _ _ h => nomatch h.1) (Or.inl ⟨by rfl, fun W3 hS => by go_simp⟩) hS0 ?_
      try simp only [Act.put, List.setIfInBounds_toArray, List.set_cons_zero, List.set_cons_succ]
      clear hS0
      refine wpAnyH_done (by kernel_rfl) ?_ _
      exact ⟨rfl, bd3, ad3, kd3, od3, rd3, rfl, M⟩
  intro bd3 ad3 kd3 od3 rd3 V M
  go_wp2_with fail
  replace M := M.drew; have mk0 := True.intro
  go_region_held3 (fun V => V.cell? ⟨w5.heap.size, 0, none⟩ = some (.bool (qr D).1) ∧ V.cell? ⟨w5.heap.size, 1, none⟩ = some (.slice ad1 (qr D).2.1.length kd1) ∧ V.cell? ⟨w5.heap.size, 2, none⟩ = some (.slice od1 (qr D).2.2.length rd1) ∧ V.cell? ⟨bd2, 0, none⟩ = some (.bool (qr Y).1) ∧ V.cell? ⟨bd2, 1, none⟩ = some (.slice ad2 (qr Y).2.1.length kd2) ∧ V.cell? ⟨bd2, 2, none⟩ = some (.slice od2 (qr Y).2.2.length rd2) ∧ V.cell? ⟨bd3, 0, none⟩ = some (.bool (qr Z).1) ∧ V.cell? ⟨bd3, 1, none⟩ = some (.slice ad3 (qr Z).2.1.length kd3) ∧ V.cell? ⟨bd3, 2, none⟩ = some (.slice od3 (qr Z).2.2.length rd3)) (exact ⟨M.cell 2 rfl 0 rfl, M.cell 2 rfl 1 rfl, M.cell 2 rfl 2 rfl, M.cell 1 rfl 0 rfl, M.cell 1 rfl 1 rfl, M.cell 1 rfl 2 rfl, M.cell 0 rfl 0 rfl, M.cell 0 rfl 1 rfl, M.cell 0 rfl 2 rfl⟩) (first
    | (have nope := mk0; clear nope; (fail_if_success have nope := mk1); have mk1 := True.intro; go_at_call 20; refine (k_radd Y Z D M8.out wY wZ (M.get 3 rfl) (M.get 2 rfl) (M.get 1 rfl) (M.get 0 rfl)).mono ?_; rintro e u6 ⟨e4, k4, o4, r4, rfl, g, g', rr⟩; have M' := ((M.up rr).add g).add g'; clear M rr g g'; have M := M'; clear M')
    | (have nope := mk1; clear nope; (fail_if_success have nope := mk2); have mk2 := True.intro; go_at_call 14; refine (k_sr D wD (M.get 7 rfl) (M.get 6 rfl) (M.get 1 rfl) (M.get 0 rfl)).mono ?_; rintro e u7 ⟨rfl, rr⟩; have M' := M.up rr; clear M rr; have M := M'; clear M'))
  clear mk0 mk1 mk2
  have HB := Lib.hid M.below; clear M
  go_wp2_with fail
  go_loopw [14] (fun i wr => ∃ j : Nat, j ≤ n ∧ i = .int .i64 j ∧ Below w.heap.size w wr) (fun i _ => n - (intOf i).toNat)
  case atStart => exact ⟨0, Nat.zero_le _, rfl, HB.out⟩
  case round =>
    clear HB
    obtain ⟨j, hj, rfl, hbel⟩ := hrel
    have HB := Lib.hid hbel
    clear hbel
    by_cases hlt : j < n
    · obtain ⟨X, p1, d1, p2, d2, hX, cx0, cx1, cx2, gx, gx', bl1, mx⟩ := vat (V1.out.below HB.out).1 hlt
      obtain ⟨Y, p3, d3, p4, d4, hY, cy0, cy1, cy2, gy, gy', bl2, my⟩ := vat (V2.out.below HB.out).1 hlt
      have R1 := vone hn0 (V1.out.below HB.out).1 hlt hX
      have R2 := vone hn0 (V2.out.below HB.out).1 hlt hY
      have wX : wt X ≤ 300 := Nat.le_trans (wt_mem mx) HW1.out
      have wY : wt Y ≤ 300 := Nat.le_trans (wt_mem my) HW2.out
      obtain ⟨P, hP⟩ : ∃ P, P = X * Y := ⟨_, rfl⟩
      have wP0 := wt_mul X Y
      rw [← hP] at wP0
      have wP : wt P ≤ 9999 := by omega
      have wX9 : wt X ≤ 9999 := by omega
      have wY9 : wt Y ≤ 9999 := by omega
      have M5 : Hid (dot [X] [Y] = P) := Lib.hid (by rw [dot_cons, dot_nil, Rat.add_zero, hP])
      have M6 : Hid (X * Y = P) := Lib.hid hP.symm
      have q5 : wts [X] + wts [Y] ≤ 8900 := by have e1 : wts [X] = wt X := by simp [wts]
                                               have e2 : wts [Y] = wt Y := by simp [wts]
                                               omega
      have GX := Lib.hid gx; have GX' := Lib.hid gx'; have GY := Lib.hid gy; have GY' := Lib.hid gy'
      have VX := Lib.hid R1; have VY := Lib.hid R2
      clear hX hY mx my wX wY hP wP0 gx gx' gy gy' R1 R2
      have j2 : (j : Int) < (n : Int) := by omega
      have j3 : IntKind.i64.wrap ((j : Int) + 1) = (j : Int) + 1 := by rw [IntKind.wrap_i64]; omega
      have j4 : (0 : Int) ≤ (j : Int) := by omega
      have j5 : (j : Int) + 1 ≤ (c1 : Int) := by omega
      have j6 : (j : Int) + 1 ≤ (c2 : Int) := by omega
      have j7 : (j : Int) ≤ (j : Int) + 1 := by omega
      have j8 : (0 : Int) ≤ (j : Int) + 1 := by omega
      have j9 : c1 ≠ j := by omega
      have j10 : c2 ≠ j := by omega
      go_wp2_with fail
      have M := Mem.start wr
      have M' : Mem wr [] [] _ := M
      clear M; have M := M'; clear M'
      apply region_cut_nss (Fact := (fun bd5 ad5 kd5 od5 rd5 W => Mem wr [(bd5, 31, [.bool (qr P).1, .slice ad5 (qr P).2.1.length kd5, .slice od5 (qr P).2.2.length rd5])] [(.slice od5 (qr P).2.2.length rd5, (qr P).2.2), (.slice ad5 (qr P).2.1.length kd5, (qr P).2.1)] W))
      case first =>
        refine region_mem (S := (fun W : World => W.cell? ⟨b1, o1 + j * 3, none⟩ = some (.bool (qr X).1))) M (by kernel_rfl) ?_
        intro V0 M
        have hS0 : (fun W : World => W.cell? ⟨b1, o1 + j * 3, none⟩ = some (.bool (qr X).1)) V0 := (M.below.cell (p := ⟨b1, o1 + j * 3, none⟩) bl1).trans cx0
        refine wpAnyH_take (i := 0) (oi := ⟨_, _, _, _, _, _⟩) (v := (.slice (some ⟨b1, o1, none⟩) n c1)) rfl (by kernel_rfl) (by kernel_rfl) (by kernel_rfl) (fun _ _ _ h => nomatch h.1) (Or.inl ⟨by rfl, fun W3 hS => by go_simp⟩) hS0 ?_
        try simp only [Act.put, List.setIfInBounds_toArray, List.set_cons_zero, List.set_cons_succ]
        refine wpAnyH_take (i := 1) (oi := ⟨_, _, _, _, _, _⟩) (v := (.int .i64 (j : Int))) rfl (by kernel_rfl) (by kernel_rfl) (by kernel_rfl) (fun _ _ _ h => nomatch h.1) (Or.inl ⟨by rfl, fun W3 hS => by go_simp⟩) hS0 ?_
        try simp only [Act.put, List.setIfInBounds_toArray, List.set_cons_zero, List.set_cons_succ]
        refine wpAnyH_take (i := 2) (oi := ⟨_, _, _, _, _, _⟩) (v := (.int .i64 (j : Int))) rfl (by kernel_rfl) (by kernel_rfl) (by kernel_rfl) (fun _ _ _ h => nomatch h.1) (Or.inl ⟨by rfl, fun W3 hS => by go_simp⟩) hS0 ?_
        try simp only [Act.put, List.setIfInBounds_toArray, List.set_cons_zero, List.set_cons_succ]
        refine wpAnyH_take (i := 3) (oi := ⟨_, _, _, _, _, _⟩) (v := (.int .i64 ((j : Int) + 1))) rfl (by kernel_rfl) (by kernel_rfl) (by kernel_rfl) (fun _ _ _ h => nomatch h.1) (Or.inl ⟨by rfl, fun W3 hS => by go_simp⟩) hS0 ?_
        try simp only [Act.put, List.setIfInBounds_toArray, List.set_cons_zero, List.set_cons_succ]
        refine wpAnyH_take (i := 4) (oi := ⟨_, _, _, _, _, _⟩) (v := (.slice (some ⟨b1, o1 + j * 3, none⟩) 1 (c1 - j))) rfl (by kernel_rfl) (by kernel_rfl) (by kernel_rfl) (fun _ _ _ h => nomatch h.1) (Or.inl ⟨by rfl, fun W3 hS => by go_simp⟩) hS0 ?_
        try simp only [Act.put, List.setIfInBounds_toArray, List.set_cons_zero, List.set_cons_succ]
        refine wpAnyH_take (i := 5) (oi := ⟨_, _, _, _, _, _⟩) (v := (.slice (some ⟨b2, o2, none⟩) n c2)) rfl (by kernel_rfl) (by kernel_rfl) (by kernel_rfl) (fun _ _ _ h => nomatch h.1) (Or.inl ⟨by rfl, fun W3 hS => by go_simp⟩) hS0 ?_
        try simp only [Act.put, List.setIfInBounds_toArray, List.set_cons_zero, List.set_cons_succ]
        refine wpAnyH_take (i := 6) (oi := ⟨_, _, _, _, _, _⟩) (v := (.int .i64 (j : Int))) rfl (by kernel_rfl) (by kernel_rfl) (by kernel_rfl) (fun _ _ _ h => nomatch h.1) (Or.inl ⟨by rfl, fun W3 hS => by go_simp⟩) hS0 ?_
        try simp only [Act.put, List.setIfInBounds_toArray, List.set_cons_zero, List.set_cons_succ]
        refine wpAnyH_take (i := 7) (oi := ⟨_, _, _, _, _, _⟩) (v := (.int .i64 (j : Int))) rfl (by kernel_rfl) (by kernel_rfl) (by kernel_rfl) (fun _ _ _ h => nomatch h.1) (Or.inl ⟨by rfl, fun W3 hS => by go_simp⟩) hS0 ?_
        try simp only [Act.put, List.setIfInBounds_toArray, List.set_cons_zero, List.set_cons_succ]
        refine wpAnyH_take (i := 8) (oi := ⟨_, _, _, _, _, _⟩) (v := (.int .i64 ((j : Int) + 1))) rfl (by kernel_rfl) (by kernel_rfl) (by kernel_rfl) (fun _ _ _ h => nomatch h.1) (Or.inl ⟨by rfl, fun W3 hS => by go_simp⟩) hS0 ?_
        try simp only [Act.put, List.setIfInBounds_toArray, List.set_cons_zero, List.set_cons_succ]
        refine wpAnyH_take (i := 9) (oi := ⟨_, _, _, _, _, _⟩) (v := (.slice (some ⟨b2, o2 + j * 3, none⟩) 1 (c2 - j))) rfl (by kernel_rfl) (by kernel_rfl) (by kernel_rfl) (fun _ _ _ h => nomatch h.1) (Or.inl ⟨by rfl, fun W3 hS => by go_simp⟩) hS0 ?_
        try simp only [Act.put, List.setIfInBounds_toArray, List.set_cons_zero, List.set_cons_succ]
        clear hS0
        refine wpAnyH_all (rs := [10, 14]) (by kernel_rfl) (by simp) ?_
        intro i hi
        have hi2 : i = 10 ∨ i = 14 := by simpa using hi
        clear hi
        rcases hi2 with rfl | rfl
        · refine wpOp_intro rfl (fun K1 hK => ?_)
          go_simp
          refine (k_dot (n := 1) (xs := [X]) (ys := [Y]) P M5.out q5 (VX.out.below M.below) (VY.out.below M.below)).mono ?_
          rintro e V1_10 ⟨ad5, kd5, od5, rd5, rfl, g, g', rr⟩
          have M' := ((M.up rr).add g).add g'
          clear M rr g g'
          have M := M'; clear M'
          refine hK _ _ ⟨(M.below.cell (p := ⟨b1, o1 + j * 3, none⟩) bl1).trans cx0, ?_⟩
          clear hK K1
          have hS0 : (fun W : World => W.cell? ⟨b1, o1 + j * 3, none⟩ = some (.bool (qr X).1)) _ := (M.below.cell (p := ⟨b1, o1 + j * 3, none⟩) bl1).trans cx0
          refine wpAnyH_take (i := 11) (oi := ⟨_, _, _, _, _, _⟩) (v := (.tuple #[.agg #[.bool (qr P).1, .slice ad5 (qr P).2.1.length kd5, .slice od5 (qr P).2.2.length rd5], .int .i64 0])) rfl (by kernel_rfl) (by kernel_rfl) (by kernel_rfl) (fun _ _ _ h => nomatch h.1) (Or.inl ⟨by rfl, fun W3 hS => by go_simp⟩) hS0 ?_
          try simp only [Act.put, List.setIfInBounds_toArray, List.set_cons_zero, List.set_cons_succ]
          refine wpAnyH_take (i := 12) (oi := ⟨_, _, _, _, _, _⟩) (v := (.agg #[.bool (qr P).1, .slice ad5 (qr P).2.1.length kd5, .slice od5 (qr P).2.2.length rd5])) rfl (by kernel_rfl) (by kernel_rfl) (by kernel_rfl) (fun _ _ _ h => nomatch h.1) (Or.inl ⟨by rfl, fun W3 hS => by go_simp⟩) hS0 ?_
          try simp only [Act.put, List.setIfInBounds_toArray, List.set_cons_zero, List.set_cons_succ]
          refine wpAnyH_take (i := 13) (oi := ⟨_, _, _, _, _, _⟩) (v := (.int .i64 0)) rfl (by kernel_rfl) (by kernel_rfl) (by kernel_rfl) (fun _ _ _ h => nomatch h.1) (Or.inl ⟨by rfl, fun W3 hS => by go_simp⟩) hS0 ?_
          try simp only [Act.put, List.setIfInBounds_toArray, List.set_cons_zero, List.set_cons_succ]
          clear hS0
          refine wpAnyH_all (rs := [14]) (by kernel_rfl) (by simp) ?_
          intro i hi
          obtain rfl : i = 14 := by simpa using hi
          refine wpOp_intro rfl (fun K2 hK => ?_)
          clear hi
          go_simp
          obtain ⟨bd5, V2_14, hV, hb, M'⟩ := M.fresh 31 [.bool false, .slice none 0 0, .slice none 0 0]
          rw [← hV, ← hb]
          clear M hV hb; have M := M'; clear M'
          refine hK _ _ ⟨(M.below.cell (p := ⟨b1, o1 + j * 3, none⟩) bl1).trans cx0, ?_⟩
          clear hK K2
          have f0_0 := M.fr 0 rfl 0; have f0_1 := M.fr 0 rfl 1; have f0_2 := M.fr 0 rfl 2
          have z0_0 := M.cell 0 rfl 0 rfl; have z0_1 := M.cell 0 rfl 1 rfl; have z0_2 := M.cell 0 rfl 2 rfl
          refine wpAnyH_all (rs := [15]) (by kernel_rfl) (by simp) ?_
          intro i hi
          obtain rfl : i = 15 := by simpa using hi
          refine wpOp_intro rfl (fun Ks3 hK => ?_)
          clear hi
          go_simp
          have M' := (((M.put 0 rfl rfl 0 (.bool (qr P).1)).put 0 rfl rfl 1 (.slice ad5 (qr P).2.1.length kd5)).put 0 rfl rfl 2 (.slice od5 (qr P).2.2.length rd5))
          clear M f0_0 z0_0 f0_1 z0_1 f0_2 z0_2
          have M : Mem wr [(bd5, 31, [.bool (qr P).1, .slice ad5 (qr P).2.1.length kd5, .slice od5 (qr P).2.2.length rd5])] [(.slice od5 (qr P).2.2.length rd5, (qr P).2.2), (.slice ad5 (qr P).2.1.length kd5, (qr P).2.1)] _ := M'
          clear M'
          refine hK _ _ ⟨(M.below.cell (p := ⟨b1, o1 + j * 3, none⟩) bl1).trans cx0, ?_⟩
          clear hK Ks3
          have hS0 : (fun W : World => W.cell? ⟨b1, o1 + j * 3, none⟩ = some (.bool (qr X).1)) _ := (M.below.cell (p := ⟨b1, o1 + j * 3, none⟩) bl1).trans cx0
          refine wpAnyH_take (i := 16) (oi := ⟨_, _, _, _, _, _⟩) (v := (.int .i64 0)) rfl (by kernel_rfl) (by kernel_rfl) (by kernel_rfl) (fun _ _ _ h => nomatch h.1) (Or.inl ⟨by rfl, fun W3 hS => by go_simp⟩) hS0 ?_
          try simp only [Act.put, List.setIfInBounds_toArray, List.set_cons_zero, List.set_cons_succ]
          clear hS0
          refine wpAnyH_done (by kernel_rfl) ?_ _
          exact ⟨rfl, bd5, ad5, kd5, od5, rd5, rfl, M⟩
        · refine wpOp_intro rfl (fun K1 hK => ?_)
          go_simp
          obtain ⟨bd5, V1_14, hV, hb, M'⟩ := M.fresh 31 [.bool false, .slice none 0 0, .slice none 0 0]
          rw [← hV, ← hb]
          clear M hV hb; have M := M'; clear M'
          refine hK _ _ ⟨(M.below.cell (p := ⟨b1, o1 + j * 3, none⟩) bl1).trans cx0, ?_⟩
          clear hK K1
          refine wpAnyH_all (rs := [10]) (by kernel_rfl) (by simp) ?_
          intro i hi
          obtain rfl : i = 10 := by simpa using hi
          refine wpOp_intro rfl (fun K4 hK => ?_)
          clear hi
          go_simp
          refine (k_dot (n := 1) (xs := [X]) (ys := [Y]) P M5.out q5 (VX.out.below M.below) (VY.out.below M.below)).mono ?_
          rintro e V4_10 ⟨ad5, kd5, od5, rd5, rfl, g, g', rr⟩
          have M' := ((M.up rr).add g).add g'
          clear M rr g g'
          have M := M'; clear M'
          refine hK _ _ ⟨(M.below.cell (p := ⟨b1, o1 + j * 3, none⟩) bl1).trans cx0, ?_⟩
          clear hK K4
          have hS0 : (fun W : World => W.cell? ⟨b1, o1 + j * 3, none⟩ = some (.bool (qr X).1)) _ := (M.below.cell (p := ⟨b1, o1 + j * 3, none⟩) bl1).trans cx0
          refine wpAnyH_take (i := 11) (oi := ⟨_, _, _, _, _, _⟩) (v := (.tuple #[.agg #[.bool (qr P).1, .slice ad5 (qr P).2.1.length kd5, .slice od5 (qr P).2.2.length rd5], .int .i64 0])) rfl (by kernel_rfl) (by kernel_rfl) (by kernel_rfl) (fun _ _ _ h => nomatch h.1) (Or.inl ⟨by rfl, fun W3 hS => by go_simp⟩) hS0 ?_
          try simp only [Act.put, List.setIfInBounds_toArray, List.set_cons_zero, List.set_cons_succ]
          refine wpAnyH_take (i := 12) (oi := ⟨_, _, _, _, _, _⟩) (v := (.agg #[.bool (qr P).1, .slice ad5 (qr P).2.1.length kd5, .slice od5 (qr P).2.2.length rd5])) rfl (by kernel_rfl) (by kernel_rfl) (by kernel_rfl) (fun _ _ _ h => nomatch h.1) (Or.inl ⟨by rfl, fun W3 hS => by go_simp⟩) hS0 ?_
          try simp only [Act.put, List.setIfInBounds_toArray, List.set_cons_zero, List.set_cons_succ]
          refine wpAnyH_take (i := 13) (oi := ⟨_, _, _, _, _, _⟩) (v := (.int .i64 0)) rfl (by kernel_rfl) (by kernel_rfl) (by kernel_rfl) (fun _ _ _ h => nomatch h.1) (Or.inl ⟨by rfl, fun W3 hS => by go_simp⟩) hS0 ?_
          try simp only [Act.put, List.setIfInBounds_toArray, List.set_cons_zero, List.set_cons_succ]
          clear hS0
          have f0_0 := M.fr 0 rfl 0; have f0_1 := M.fr 0 rfl 1; have f0_2 := M.fr 0 rfl 2
          have z0_0 := M.cell 0 rfl 0 rfl; have z0_1 := M.cell 0 rfl 1 rfl; have z0_2 := M.cell 0 rfl 2 rfl
          refine wpAnyH_all (rs := [15]) (by kernel_rfl) (by simp) ?_
          intro i hi
          obtain rfl : i = 15 := by simpa using hi
          refine wpOp_intro rfl (fun Ks5 hK => ?_)
          clear hi
          go_simp
          have M' := (((M.put 0 rfl rfl 0 (.bool (qr P).1)).put 0 rfl rfl 1 (.slice ad5 (qr P).2.1.length kd5)).put 0 rfl rfl 2 (.slice od5 (qr P).2.2.length rd5))
          clear M f0_0 z0_0 f0_1 z0_1 f0_2 z0_2
          have M : Mem wr [(bd5, 31, [.bool (qr P).1, .slice ad5 (qr P).2.1.length kd5, .slice od5 (qr P).2.2.length rd5])] [(.slice od5 (qr P).2.2.length rd5, (qr P).2.2), (.slice ad5 (qr P).2.1.length kd5, (qr P).2.1)] _ := M'
          clear M'
          refine hK _ _ ⟨(M.below.cell (p := ⟨b1, o1 + j * 3, none⟩) bl1).trans cx0, ?_⟩
          clear hK Ks5
          have hS0 : (fun W : World => W.cell? ⟨b1, o1 + j * 3, none⟩ = some (.bool (qr X).1)) _ := (M.below.cell (p := ⟨b1, o1 + j * 3, none⟩) bl1).trans cx0
          refine wpAnyH_take (i := 16) (oi := ⟨_, _, _, _, _, _⟩) (v := (.int .i64 0)) rfl (by kernel_rfl) (by kernel_rfl) (by kernel_rfl) (fun _ _ _ h => nomatch h.1) (Or.inl ⟨by rfl, fun W3 hS => by go_simp⟩) hS0 ?_
          try simp only [Act.put, List.setIfInBounds_toArray, List.set_cons_zero, List.set_cons_succ]
          clear hS0
          refine wpAnyH_done (by kernel_rfl) ?_ _
          exact ⟨rfl, bd5, ad5, kd5, od5, rd5, rfl, M⟩
      intro bd5 ad5 kd5 od5 rd5 V M
      go_wp2_with fail
      replace M := M.drew; have mk0 := True.intro
      go_region_held3 (fun V => V.cell? ⟨bd5, 0, none⟩ = some (.bool (qr P).1) ∧ V.cell? ⟨bd5, 1, none⟩ = some (.slice ad5 (qr P).2.1.length kd5) ∧ V.cell? ⟨bd5, 2, none⟩ = some (.slice od5 (qr P).2.2.length rd5) ∧ V.cell? ⟨b1, o1 + j * 3, none⟩ = some (.bool (qr X).1) ∧ V.cell? ⟨b1, o1 + j * 3 + 1, none⟩ = some (.slice p1 (qr X).2.1.length d1) ∧ V.cell? ⟨b1, o1 + j * 3 + 2, none⟩ = some (.slice p2 (qr X).2.2.length d2) ∧ V.cell? ⟨b2, o2 + j * 3, none⟩ = some (.bool (qr Y).1) ∧ V.cell? ⟨b2, o2 + j * 3 + 1, none⟩ = some (.slice p3 (qr Y).2.1.length d3) ∧ V.cell? ⟨b2, o2 + j * 3 + 2, none⟩ = some (.slice p4 (qr Y).2.2.length d4)) (exact ⟨M.cell 0 rfl 0 rfl, M.cell 0 rfl 1 rfl, M.cell 0 rfl 2 rfl, (M.below.cell (p := ⟨b1, o1 + j * 3, none⟩) bl1).trans cx0, (M.below.cell (p := ⟨b1, o1 + j * 3 + 1, none⟩) bl1).trans cx1, (M.below.cell (p := ⟨b1, o1 + j * 3 + 2, none⟩) bl1).trans cx2, (M.below.cell (p := ⟨b2, o2 + j * 3, none⟩) bl2).trans cy0, (M.below.cell (p := ⟨b2, o2 + j * 3 + 1, none⟩) bl2).trans cy1, (M.below.cell (p := ⟨b2, o2 + j * 3 + 2, none⟩) bl2).trans cy2⟩) (first
        | (have nope := mk0; clear nope; (fail_if_success have nope := mk1); have mk1 := True.intro; go_at_call 21; refine (k_mul X Y P M6.out wX9 wY9 (GX.out.below M.below) (GX'.out.below M.below) (GY.out.below M.below) (GY'.out.below M.below)).mono ?_; rintro e u21 ⟨e6, k6, o6, r6, rfl, g, g', rr⟩; have M' := ((M.up rr).add g).add g'; clear M rr g g'; have M := M'; clear M')
        | (have nope := mk1; clear nope; (fail_if_success have nope := mk2); have mk2 := True.intro; go_at_call 14; refine (k_sr P wP (M.get 3 rfl) (M.get 2 rfl) (M.get 1 rfl) (M.get 0 rfl)).mono ?_; rintro e u22 ⟨rfl, rr⟩; have M' := M.up rr; clear M rr; have M := M'; clear M'))
      have HB1 := Lib.hid (then_below HB.out M.below); clear M
      go_wp2_with fail
      go_roundw
      case rel => exact ⟨j + 1, by omega, by simp, HB1.out⟩
      case measure => simp [intOf]; omega
    · have j2 : ¬ (j : Int) < (n : Int) := by omega
      go_wp2_with fail
      go_ret
      exact ⟨rfl, HB.out⟩
set_option maxRecDepth 100000 in
set_option maxHeartbeats 6000000 in
theorem parts_zero {w : World} {a1 a2 : Option Addr} {c1 c2 t : Nat} (h1 : GOK w (a1, 0, c1, ([] : List Rat).map qr)) (h2 : GOK w (a2, 0, c2, ([] : List Rat).map qr)) (ht : t ≤ 255) (hg : ([(a1, 0, c1, ([] : List Rat).map qr), (a2, 0, c2, ([] : List Rat).map qr)] : List GI).any gbig = false) :
    Calls Try.prog 6 #[.slice a1 0 c1, .slice a2 0 c2, .int .u8 (t : Int)] w fun e w' => e = .returned (.bool true) ∧ Below w.heap.size w w' := by
  have HG := Lib.hid hg; clear hg
  have HF : Hid (qrows (([] : List Rat).map qr)) := Lib.hid ⟨by simp, by simp⟩
  have HK0 : Hid ((([] : List Rat).map qr).all qok = true) := Lib.hid rfl
  have jm : Int.tmod (t : Int) 1 = 0 := Int.tmod_one _
  have jc : IntKind.i64.wrap (t : Int) = (t : Int) := by rw [IntKind.wrap_i64]; omega
  have q5 : wts ([] : List Rat) + wts ([] : List Rat) ≤ 8900 := by simp [wts]
  obtain ⟨D, hD⟩ : ∃ D, D = dot ([] : List Rat) [] := ⟨_, rfl⟩
  have hD0 : D = 0 := hD
  have wD : wt D ≤ 9999 := by rw [hD0, wt_zero]; omega
  have HD := Lib.hid hD.symm
  have HS : Hid (D + D = D) := Lib.hid (by rw [hD0, Rat.add_zero])
  clear hD hD0
  have V1 := Lib.hid h1; have V2 := Lib.hid h2; clear h1 h2
  have M := Mem.start w
  have M' : Mem w [] [] _ := M
  clear M; have M := M'; clear M'
  go_enter Try.func6, Try.ntmps6
  go_wp2_with fail
  refine (v_alive _).mono ?_
  rintro e w1 ⟨rfl, rr⟩
  have M' := M.up rr; clear M rr; have M := M'; clear M'
  go_wp2_with fail
  refine (v_great (W := w1) [(a1, 0, c1, ([] : List Rat).map qr), (a2, 0, c2, ([] : List Rat).map qr)] rfl rfl (by simp) (gokc (V1.out.below M.below) (gokc (V2.out.below M.below) (gok0 _))) false HG.out.symm).mono ?_
  rintro e w2 ⟨rfl, rr⟩
  have M' := M.up rr; clear M rr; have M := M'; clear M'
  go_wp2_with fail
  refine (v_check (n := 0) true HK0.out.symm (V1.out.below M.below).1 HF.out).mono ?_
  rintro e w3 ⟨rfl, rr⟩
  have M' := M.up rr; clear M rr; have M := M'; clear M'
  go_wp2_with fail
  refine (v_check (n := 0) true HK0.out.symm (V2.out.below M.below).1 HF.out).mono ?_
  rintro e w4 ⟨rfl, rr⟩
  have M' := M.up rr; clear M rr; have M := M'; clear M'
  go_wp2_with fail
  refine (k_dot (n := 0) (xs := []) (ys := []) D HD.out q5 (V1.out.below M.below).1 (V2.out.below M.below).1).mono ?_
  rintro e w5 ⟨ad1, kd1, od1, rd1, rfl, g, g', rr⟩
  have M' := ((M.up rr).add g).add g'; clear M rr g g'; have M := M'; clear M'
  replace M := M.new 31 [.bool (qr D).1, .slice ad1 (qr D).2.1.length kd1, .slice od1 (qr D).2.2.length rd1]
  have M' : Mem w [(w5.heap.size, 31, [.bool (qr D).1, .slice ad1 (qr D).2.1.length kd1, .slice od1 (qr D).2.2.length rd1])] [(.slice od1 (qr D).2.2.length rd1, (qr D).2.2), (.slice ad1 (qr D).2.1.length kd1, (qr D).2.1)] _ := M
  clear M; have M := M'; clear M'
  go_wp2_with fail
  apply region_cut_nss (Fact := (fun bd2 ad2 kd2 od2 rd2 W => Mem w [(bd2, 31, [.bool (qr D).1, .slice ad2 (qr D).2.1.length kd2, .slice od2 (qr D).2.2.length rd2]), (w5.heap.size, 31, [.bool (qr D).1, .slice ad1 (qr D).2.1.length kd1, .slice od1 (qr D).2.2.length rd1])] [(.slice od2 (qr D).2.2.length rd2, (qr D).2.2), (.slice ad2 (qr D).2.1.length kd2, (qr D).2.1), (.slice od1 (qr D).2.2.length rd1, (qr D).2.2), (.slice ad1 (qr D).2.1.length kd1, (qr D).2.1)] W))
  case first =>
    refine region_mem (S := (fun W : World => BoxN W (w5.heap.size) 31 #[.bool (qr D).1, .slice ad1 (qr D).2.1.length kd1, .slice od1 (qr D).2.2.length rd1])) M (by kernel_rfl) ?_
    intro V0 M
    have hS0 : (fun W : World => BoxN W (w5.heap.size) 31 #[.bool (qr D).1, .slice ad1 (qr D).2.1.length kd1, .slice od1 (qr D).2.2.length rd1]) V0 := M.box 0 rfl
    refine wpAnyH_take (i := 0) (oi := ⟨_, _, _, _, _, _⟩) (v := (.slice a1 0 c1)) rfl (by kernel_rfl) (by kernel_rfl) (by kernel_rfl) (fun _ _ _ h => nomatch h.1) (Or.inl ⟨by rfl, fun W3 hS => by go_simp⟩) hS0 ?_
    try simp only [Act.put, List.setIfInBounds_toArray, List.set_cons_zero, List.set_cons_succ]
    refine wpAnyH_take (i := 1) (oi := ⟨_, _, _, _, _, _⟩) (v := (.int .i64 0)) rfl (by kernel_rfl) (by kernel_rfl) (by kernel_rfl) (fun _ _ _ h => nomatch h.1) (Or.inl ⟨by rfl, fun W3 hS => by go_simp⟩) hS0 ?_
    try simp only [Act.put, List.setIfInBounds_toArray, List.set_cons_zero, List.set_cons_succ]
    refine wpAnyH_take (i := 2) (oi := ⟨_, _, _, _, _, _⟩) (v := (.slice a1 0 c1)) rfl (by kernel_rfl) (by kernel_rfl) (by kernel_rfl) (fun _ _ _ h => nomatch h.1) (Or.inl ⟨by rfl, fun W3 hS => by rcases a1 with _ | x9 <;> go_simp⟩) hS0 ?_
    try simp only [Act.put, List.setIfInBounds_toArray, List.set_cons_zero, List.set_cons_succ]
    refine wpAnyH_take (i := 3) (oi := ⟨_, _, _, _, _, _⟩) (v := (.slice a2 0 c2)) rfl (by kernel_rfl) (by kernel_rfl) (by kernel_rfl) (fun _ _ _ h => nomatch h.1) (Or.inl ⟨by rfl, fun W3 hS => by go_simp⟩) hS0 ?_
    try simp only [Act.put, List.setIfInBounds_toArray, List.set_cons_zero, List.set_cons_succ]
    refine wpAnyH_take (i := 4) (oi := ⟨_, _, _, _, _, _⟩) (v := (.int .i64 0)) rfl (by kernel_rfl) (by kernel_rfl) (by kernel_rfl) (fun _ _ _ h => nomatch h.1) (Or.inl ⟨by rfl, fun W3 hS => by go_simp⟩) hS0 ?_
    try simp only [Act.put, List.setIfInBounds_toArray, List.set_cons_zero, List.set_cons_succ]
    refine wpAnyH_take (i := 5) (oi := ⟨_, _, _, _, _, _⟩) (v := (.slice a2 0 c2)) rfl (by kernel_rfl) (by kernel_rfl) (by kernel_rfl) (fun _ _ _ h => nomatch h.1) (Or.inl ⟨by rfl, fun W3 hS => by rcases a2 with _ | x9 <;> go_simp⟩) hS0 ?_
    try simp only [Act.put, List.setIfInBounds_toArray, List.set_cons_zero, List.set_cons_succ]
    clear hS0
    refine wpAnyH_all (rs := [6, 10]) (by kernel_rfl) (by simp) ?_
    intro i hi
    have hi2 : i = 6 ∨ i = 10 := by simpa using hi
    clear hi
    rcases hi2 with rfl | rfl
    · refine wpOp_intro rfl (fun K1 hK => ?_)
      go_simp
      refine (k_dot (n := 0) (xs := []) (ys := []) D HD.out q5 (V1.out.below M.below).1 (V2.out.below M.below).1).mono ?_
      rintro e V1_6 ⟨ad2, kd2, od2, rd2, rfl, g, g', rr⟩
      have M' := ((M.up rr).add g).add g'
      clear M rr g g'
      have M := M'; clear M'
      refine hK _ _ ⟨M.box 0 rfl, ?_⟩
      clear hK K1
      have hS0 : (fun W : World => BoxN W (w5.heap.size) 31 #[.bool (qr D).1, .slice ad1 (qr D).2.1.length kd1, .slice od1 (qr D).2.2.length rd1]) _ := M.box 0 rfl
      refine wpAnyH_take (i := 7) (oi := ⟨_, _, _, _, _, _⟩) (v := (.tuple #[.agg #[.bool (qr D).1, .slice ad2 (qr D).2.1.length kd2, .slice od2 (qr D).2.2.length rd2], .int .i64 0])) rfl (by kernel_rfl) (by kernel_rfl) (by kernel_rfl) (fun _ _ _ h => nomatch h.1) (Or.inl ⟨by rfl, fun W3 hS => by go_simp⟩) hS0 ?_
      try simp only [Act.put, List.setIfInBounds_toArray, List.set_cons_zero, List.set_cons_succ]
      refine wpAnyH_take (i := 8) (oi := ⟨_, _, _, _, _, _⟩) (v := (.agg #[.bool (qr D).1, .slice ad2 (qr D).2.1.length kd2, .slice od2 (qr D).2.2.length rd2])) rfl (by kernel_rfl) (by kernel_rfl) (by kernel_rfl) (fun _ _ _ h => nomatch h.1) (Or.inl ⟨by rfl, fun W3 hS => by go_simp⟩) hS0 ?_
      try simp only [Act.put, List.setIfInBounds_toArray, List.set_cons_zero, List.set_cons_succ]
      refine wpAnyH_take (i := 9) (oi := ⟨_, _, _, _, _, _⟩) (v := (.int .i64 0)) rfl (by kernel_rfl) (by kernel_rfl) (by kernel_rfl) (fun _ _ _ h => nomatch h.1) (Or.inl ⟨by rfl, fun W3 hS => by go_simp⟩) hS0 ?_
      try simp only [Act.put, List.setIfInBounds_toArray, List.set_cons_zero, List.set_cons_succ]
      clear hS0
      refine wpAnyH_all (rs := [10]) (by kernel_rfl) (by simp) ?_
      intro i hi
      obtain rfl : i = 10 := by simpa using hi
      refine wpOp_intro rfl (fun K2 hK => ?_)
      clear hi
      go_simp
      obtain ⟨bd2, V2_10, hV, hb, M'⟩ := M.fresh 31 [.bool false, .slice none 0 0, .slice none 0 0]
      rw [← hV, ← hb]
      clear M hV hb; have M := M'; clear M'
      refine hK _ _ ⟨M.box 1 rfl, ?_⟩
      clear hK K2
      have f0_0 := M.fr 0 rfl 0; have f0_1 := M.fr 0 rfl 1; have f0_2 := M.fr 0 rfl 2
      have z0_0 := M.cell 0 rfl 0 rfl; have z0_1 := M.cell 0 rfl 1 rfl; have z0_2 := M.cell 0 rfl 2 rfl
      refine wpAnyH_all (rs := [11]) (by kernel_rfl) (by simp) ?_
      intro i hi
      obtain rfl : i = 11 := by simpa using hi
      refine wpOp_intro rfl (fun Ks3 hK => ?_)
      clear hi
      go_simp
      have M' := (((M.put 0 rfl rfl 0 (.bool (qr D).1)).put 0 rfl rfl 1 (.slice ad2 (qr D).2.1.length kd2)).put 0 rfl rfl 2 (.slice od2 (qr D).2.2.length rd2))
      clear M f0_0 z0_0 f0_1 z0_1 f0_2 z0_2
      have M : Mem w [(bd2, 31, [.bool (qr D).1, .slice ad2 (qr D).2.1.length kd2, .slice od2 (qr D).2.2.length rd2]), (w5.heap.size, 31, [.bool (qr D).1, .slice ad1 (qr D).2.1.length kd1, .slice od1 (qr D).2.2.length rd1])] [(.slice od2 (qr D).2.2.length rd2, (qr D).2.2), (.slice ad2 (qr D).2.1.length kd2, (qr D).2.1), (.slice od1 (qr D).2.2.length rd1, (qr D).2.2), (.slice ad1 (qr D).2.1.length kd1, (qr D).2.1)] _ := M'
      clear M'
      refine hK _ _ ⟨M.box 1 rfl, ?_⟩
      clear hK Ks3
      have hS0 : (fun W : World => BoxN W (w5.heap.size) 31 #[.bool (qr D).1, .slice ad1 (qr D).2.1.length kd1, .slice od1 (qr D).2.2.length rd1]) _ := M.box 1 rfl
      refine wpAnyH_take (i := 12) (oi := ⟨_, _, _, _, _, _⟩) (v := (.int .i64 0)) rfl (by kernel_rfl) (by kernel_rfl) (by kernel_rfl) (fun _ _ _ h => nomatch h.1) (Or.inl ⟨by rfl, fun W3 hS => by go_simp⟩) hS0 ?_
      try simp only [Act.put, List.setIfInBounds_toArray, List.set_cons_zero, List.set_cons_succ]
      clear hS0
      refine wpAnyH_done (by kernel_rfl) ?_ _
      exact ⟨rfl, bd2, ad2, kd2, od2, rd2, rfl, M⟩
    · refine wpOp_intro rfl (fun K1 hK => ?_)
      go_simp
      obtain ⟨bd2, V1_10, hV, hb, M'⟩ := M.fresh 31 [.bool false, .slice none 0 0, .slice none 0 0]
      rw [← hV, ← hb]
      clear M hV hb; have M := M'; clear M'
      refine hK _ _ ⟨M.box 1 rfl, ?_⟩
      clear hK K1
      refine wpAnyH_all (rs := [6]) (by kernel_rfl) (by simp) ?_
      intro i hi
      obtain rfl : i = 6 := by simpa using hi
      refine wpOp_intro rfl (fun K4 hK => ?_)
      clear hi
      go_simp
      refine (k_dot (n := 0) (xs := []) (ys := []) D HD.out q5 (V1.out.below M.below).1 (V2.out.below M.below).1).mono ?_
      rintro e V4_6 ⟨ad2, kd2, od2, rd2, rfl, g, g', rr⟩
      have M' := ((M.up rr).add g).add g'
      clear M rr g g'
      have M := M'; clear M'
      refine hK _ _ ⟨M.box 1 rfl, ?_⟩
      clear hK K4
      have hS0 : (fun W : World => BoxN W (w5.heap.size) 31 #[.bool (qr D).1, .slice ad1 (qr D).2.1.length kd1, .slice od1 (qr D).2.2.length rd1]) _ := M.box 1 rfl
      refine wpAnyH_take (i := 7) (oi := ⟨_, _, _, _, _, _⟩) (v := (.tuple #[.agg #[.bool (qr D).1, .slice ad2 (qr D).2.1.length kd2, .slice od2 (qr D).2.2.length rd2], .int .i64 0])) rfl (by kernel_rfl) (by kernel_rfl) (by kernel_rfl) (fun _ _ _ h => nomatch h.1) (Or.inl ⟨by rfl, fun W3 hS => by go_simp⟩) hS0 ?_
      try simp only [Act.put, List.setIfInBounds_toArray, List.set_cons_zero, List.set_cons_succ]
      refine wpAnyH_take (i := 8) (oi := ⟨_, _, _, _, _, _⟩) (v := (.agg #[.bool (qr D).1, .slice ad2 (qr D).2.1.length kd2, .slice od2 (qr D).2.2.length rd2])) rfl (by kernel_rfl) (by kernel_rfl) (by kernel_rfl) (fun _ _ _ h => nomatch h.1) (Or.inl ⟨by rfl, fun W3 hS => by go_simp⟩) hS0 ?_
      try simp only [Act.put, List.setIfInBounds_toArray, List.set_cons_zero, List.set_cons_succ]
      refine wpAnyH_take (i := 9) (oi := ⟨_, _, _, _, _, _⟩) (v := (.int .i64 0)) rfl (by kernel_rfl) (by kernel_rfl) (by kernel_rfl) (fun _ _ _ h => nomatch h.1) (Or.inl ⟨by rfl, fun W3 hS => by go_simp⟩) hS0 ?_
      try simp only [Act.put, List.setIfInBounds_toArray, List.set_cons_zero, List.set_cons_succ]
      clear hS0
      have f0_0 := M.fr 0 rfl 0; have f0_1 := M.fr 0 rfl 1; have f0_2 := M.fr 0 rfl 2
      have z0_0 := M.cell 0 rfl 0 rfl; have z0_1 := M.cell 0 rfl 1 rfl; have z0_2 := M.cell 0 rfl 2 rfl
      refine wpAnyH_all (rs := [11]) (by kernel_rfl) (by simp) ?_
      intro i hi
      obtain rfl : i = 11 := by simpa using hi
      refine wpOp_intro rfl (fun Ks5 hK => ?_)
      clear hi
      go_simp
      have M' := (((M.put 0 rfl rfl 0 (.bool (qr D).1)).put 0 rfl rfl 1 (.slice ad2 (qr D).2.1.length kd2)).put 0 rfl rfl 2 (.slice od2 (qr D).2.2.length rd2))
      clear M f0_0 z0_0 f0_1 z0_1 f0_2 z0_2
      have M : Mem w [(bd2, 31, [.bool (qr D).1, .slice ad2 (qr D).2.1.length kd2, .slice od2 (qr D).2.2.length rd2]), (w5.heap.size, 31, [.bool (qr D).1, .slice ad1 (qr D).2.1.length kd1, .slice od1 (qr D).2.2.length rd1])] [(.slice od2 (qr D).2.2.length rd2, (qr D).2.2), (.slice ad2 (qr D).2.1.length kd2, (qr D).2.1), (.slice od1 (qr D).2.2.length rd1, (qr D).2.2), (.slice ad1 (qr D).2.1.length kd1, (qr D).2.1)] _ := M'
      clear M'
      refine hK _ _ ⟨M.box 1 rfl, ?_⟩
      clear hK Ks5
      have hS0 : (fun W : World => BoxN W (w5.heap.size) 31 #[.bool (qr D).1, .slice ad1 (qr D).2.1.length kd1, .slice od1 (qr D).2.2.length rd1]) _ := M.box 1 rfl
      refine wpAnyH_take (i := 12) (oi := ⟨_, _, _, _, _, _⟩) (v := (.int .i64 0)) rfl (by kernel_rfl) (by kernel_rfl) (by kernel_rfl) (fun _ _ _ h => nomatch h.1) (Or.inl ⟨by rfl, fun W3 hS => by go_simp⟩) hS0 ?_
      try simp only [Act.put, List.setIfInBounds_toArray, List.set_cons_zero, List.set_cons_succ]
      clear hS0
      refine wpAnyH_done (by kernel_rfl) ?_ _
      exact ⟨rfl, bd2, ad2, kd2, od2, rd2, rfl, M⟩
  intro bd2 ad2 kd2 od2 rd2 V M
  go_wp2_with fail
  apply region_cut_nss (Fact := (fun bd3 ad3 kd3 od3 rd3 W => Mem w [(bd3, 31, [.bool (qr D).1, .slice ad3 (qr D).2.1.length kd3, .slice od3 (qr D).2.2.length rd3]), (bd2, 31, [.bool (qr D).1, .slice ad2 (qr D).2.1.length kd2, .slice od2 (qr D).2.2.length rd2]), (w5.heap.size, 31, [.bool (qr D).1, .slice ad1 (qr D).2.1.length kd1, .slice od1 (qr D).2.2.length rd1])] [(.slice od3 (qr D).2.2.length rd3, (qr D).2.2), (.slice ad3 (qr D).2.1.length kd3, (qr D).2.1), (.slice od2 (qr D).2.2.length rd2, (qr D).2.2), (.slice ad2 (qr D).2.1.length kd2, (qr D).2.1), (.slice od1 (qr D).2.2.length rd1, (qr D).2.2), (.slice ad1 (qr D).2.1.length kd1, (qr D).2.1)] W))
  case first =>
    refine region_mem (S := (fun W : World => BoxN W (w5.heap.size) 31 #[.bool (qr D).1, .slice ad1 (qr D).2.1.length kd1, .slice od1 (qr D).2.2.length rd1])) M (by kernel_rfl) ?_
    intro V0 M
    have hS0 : (fun W : World => BoxN W (w5.heap.size) 31 #[.bool (qr D).1, .slice ad1 (qr D).2.1.length kd1, .slice od1 (qr D).2.2.length rd1]) V0 := M.box 1 rfl
    refine wpAnyH_take (i := 0) (oi := ⟨_, _, _, _, _, _⟩) (v := (.slice a1 0 c1)) rfl (by kernel_rfl) (by kernel_rfl) (by kernel_rfl) (fun _ _ _ h => nomatch h.1) (Or.inl ⟨by rfl, fun W3 hS => by go_simp⟩) hS0 ?_
    try simp only [Act.put, List.setIfInBounds_toArray, List.set_cons_zero, List.set_cons_succ]
    refine wpAnyH_take (i := 1) (oi := ⟨_, _, _, _, _, _⟩) (v := (.int .i64 0)) rfl (by kernel_rfl) (by kernel_rfl) (by kernel_rfl) (fun _ _ _ h => nomatch h.1) (Or.inl ⟨by rfl, fun W3 hS => by go_simp⟩) hS0 ?_
    try simp only [Act.put, List.setIfInBounds_toArray, List.set_cons_zero, List.set_cons_succ]
    refine wpAnyH_take (i := 2) (oi := ⟨_, _, _, _, _, _⟩) (v := (.slice a1 0 c1)) rfl (by kernel_rfl) (by kernel_rfl) (by kernel_rfl) (fun _ _ _ h => nomatch h.1) (Or.inl ⟨by rfl, fun W3 hS => by rcases a1 with _ | x9 <;> go_simp⟩) hS0 ?_
    try simp only [Act.put, List.setIfInBounds_toArray, List.set_cons_zero, List.set_cons_succ]
    refine wpAnyH_take (i := 3) (oi := ⟨_, _, _, _, _, _⟩) (v := (.slice a2 0 c2)) rfl (by kernel_rfl) (by kernel_rfl) (by kernel_rfl) (fun _ _ _ h => nomatch h.1) (Or.inl ⟨by rfl, fun W3 hS => by go_simp⟩) hS0 ?_
    try simp only [Act.put, List.setIfInBounds_toArray, List.set_cons_zero, List.set_cons_succ]
    refine wpAnyH_take (i := 4) (oi := ⟨_, _, _, _, _, _⟩) (v := (.int .i64 0)) rfl (by kernel_rfl) (by kernel_rfl) (by kernel_rfl) (fun _ _ _ h => nomatch h.1) (Or.inl ⟨by rfl, fun W3 hS => by go_simp⟩) hS0 ?_
    try simp only [Act.put, List.setIfInBounds_toArray, List.set_cons_zero, List.set_cons_succ]
    refine wpAnyH_take (i := 5) (oi := ⟨_, _, _, _, _, _⟩) (v := (.slice a2 0 c2)) rfl (by kernel_rfl) (by kernel_rfl) (by kernel_rfl) (fun _ _ _ h => nomatch h.1) (Or.inl ⟨by rfl, fun W3 hS => by rcases a2 with _ | x9 <;> go_simp⟩) hS0 ?_
    try simp only [Act.put, List.setIfInBounds_toArray, List.set_cons_zero, List.set_cons_succ]
    clear hS0
    refine wpAnyH_all (rs := [6, 10]) (by kernel_rfl) (by simp) ?_
    intro i hi
    have hi2 : i = 6 ∨ i = 10 := by simpa using hi
    clear hi
    rcases hi2 with rfl | rfl
    · refine wpOp_intro rfl (fun K1 hK => ?_)
      go_simp
      refine (k_dot (n := 0) (xs := []) (ys := []) D HD.out q5 (V1.out.below M.below).1 (V2.out.below M.below).1).mono ?_
      rintro e V1_6 ⟨ad3, kd3, od3, rd3, rfl, g, g', rr⟩
      have M' := ((M.up rr).add g).add g'
      clear M rr g g'
      have M := M'; clear M'
      refine hK _ _ ⟨M.box 1 rfl, ?_⟩
      clear hK K1
      have hS0 : (fun W : World => BoxN W (w5.heap.size) 31 #[.bool (qr D).1, .slice ad1 (qr D).2.1.length kd1, .slice od1 (qr D).2.2.length rd1]) _ := M.box 1 rfl
      refine wpAnyH_take (i := 7) (oi := ⟨_, _, _, _, _, _⟩) (v := (.tuple #[.agg #[.bool (qr D).1, .slice ad3 (qr D).2.1.length kd3, .slice od3 (qr D).2.2.length rd3], .int .i64 0])) rfl (by kernel_rfl) (by kernel_rfl) (by kernel_rfl) (fun _ _ _ h => nomatch h.1) (Or.inl ⟨by rfl, fun W3 hS => by go_simp⟩) hS0 ?_
      try simp only [Act.put, List.setIfInBounds_toArray, List.set_cons_zero, List.set_cons_succ]
      refine wpAnyH_take (i := 8) (oi := ⟨_, _, _, _, _, _⟩) (v := (.agg #[.bool (qr D).1, .slice ad3 (qr D).2.1.length kd3, .slice od3 (qr D).2.2.length rd3])) rfl (by kernel_rfl) (by kernel_rfl) (by kernel_rfl) (fun _ _ _ h => nomatch h.1) (Or.inl ⟨by rfl, fun W3 hS => by go_simp⟩) hS0 ?_
      try simp only [Act.put, List.setIfInBounds_toArray, List.set_cons_zero, List.set_cons_succ]
      refine wpAnyH_take (i := 9) (oi := ⟨_, _, _, _, _, _⟩) (v := (.int .i64 0)) rfl (by kernel_rfl) (by kernel_rfl) (by kernel_rfl) (fun _ _ _ h => nomatch h.1) (Or.inl ⟨by rfl, fun W3 hS => by go_simp⟩) hS0 ?_
      try simp only [Act.put, List.setIfInBounds_toArray, List.set_cons_zero, List.set_cons_succ]
      clear hS0
      refine wpAnyH_all (rs := [10]) (by kernel_rfl) (by simp) ?_
      intro i hi
      obtain rfl : i = 10 := by simpa using hi
      refine wpOp_intro rfl (fun K2 hK => ?_)
      clear hi
      go_simp
      obtain ⟨bd3, V2_10, hV, hb, M'⟩ := M.fresh 31 [.bool false, .slice none 0 0, .slice none 0 0]
      rw [← hV, ← hb]
      clear M hV hb; have M := M'; clear M'
      refine hK _ _ ⟨M.box 2 rfl, ?_⟩
      clear hK K2
      have f0_0 := M.fr 0 rfl 0; have f0_1 := M.fr 0 rfl 1; have f0_2 := M.fr 0 rfl 2
      have z0_0 := M.cell 0 rfl 0 rfl; have z0_1 := M.cell 0 rfl 1 rfl; have z0_2 := M.cell 0 rfl 2 rfl
      refine wpAnyH_all (rs := [11]) (by kernel_rfl) (by simp) ?_
      intro i hi
      obtain rfl : i = 11 := by simpa using hi
      refine wpOp_intro rfl (fun Ks3 hK => ?_)
      clear hi
      go_simp
      have M' := (((M.put 0 rfl rfl 0 (.bool (qr D).1)).put 0 rfl rfl 1 (.slice ad3 (qr D).2.1.length kd3)).put 0 rfl rfl 2 (.slice od3 (qr D).2.2.length rd3))
      clear M f0_0 z0_0 f0_1 z0_1 f0_2 z0_2
      have M : Mem w [(bd3, 31, [.bool (qr D).1, .slice ad3 (qr D).2.1.length kd3, .slice od3 (qr D).2.2.length rd3]), (bd2, 31, [.bool (qr D).1, .slice ad2 (qr D).2.1.length kd2, .slice od2 (qr D).2.2.length rd2]), (w5.heap.size, 31, [.bool (qr D).1, .slice ad1 (qr D).2.1.length kd1, .slice od1 (qr D).2.2.length rd1])] [(.slice od3 (qr D).2.2.length rd3, (qr D).2.2), (.slice ad3 (qr D).2.1.length kd3, (qr D).2.1), (.slice od2 (qr D).2.2.length rd2, (qr D).2.2), (.slice ad2 (qr D).2.1.length kd2, (qr D).2.1), (.slice od1 (qr D).2.2.length rd1, (qr D).2.2), (.slice ad1 (qr D).2.1.length kd1, (qr D).2.1)] _ := M'
      clear M'
      refine hK _ _ ⟨M.box 2 rfl, ?_⟩
      clear hK Ks3
      have hS0 : (fun W : World => BoxN W (w5.heap.size) 31 #[.bool (qr D).1, .slice ad1 (qr D).2.1.length kd1, .slice od1 (qr D).2.2.length rd1]) _ := M.box 2 rfl
      refine wpAnyH_take (i := 12) (oi := ⟨_, _, _, _, _, _⟩) (v := (.int .i64 0)) rfl (by kernel_rfl) (by kernel_rfl) (by kernel_rfl) (fun _ _ _ h => nomatch h.1) (Or.inl ⟨by rfl, fun W3 hS => by go_simp⟩) hS0 ?_
      try simp only [Act.put, List.setIfInBounds_toArray, List.set_cons_zero, List.set_cons_succ]
      clear hS0
      refine wpAnyH_done (by kernel_rfl) ?_ _
      exact ⟨rfl, bd3, ad3, kd3, od3, rd3, rfl, M⟩
    · refine wpOp_intro rfl (fun K1 hK => ?_)
      go_simp
      obtain ⟨bd3, V1_10, hV, hb, M'⟩ := M.fresh 31 [.bool false, .slice none 0 0, .slice none 0 0]
      rw [← hV, ← hb]
      clear M hV hb; have M := M'; clear M'
      refine hK _ _ ⟨M.box 2 rfl, ?_⟩
      clear hK K1
      refine wpAnyH_all (rs := [6]) (by kernel_rfl) (by simp) ?_
      intro i hi
      obtain rfl : i = 6 := by simpa using hi
      refine wpOp_intro rfl (fun K4 hK => ?_)
      clear hi
      go_simp
      refine (k_dot (n := 0) (xs := []) (ys := []) D HD.out q5 (V1.out.below M.below).1 (V2.out.below M.below).1).mono ?_
      rintro e V4_6 ⟨ad3, kd3, od3, rd3, rfl, g, g', rr⟩
      have M' := ((M.up rr).add g).add g'
      clear M rr g g'
      have M := M'; clear M'
      refine hK _ _ ⟨M.box 2 rfl, ?_⟩
      clear hK K4
      have hS0 : (fun W : World => BoxN W (w5.heap.size) 31 #[.bool (qr D).1, .slice ad1 (qr D).2.1.length kd1, .slice od1 (qr D).2.2.length rd1]) _ := M.box 2 rfl
      refine wpAnyH_take (i := 7) (oi := ⟨_, _, _, _, _, _⟩) (v := (.tuple #[.agg #[.bool (qr D).1, .slice ad3 (qr D).2.1.length kd3, .slice od3 (qr D).2.2.length rd3], .int .i64 0])) rfl (by kernel_rfl) (by kernel_rfl) (by kernel_rfl) (fun _ _ _ h => nomatch h.1) (Or.inl ⟨by rfl, fun W3 hS => by go_simp⟩) hS0 ?_
      try simp only [Act.put, List.setIfInBounds_toArray, List.set_cons_zero, List.set_cons_succ]
      refine wpAnyH_take (i := 8) (oi := ⟨_, _, _, _, _, _⟩) (v := (.agg #[.bool (qr D).1, .slice ad3 (qr D).2.1.length kd3, .slice od3 (qr D).2.2.length rd3])) rfl (by kernel_rfl) (by kernel_rfl) (by kernel_rfl) (fun _ _ _ h => nomatch h.1) (Or.inl ⟨by rfl, fun W3 hS => by go_simp⟩) hS0 ?_
      try simp only [Act.put, List.setIfInBounds_toArray, List.set_cons_zero, List.set_cons_succ]
      refine wpAnyH_take (i := 9) (oi := ⟨_, _, _, _, _, _⟩) (v := (.int .i64 0)) rfl (by kernel_rfl) (by kernel_rfl) (by kernel_rfl) (fun _ _ _ h => nomatch h.1) (Or.inl ⟨by rfl, fun W3 hS => by go_simp⟩) hS0 ?_
      try simp only [Act.put, List.setIfInBounds_toArray, List.set_cons_zero, List.set_cons_succ]
      clear hS0
      have f0_0 := M.fr 0 rfl 0; have f0_1 := M.fr 0 rfl 1; have f0_2 := M.fr 0 rfl 2
      have z0_0 := M.cell 0 rfl 0 rfl; have z0_1 := M.cell 0 rfl 1 rfl; have z0_2 := M.cell 0 rfl 2 rfl
      refine wpAnyH_all (rs := [11]) (by kernel_rfl) (by simp) ?_
      intro i hi
      obtain rfl : i = 11 := by simpa using hi
      refine wpOp_intro rfl (fun Ks5 hK => ?_)
      clear hi
      go_simp
      have M' := (((M.put 0 rfl rfl 0 (.bool (qr D).1)).put 0 rfl rfl 1 (.slice ad3 (qr D).2.1.length kd3)).put 0 rfl rfl 2 (.slice od3 (qr D).2.2.length rd3))
      clear M f0_0 z0_0 f0_1 z0_1 f0_2 z0_2
      have M : Mem w [(bd3, 31, [.bool (qr D).1, .slice ad3 (qr D).2.1.length kd3, .slice od3 (qr D).2.2.length rd3]), (bd2, 31, [.bool (qr D).1, .slice ad2 (qr D).2.1.length kd2, .slice od2 (qr D).2.2.length rd2]), (w5.heap.size, 31, [.bool (qr D).1, .slice ad1 (qr D).2.1.length kd1, .slice od1 (qr D).2.2.length rd1])] [(.slice od3 (qr D).2.2.length rd3, (qr D).2.2), (.slice ad3 (qr D).2.1.length kd3, (qr D).2.1), (.slice od2 (qr D).2.2.length rd2, (qr D).2.2), (.slice ad2 (qr D).2.1.length kd2, (qr D).2.1), (.slice od1 (qr D).2.2.length rd1, (qr D).2.2), (.slice ad1 (qr D).2.1.length kd1, (qr D).2.1)] _ := M'
      clear M'
      refine hK _ _ ⟨M.box 2 rfl, ?_⟩
      clear hK Ks5
      have hS0 : (fun W : World => BoxN W (w5.heap.size) 31 #[.bool (qr D).1, .slice ad1 (qr D).2.1.length kd1, .slice od1 (qr D).2.2.length rd1]) _ := M.box 2 rfl
      refine wpAnyH_take (i := 12) (oi := ⟨_, _, _, _, _, _⟩) (v := (.int .i64 0)) rfl (by kernel_rfl) (by kernel_rfl) (by kernel_rfl) (fun _ _ _ h => nomatch h.1) (Or.inl ⟨by rfl, fun W3 hS => by go_simp⟩) hS0 ?_
      try simp only [Act.put, List.setIfInBounds_toArray, List.set_cons_zero, List.set_cons_succ]
      clear hS0
      refine wpAnyH_done (by kernel_rfl) ?_ _
      exact ⟨rfl, bd3, ad3, kd3, od3, rd3, rfl, M⟩
  intro bd3 ad3 kd3 od3 rd3 V M
  go_wp2_with fail
  replace M := M.drew; have mk0 := True.intro
  go_region_held3 (fun V => V.cell? ⟨w5.heap.size, 0, none⟩ = some (.bool (qr D).1) ∧ V.cell? ⟨w5.heap.size, 1, none⟩ = some (.slice ad1 (qr D).2.1.length kd1) ∧ V.cell? ⟨w5.heap.size, 2, none⟩ = some (.slice od1 (qr D).2.2.length rd1) ∧ V.cell? ⟨bd2, 0, none⟩ = some (.bool (qr D).1) ∧ V.cell? ⟨bd2, 1, none⟩ = some (.slice ad2 (qr D).2.1.length kd2) ∧ V.cell? ⟨bd2, 2, none⟩ = some (.slice od2 (qr D).2.2.length rd2) ∧ V.cell? ⟨bd3, 0, none⟩ = some (.bool (qr D).1) ∧ V.cell? ⟨bd3, 1, none⟩ = some (.slice ad3 (qr D).2.1.length kd3) ∧ V.cell? ⟨bd3, 2, none⟩ = some (.slice od3 (qr D).2.2.length rd3)) (exact ⟨M.cell 2 rfl 0 rfl, M.cell 2 rfl 1 rfl, M.cell 2 rfl 2 rfl, M.cell 1 rfl 0 rfl, M.cell 1 rfl 1 rfl, M.cell 1 rfl 2 rfl, M.cell 0 rfl 0 rfl, M.cell 0 rfl 1 rfl, M.cell 0 rfl 2 rfl⟩) (first
    | (have nope := mk0; clear nope; (fail_if_success have nope := mk1); have mk1 := True.intro; go_at_call 20; refine (k_radd D D D HS.out wD wD (M.get 3 rfl) (M.get 2 rfl) (M.get 1 rfl) (M.get 0 rfl)).mono ?_; rintro e u6 ⟨e4, k4, o4, r4, rfl, g, g', rr⟩; have M' := ((M.up rr).add g).add g'; clear M rr g g'; have M := M'; clear M')
    | (have nope := mk1; clear nope; (fail_if_success have nope := mk2); have mk2 := True.intro; go_at_call 14; refine (k_sr D wD (M.get 7 rfl) (M.get 6 rfl) (M.get 1 rfl) (M.get 0 rfl)).mono ?_; rintro e u7 ⟨rfl, rr⟩; have M' := M.up rr; clear M rr; have M := M'; clear M'))
  clear mk0 mk1 mk2
  have HB := Lib.hid M.below; clear M
  go_wp2_with fail
  go_loopw [14] (fun i wr => i = .int .i64 0 ∧ Below w.heap.size w wr) (fun _ _ => 0)
  case atStart => exact ⟨rfl, HB.out⟩
  case round =>
    clear HB
    obtain ⟨rfl, hbel⟩ := hrel
    have HB := Lib.hid hbel
    clear hbel
    go_wp2_with fail
    go_ret
    exact ⟨rfl, HB.out⟩
theorem vecsParts_any {w : World} {a1 a2 : Option Addr} {n1 n2 c1 c2 : Nat} {q1 q2 : List Qr} {u : Int} (h1 : GOK w (a1, n1, c1, q1)) (h2 : GOK w (a2, n2, c2, q2)) (hu : (Lit.int .u8 u).wf = true) :
    Calls Try.prog 6 #[.slice a1 n1 c1, .slice a2 n2 c2, .int .u8 u] w fun e w' => e = .returned (.bool true) ∧ Below w.heap.size w w' := by
  obtain ⟨t, rfl, ht⟩ : ∃ t : Nat, u = (t : Int) ∧ t ≤ 255 := by
    simp [Lit.wf, IntKind.min, IntKind.max, IntKind.signed, IntKind.bits] at hu
    exact ⟨u.toNat, by omega, by omega⟩
  have hu : (Lit.int .u8 (t : Int)).wf = true := by simp [Lit.wf, IntKind.min, IntKind.max, IntKind.signed, IntKind.bits]; omega
  cases hg : ([(a1, n1, c1, q1), (a2, n2, c2, q2)] : List GI).any gbig with
  | true => exact parts_great h1 h2 hu hg
  | false =>
    have hgg := hg
    simp only [List.any_cons, List.any_nil, Bool.or_false, Bool.or_eq_false_iff] at hgg
    have b1 := gbig_no hgg.1
    have b2 := gbig_no hgg.2
    dsimp only at b1 b2
    by_cases hn : n1 = n2
    · have e1 := h1.1.addr.1
      have e2 := h2.1.addr.1
      have f1 := qrows_of e1 b1.1 h1.2 b1.2
      have f2 := qrows_of e2 b2.1 h2.2 b2.2
      cases k1 : q1.all qok with
      | false => exact parts_bad1 h1 h2 hu hg hn f1 f2 k1
      | true =>
        cases k2 : q2.all qok with
        | false => exact parts_bad2 h1 h2 hu hg hn f1 f2 k1 k2
        | true =>
          obtain ⟨xs, rfl, hlx, hw1⟩ := row_of e1 h1.2 b1.2 k1
          obtain ⟨ys, rfl, hly, hw2⟩ := row_of e2 h2.2 b2.2 k2
          subst hn
          by_cases h0 : n1 = 0
          · subst h0
            obtain rfl := List.eq_nil_of_length_eq_zero hlx
            obtain rfl := List.eq_nil_of_length_eq_zero hly
            exact parts_zero h1 h2 ht hg
          · obtain ⟨b3, o3, hA, _⟩ := h1.1.addr.2.2
            obtain ⟨b4, o4, hB, _⟩ := h2.1.addr.2.2
            have hA1 : a1 = some ⟨b3, o3, none⟩ := (hA (show 0 < n1 by omega)).1
            have hB1 : a2 = some ⟨b4, o4, none⟩ := (hB (show 0 < n1 by omega)).1
            subst hA1
            subst hB1
            exact parts_near h1 h2 ht rfl hg b1.1 (by omega) hw1 hw2
    · exact parts_len h1 h2 hu hg hn
end Go.Proofs.Ytcndjjhdckbfkaa
