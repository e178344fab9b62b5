/- A number so many times taken off another one in place, as the program does it. -/
import Derived.Test.YtgmbaamfobhceaaGreatGCmp
set_option linter.unusedSimpArgs false
set_option linter.unusedVariables false
set_option maxRecDepth 100000
set_option maxHeartbeats 4000000
namespace Go.Proofs.YtgmbaamfobhceaaGreat
open Go Go.Proofs Go.RowKit Go.Shelf Nu
attribute [local go_sem] Oper.semAt_some
theorem less_ring (A P a b x t p c bo q r m e f : Nat) (h : A + t * b = a + P * (c + bo)) (h1 : x + 4294967296 * e = r + m + bo) (h2 : c + q = m + 4294967296 * f) (h3 : q = p * t) :
  (A + P * r) + t * (b + P * p) = (a + P * x) + P * 4294967296 * (f + e) := by
 have e1 : P * (x + 4294967296 * e) = P * (r + m + bo) := by rw [h1]
 have e2 : P * (c + q) = P * (m + 4294967296 * f) := by rw [h2]
 subst h3
 grind
theorem less_step {row b cur : List Nat} {k c bo t d P : Nat} (hk : k < cur.length) (h : val (cur.take k) + t * val (b.take k) = val (row.take k) + 4294967296 ^ k * (c + bo))
  (hP : P = b.getD k 0 * t) (hs : ((row.getD k 0 : Nat) : Int) - ((c + P) % 4294967296 : Nat) - bo = (d % 4294967296 : Nat) - 4294967296 * (d / 9223372036854775808 : Nat)) :
  val ((cur.set k (d % 4294967296)).take (k + 1)) + t * val (b.take (k + 1)) = val (row.take (k + 1)) + 4294967296 ^ (k + 1) * ((c + P) / 4294967296 + d / 9223372036854775808) := by
 rw [set_take _ _ _ hk, val_snoc, val_take_succ row, val_take_succ b, List.length_take, Nat.min_eq_left (Nat.le_of_lt hk), Nat.pow_succ]
 exact less_ring _ _ _ _ _ t _ c bo P _ ((c + P) % 4294967296) _ _ h (by omega) (by omega) hP
theorem less_last {row b cur : List Nat} {n c bo t d : Nat} (hc : cur.length = n + 1) (hr : row.length = n + 1) (hb : b.length = n) (h : val (cur.take n) + t * val (b.take n) = val (row.take n) + 4294967296 ^ n * (c + bo))
  (hs : ((row.getD n 0 : Nat) : Int) - c - bo = (d % 4294967296 : Nat) - 4294967296 * (d / 9223372036854775808 : Nat)) :
  val (cur.set n (d % 4294967296)) + t * val b = val row + 4294967296 ^ (n + 1) * (d / 9223372036854775808) := by
 have e1 := set_take cur n (d % 4294967296) (by omega)
 rw [List.take_of_length_le (by rw [List.length_set]; omega)] at e1
 have e2 := val_take_succ row n
 rw [List.take_of_length_le (by omega)] at e2
 rw [List.take_of_length_le (l := b) (by omega)] at h
 rw [e1, val_snoc, List.length_take, Nat.min_eq_left (by omega), e2, Nat.pow_succ]
 have e3 : 4294967296 ^ n * (row.getD n 0 + 4294967296 * (d / 9223372036854775808)) = 4294967296 ^ n * (d % 4294967296 + (c + bo)) := by congr 1; omega
 rw [Nat.mul_add, Nat.mul_add (4294967296 ^ n) (d % 4294967296)] at e3
 rw [Nat.mul_assoc]
 omega
def LessInv (w : World) (g : Nat) (pre post : List Value) (row lb : List Nat) (t : Nat) (va vb : Value) (k : Nat) (W : World) : Prop :=
 (∃ (cur : List Nat) (c bo : Nat), Blk W g pre cur post ∧ cur.length = row.length ∧ Sm cur ∧ c < 4294967296 ∧ bo ≤ 1 ∧ cur.drop k = row.drop k ∧ val (cur.take k) + t * val (lb.take k) = val (row.take k) + 4294967296 ^ k * (c + bo) ∧
  Boxed W (w.heap.size + 1 + 1) 130 (.int .u64 c) ∧ Boxed W (w.heap.size + 1 + 1 + 1) 130 (.int .u64 bo)) ∧
 Boxed W w.heap.size 40 va ∧ Boxed W (w.heap.size + 1) 127 (.int .u32 t) ∧ Boxed W (w.heap.size + 1 + 1 + 1 + 1) 40 vb ∧ w.grownBy W (some g)
theorem subTimes_any {w : World} {g o cap t : Nat} {pre post : List Value} {row lb : List Nat} {vb : Value} (hb : Blk w g pre row post) (ho : pre.length = o) (hcap : row.length ≤ cap) (hB : Reads w vb lb) (hne : vb.ownBlock ≠ some g) (hl : row.length = lb.length + 1) (hlb : lb.length ≤ 100000) (_hso : o ≤ 1000000)
  (hSR : Sm row) (hSB : Sm lb) (ht : t < 4294967296) :
  Calls Tryz.prog 196 #[.slice (some ⟨g, o, none⟩) row.length cap, vb, .int .u32 t] w fun e w' => ∃ (row' : List Nat) (b : Bool), e = .returned (.bool b) ∧ Blk w' g pre row' post ∧ row'.length = row.length ∧ Sm row' ∧ val row' + t * val lb = val row + (if b then 4294967296 ^ row.length else 0) ∧ w.grownBy w' (some g) := by
 have hgw := hb.lt
 obtain ⟨b1, d1, rfl⟩ := hB.form
 obtain ⟨bb, ob, hbb, hcb⟩ := hB.addr
 obtain ⟨m, hm⟩ : ∃ m, m = lb.length := ⟨_, rfl⟩
 obtain ⟨n, hn⟩ : ∃ n, n = row.length := ⟨_, rfl⟩
 have HN := Lib.hid hn
 have HM := Lib.hid hm
 have hnm : n = m + 1 := by omega
 have HNM := Lib.hid hnm
 have hn1 : n ≤ 100001 := by omega
 have hn2 : n ≤ cap := by omega
 rw [← hm] at hbb hcb hB hne ⊢
 rw [← hn]
 clear hn hl hm hnm
 refine (callsIn_wide (n := 0)).1 ?_
 refine callsIn_of_wp_marks Tryz.func196 rfl trivial ?_ rfl
 simp only [Tryz.ntmps196, List.size_toArray, List.length_cons, List.length_nil, Nat.reduceAdd, Nat.reduceSub, Array.replicate_succ, Array.replicate_zero, List.push_toArray, List.append_toArray, List.nil_append, List.cons_append]
 refine wpIn_wide.2 ?_
 go_wp2_with (go_at_call 163; refine (all_any _ _ _ _).mono ?_; rintro e w' ⟨rfl, rfl⟩)
 refine (wpIn_wide (n := 0)).1 ?_
 refine wp_rangeAt (gf := 189) rfl (enters_of Tryz.func189 (by kernel_rfl) rfl)
  (all_iter m bb ob d1 (w.heap.size + 1 + 1 + 1 + 1) b1 (fun j => lb.getD j 0) (by have := HNM.out; omega) (fun h => (hbb h).1)) (fun _ => rfl)
  (LessInv w g pre post row lb t (.slice (some ⟨g, o, none⟩) n cap) (.slice b1 m d1)) (fun _ _ => False) ?own (fun _ _ _ _ h _ _ => h) ?reads ?start ?round ?done ?stop
 case own =>
  rintro k W W' r ⟨⟨cur, c, bo, h1, h2, h3, h4, h5, h6, h7, h8, h9⟩, g1, g2, g3, g4⟩ hg hr
  exact ⟨⟨cur, c, bo, h1.keep hg hr, h2, h3, h4, h5, h6, h7, keepBox h8 hg hr, keepBox h9 hg hr⟩, keepBox g1 hg hr, keepBox g2 hg hr, keepBox g3 hg hr, grown_keep g4 (by simp; omega) hg hr⟩
 case reads =>
  rintro k W ⟨_, g1, g2, g3, g4⟩
  refine ⟨g3.cell, fun hk => ?_⟩
  have hbg : bb ≠ g := fun e => hne (by rw [(hbb (by omega)).1, e]; rfl)
  exact (World.cell?_of_block (w := w) (g4.block bb (hbb (by omega)).2 (fun e => hbg (by cases e; rfl)))).trans (hcb k hk)
 case start =>
  refine ⟨⟨row, 0, 0, ((((hb.alloc _).alloc _).alloc _).alloc _).alloc _, rfl, hSR, by omega, by omega, rfl, by simp [val], ((boxed_new2 w _ _ _ _).alloc _).alloc _, (boxed_new3 w _ _ _ _ _).alloc _⟩, ((((Boxed.new w _ _).alloc _).alloc _).alloc _).alloc _, (((boxed_new1 w _ _ _).alloc _).alloc _).alloc _, boxed_new4 w _ _ _ _ _ _, ?_⟩
  exact grown_alloc (grown_alloc (grown_alloc (grown_alloc (grown_alloc (grown_refl w _) _) _) _) _) _
 case round =>
  intro l k W hk
  have hx := hSB.getD k
  obtain ⟨x, hxe⟩ : ∃ x, x = lb.getD k 0 := ⟨_, rfl⟩
  dsimp only
  rw [← hxe]
  rw [← hxe] at hx
  have HX := Lib.hid hxe
  have hkn : k < n := by have := HNM.out; omega
  clear hxe hbb hcb hB hSB hSR hb
  gi_wp2
  refine NextRound.mk ?_
  rintro W2 ⟨⟨cur, c, bo, h1, h2, h3, h4, h5, h6, h7, h8, h9⟩, g1, g2, g3, g4⟩
  have hkc : k < cur.length := by rw [h2, ← HN.out]; exact hkn
  have hr := h3.getD k
  obtain ⟨r, hre⟩ : ∃ r, r = cur.getD k 0 := ⟨_, rfl⟩
  rw [← hre] at hr
  obtain ⟨P, hP, HP, hPb⟩ := mul_bound hx ht
  have ha1 := and_top (c + P) (by omega)
  rw [Int.natCast_add] at ha1
  obtain ⟨ml, hml⟩ : ∃ ml, ml = (c + P) % 4294967296 := ⟨_, rfl⟩
  rw [← hml] at ha1
  obtain ⟨d, hd1, hd2, hd3, hd4⟩ := sub_step (al := r) (ml := ml) (bo := bo) hr (by omega) h5
  have HP' := Lib.hid HP
  have HR := Lib.hid hre
  have HML := Lib.hid hml
  have HD := Lib.hid hd3
  have H2 := Lib.hid h2
  have H6 := Lib.hid h6
  have H7 := Lib.hid h7
  have q1 := h8.cell
  have q2 := h8.frozen
  have q3 := h9.cell
  have q4 := h9.frozen
  have q5 := g1.cell
  have q6 := g2.cell
  have hgS : g ≠ w.heap.size + 1 + 1 := by omega
  have hgT : g ≠ w.heap.size + 1 + 1 + 1 := by omega
  have h1x := h1.box hgS (.int .u64 ((c : Int) + (P : Int)))
  have r1 := h1x.cell ho k hkc
  have r2 := h1x.frozen (o + k)
  rw [← hre] at r1
  clear hre h2 h6 h7 HP hml hd3
  gi_wp2_with (refine region_tail_in (Lets.round l) 10 (by kernel_rfl) (by kernel_rfl) (Stop.of ?_))
  refine Stop.mk ?_
  simp only [List.take_succ_cons, List.take_zero, List.drop_succ_cons, List.drop_zero]
  iterate 10 still_step
  refine wpStill_nil ?_
  gi_wp2
  refine ⟨(((((KeepsOthers.setCell W2 _ _).trans (KeepsOthers.setCell _ _ _)).trans (KeepsOthers.setCell _ _ _)).trans (KeepsOthers.setCell _ _ _)).trans (KeepsOthers.drew _)).from _,
    ⟨cur.set k (d % 4294967296), (c + P) / 4294967296, d / 9223372036854775808, ?_, ?_, h3.set _ _ (by omega), by omega, hd4, ?_, ?_, ?_, ?_⟩, ?_, ?_, ?_, ?_⟩
  · have e := ((h1x.set ho k (d % 4294967296) hkc).box hgS (.int .u64 (((c : Int) + (P : Int)) / 4294967296))).box hgT (.int .u64 ((d : Int) / 9223372036854775808))
    rw [show ((d % 4294967296 : Nat) : Int) = (d : Int) % 4294967296 by omega] at e
    exact e
  · rw [List.length_set]; exact H2.out
  · rw [set_drop]; exact drop_succ_of_drop H6.out
  · refine less_step (P := P) hkc H7.out (by rw [HP'.out, HX.out]) ?_
    rw [← getD_of_drop H6.out k (Nat.le_refl _), ← HR.out, ← HML.out]
    exact HD.out
  · rw [show (((c + P) / 4294967296 : Nat) : Int) = ((c : Int) + (P : Int)) / 4294967296 by omega]
    exact ((boxed_row (h8.set _) (by omega) _).set _).other (by omega) _
  · rw [show ((d / 9223372036854775808 : Nat) : Int) = (d : Int) / 9223372036854775808 by omega]
    exact ((boxed_row (h9.other (by omega) _) (by omega) _).other (by omega) _).set _
  · exact ((boxed_row (g1.other (by omega) _) (by omega) _).other (by omega) _).other (by omega) _
  · exact ((boxed_row (g2.other (by omega) _) (by omega) _).other (by omega) _).other (by omega) _
  · exact ((boxed_row (g3.other (by omega) _) (by omega) _).other (by omega) _).other (by omega) _
  · exact grown_drew (grown_box (grown_box (grown_setCell (grown_box g4 (by omega) _) _ _) (by omega) _) (by omega) _)
 case done =>
  rintro D W hD ⟨⟨cur, c, bo, h1, h2, h3, h4, h5, h6, h7, h8, h9⟩, g1, g2, g3, g4⟩ hK
  have hcm : m < cur.length := by rw [h2, ← HN.out, HNM.out]; omega
  have r1 := h1.cell ho m hcm
  have r2 := h1.frozen (o + m)
  have hr := h3.getD m
  obtain ⟨r, hre⟩ : ∃ r, r = cur.getD m 0 := ⟨_, rfl⟩
  rw [← hre] at r1 hr
  obtain ⟨d, hd1, hd2, hd3, hd4⟩ := sub_step (al := r) (ml := c) (bo := bo) hr h4 h5
  have q1 := h8.cell
  have q2 := h9.cell
  have q3 := g1.cell
  have HR := Lib.hid hre
  have HD := Lib.hid hd3
  have H2 := Lib.hid h2
  have H6 := Lib.hid h6
  have H7 := Lib.hid h7
  have hmn : m < n := by have := HNM.out; omega
  obtain ⟨b, hb2⟩ : ∃ b : Bool, b = decide (¬ d / 9223372036854775808 = 0) := ⟨_, rfl⟩
  have hbI : (((d : Int) / 9223372036854775808) != 0) = b := by
    rw [hb2]; by_cases h : d / 9223372036854775808 = 0 <;> simp [h] <;> omega
  have HB := Lib.hid hb2
  clear hre hd3 h2 h6 h7 hb2 hbb hcb hB hSB hb hSR g2 g3
  go_wp2
  go_quiet (fail)
  go_wp2
  have hgD : D ≠ g := by simp at hD; omega
  have hK2 := heap_row (o := o + m) (g := g) (W := W.drewN nq) (D := D) (ob := .deferred (some [])) hK hgD (.int .u32 ((d : Int) % 4294967296))
  refine ⟨by simp, .inl ⟨_, _, rfl, run_takeDeferred hK2, ?_⟩⟩
  have e1 := h1.set ho m (d % 4294967296) hcm
  rw [show ((d % 4294967296 : Nat) : Int) = (d : Int) % 4294967296 by omega] at e1
  have e2 : Blk ((W.drewN nq).setCell ⟨g, o + m, none⟩ (.int .u32 ((d : Int) % 4294967296))) g pre (cur.set m (d % 4294967296)) post := e1
  have hg2 : w.grownBy (W.drewN nq) (some g) := ⟨g4.os, g4.tape, g4.output, g4.size, g4.block⟩
  refine ⟨_, results_tmp rfl _ _ _, cur.set m (d % 4294967296), b, rfl, e2.left _ hK2 rfl, ?_, h3.set _ _ (by omega), ?_, grown_left _ (grown_setCell hg2 _ _) (by simp at hD; omega) hK2 rfl⟩
  · rw [List.length_set, H2.out, HN.out]
  · have hn := HN.out
    have hnm := HNM.out
    have hm := HM.out
    have e3 := less_last (n := m) (cur := cur) (row := row) (b := lb) (d := d) (by rw [H2.out, ← hn, hnm]) (by rw [← hn, hnm]) hm.symm H7.out (by rw [← getD_of_drop H6.out m (Nat.le_refl _), ← HR.out]; exact HD.out)
    rw [e3, HB.out, hnm]
    by_cases h : d / 9223372036854775808 = 0
    · simp [h]
    · have : d / 9223372036854775808 = 1 := by omega
      simp [this]
 case stop =>
  rintro D c W _ h _
  exact h.elim
end Go.Proofs.YtgmbaamfobhceaaGreat
