/- The product of two great numbers, as the program makes it: a row for each part of the first one. -/
import Derived.Test.YtmbnojkciikobaaGreatDoorTimes
namespace Go.Proofs.YtmbnojkciikobaaGreatDoor
open Go Go.Proofs Go.RowKit Go.Shelf Nu

attribute [local go_sem] Oper.semAt_some

/-- what holds between two rounds of Mul's loop -/
def MulInv (w : World) (s g : Nat) (A B : List Nat) (va vb pv : Value) (k : Nat) (W : World) : Prop :=
  (∃ p : List Nat, Blk W g [] p [] ∧ p.length = A.length + B.length ∧ Sm p ∧ val p = val (A.take k) * val B ∧ ∀ j, k + B.length ≤ j → p.getD j 0 = 0) ∧
  Boxed W w.heap.size 23 vb ∧ Boxed W s 23 pv ∧ Boxed W (s + 1) 23 va ∧ Below w.heap.size w W

theorem replicate_zero_u32 (n : Nat) : (madeCells (Value.int .u32 0).cells (n * 1)).toList = (List.replicate n 0).map u32v := by
  rw [Nat.mul_one]
  show (madeCells #[Value.int .u32 0] n).toList = _
  rw [toList_madeCells_one, List.map_replicate]; rfl

set_option maxRecDepth 100000 in
set_option maxHeartbeats 4000000 in
theorem mul_any {w : World} {va vb : Value} {la lb : List Nat} (ha : Reads w va la) (hb : Reads w vb lb) (hla : la.length ≤ 100000) (hlb : lb.length ≤ 100000) (hsa : Sm la) (hsb : Sm lb) :
    Calls Tryz.prog 12 #[va, vb] w fun e w' => ∃ v, e = .returned v ∧ Fresh w' w.heap.size v (digs (nv la * nv lb)) ∧ Below w.heap.size w w' := by
  obtain ⟨i0, hi, hz0, hz1, hz2⟩ := info_parts info_u32
  have k1 : ∀ W, Below w.heap.size w W → _ := fun W hW => orZero_any (ha.below hW) (by omega)
  have k2 : ∀ W, Below w.heap.size w W → _ := fun W hW => orZero_any (hb.below hW) (by omega)
  have hA := orzV_reads ha
  have hB := orzV_reads hb
  obtain ⟨a1, c1, e1⟩ := hA.form
  obtain ⟨b1, d1, e2⟩ := hB.form
  rw [e1] at k1 hA
  rw [e2] at k2 hB
  have hlA : (orz la).length ≤ 100000 := Nat.le_trans (orz_length la) hla
  have hlB : (orz lb).length ≤ 100000 := Nat.le_trans (orz_length lb) hlb
  have hSA := sm_orz hsa
  have hSB := sm_orz hsb
  rw [← val_orz la, ← val_orz lb]
  generalize orz la = A at *
  generalize orz lb = B at *
  obtain ⟨x1, x2, rfl⟩ := ha.form
  obtain ⟨y1, y2, rfl⟩ := hb.form
  clear ha hb e1 e2 hla hlb hsa hsb
  obtain ⟨N, hN⟩ : ∃ N, N = A.length + B.length := ⟨_, rfl⟩
  have HN := Lib.hid hN
  have hN1 : N ≤ 200000 := by omega
  clear hN
  refine (callsIn_wide (n := 0)).1 ?_
  refine callsIn_of_wp_marks Tryz.func12 rfl trivial ?_ rfl
  simp only [Tryz.ntmps12, List.size_toArray, List.length_cons, List.length_nil, Nat.reduceAdd, Nat.reduceSub, Array.replicate_succ, Array.replicate_zero, List.push_toArray, List.append_toArray, List.nil_append, List.cons_append]
  refine wpIn_wide.2 ?_
  go_wp2_with fail
  refine (wpIn_wide (n := 0)).1 ?_
  refine region_tail_in Lets.wide 4 (by kernel_rfl) (by kernel_rfl) ?_
  simp only [List.take_succ_cons, List.take_zero, List.drop_succ_cons, List.drop_zero]
  have hb0 : Below w.heap.size w (w.alloc (.cells #[.slice y1 lb.length y2] 23)).drew := ((Below.refl _ w).alloc (Nat.le_refl _) _).drew
  still_step
  still_call (k1 _ hb0)
  still_step
  still_call (k2 _ hb0)
  clear k1 k2
  refine wpStill_nil ?_
  gi_wp2
  go_wp2_with (first
    | (at_make; go_loud (refine wpList_make_full _ rfl _ _ 23 rfl (w.heap.size + 1) 78 i0 (.int .u32 0) 1 Tryz.underlying23 hi hz0 hz1 .i64 .i64 _ _ N rfl rfl (by have := HN.out; omega) (by have := HN.out; omega) (by rw [hz2]; omega) (by unfold maxLen; omega) (by simp) ?_); intro w1 hown1 hgrow1)
    | (go_at_call 68; refine (all_any _ _ _ _).mono ?_; rintro e w' ⟨rfl, rfl⟩))
  have hs1 : w.heap.size + 1 ≤ w1.heap.size := by have := hgrow1.size; simp at this; omega
  obtain ⟨s, hs⟩ : ∃ s, s = w1.heap.size := ⟨_, rfl⟩
  obtain ⟨g, hg⟩ : ∃ g, g = w.heap.size + 1 := ⟨_, rfl⟩
  have HS := Lib.hid hs
  have HG := Lib.hid hg
  obtain ⟨ba, oa, hba, hca⟩ := hA.addr
  have hBg : 0 < B.length → (Value.slice b1 B.length d1).ownBlock ≠ some g := fun hl0 e => by have := hB.block_lt e hl0; omega
  have hbel1 : Below w.heap.size w w1 := ((((Below.refl _ w).alloc (Nat.le_refl _) _).drew).grown hgrow1 (by simp) (fun _ e => by cases e))
  have hsz : (w.alloc (.cells #[.slice b1 B.length d1] 23)).drew.heap.size = w.heap.size + 1 := by simp
  rw [hsz] at hown1
  have hF : Fresh w1 (w.heap.size + 1) (.slice (some ⟨w.heap.size + 1, 0, none⟩) N N) (List.replicate N 0) := by unfold Fresh; rw [List.length_replicate, ← replicate_zero_u32]; exact hown1
  have hgs : g < s := by
    rcases hF.form with ⟨h, _⟩ | ⟨g', cap, e, _, h, _⟩
    · cases h
    · simp only [Value.slice.injEq, Option.some.injEq, Addr.mk.injEq, and_true] at e
      omega
  clear hown1
  rw [← hs] at hs1 ⊢
  rw [← hg]
  refine (wpIn_wide (n := 0)).1 ?_
  refine wp_rangeAt (gf := 139) rfl (enters_of Tryz.func139 (by kernel_rfl) rfl)
    (all_iter A.length ba oa c1 (s + 1) a1 (fun j => A.getD j 0) (by omega) (fun h => (hba h).1)) (fun _ => rfl)
    (MulInv w s g A B (.slice a1 A.length c1) (.slice b1 B.length d1) (.slice (some ⟨g, 0, none⟩) N N)) (fun _ _ => False) ?own (fun _ _ _ _ h _ _ => h) ?reads ?start ?round ?done ?stop
  case own =>
    rintro k W W' r ⟨⟨p, h1, h2⟩, g1, g2, g3, g4⟩ hg hr
    exact ⟨⟨p, h1.keep hg hr, h2⟩, keepBox g1 hg hr, keepBox g2 hg hr, keepBox g3 hg hr, keepBelow g4 (Nat.le_refl _) (by simp; omega) hg hr⟩
  case reads =>
    rintro k W ⟨_, g1, g2, g3, g4⟩
    exact ⟨g3.cell, fun hk => (g4.cell (p := ⟨ba, oa + k, none⟩) (hba (by omega)).2).trans (hca k hk)⟩
  case start =>
    subst hs hg
    obtain ⟨post, h1, _, h3, _⟩ := hF.blk (by simp)
    obtain rfl : post = [] := List.eq_nil_of_length_eq_zero (by rw [List.length_replicate] at h3; omega)
    have hV : Boxed w1 w.heap.size 23 (.slice b1 B.length d1) := Boxed.kept (W := (w.alloc (.cells #[.slice b1 B.length d1] 23)).drew) (Boxed.new w _ _) hgrow1 (by simp)
    refine ⟨⟨List.replicate N 0, (h1.alloc _).alloc _, by rw [List.length_replicate]; exact HN.out, Sm.replicate N, by simp [val_replicate, val], fun j _ => ?_⟩, (hV.alloc _).alloc _, (Boxed.new w1 _ _).alloc _, boxed_new1 w1 _ _ _, ?_⟩
    · rw [List.getD_eq_getElem?_getD, List.getElem?_replicate]; split <;> rfl
    · exact (hbel1.alloc (by omega) _).alloc (by simp; omega) _
  case round =>
    intro l k W hk
    have hx := hSA.getD k
    obtain ⟨x, hxe⟩ : ∃ x, x = A.getD k 0 := ⟨_, rfl⟩
    dsimp only
    rw [← hxe]
    rw [← hxe] at hx
    have HX := Lib.hid hxe
    have hkN : k + B.length < N := by have := HN.out; omega
    have hwg : w.heap.size < g := by omega
    clear hxe hba hca hA hSA hs hg
    gi_wp2
    refine NextRound.mk ?_
    rintro W2 ⟨⟨p, h1, h2, h3, h4, h5⟩, g1, g2, g3, g4⟩
    have r1 := g1.cell
    have r2 := g2.cell
    have H2 := Lib.hid h2
    have H4 := Lib.hid h4
    have H5 := Lib.hid h5
    have hpl : p.length = N := by have := HN.out; omega
    have HPL := Lib.hid hpl
    -- the row that is written
    have hsplit : p.take k ++ (p.drop k).take B.length ++ p.drop (k + B.length) = p := by
      rw [← List.drop_drop, List.append_assoc, List.take_append_drop, List.take_append_drop]
    have hb1 : Blk W2 g ([] ++ (p.take k).map u32v) ((p.drop k).take B.length) ((p.drop (k + B.length)).map u32v ++ []) := Blk.split.1 (by rw [hsplit]; exact h1)
    have hrl : ((p.drop k).take B.length).length = B.length := by rw [List.length_take, List.length_drop]; omega
    have hct := addTimes_any (w := W2.drew) (cap := N - k) (t := x) hb1 (o := k) (by simp; omega) (by omega) (hB.below g4.drew) hBg hrl hlB (by omega) ((h3.drop k).take _) hSB hx
    rw [hrl] at hct
    have HSP := Lib.hid hsplit
    clear h2 h4 h5 hpl hsplit hrl
    gi_wp2_with (refine region_held_in (Lets.round l) (fun W => W.cell? ⟨w.heap.size, 0, none⟩ = some (.slice b1 B.length d1) ∧ W.cell? ⟨s, 0, none⟩ = some (.slice (some ⟨g, 0, none⟩) N N)) (by kernel_rfl) (by kernel_rfl) (by rintro ⟨_, _, h⟩; exact h) (Stop.of ?_))
    refine Stop.mk ?_
    have u1 : IntKind.i64.wrap ((k : Int) + (B.length : Int)) = (k : Int) + (B.length : Int) := IntWalk.i64_in _ (by omega)
    have u2 : (0 : Int) ≤ (k : Int) + (B.length : Int) := by omega
    have u3 : (k : Int) + (B.length : Int) ≤ (N : Int) := by omega
    have u4 : ((k : Int) + (B.length : Int)).toNat = k + B.length := by omega
    have u5 : ¬ N = k := by omega
    have u6 : (k : Int) + (B.length : Int) < (N : Int) := by omega
    have hS0 : W2.drew.cell? ⟨w.heap.size, 0, none⟩ = some (.slice b1 B.length d1) ∧ W2.drew.cell? ⟨s, 0, none⟩ = some (.slice (some ⟨g, 0, none⟩) N N) := ⟨r1, r2⟩
    refine wpAnyH_take (i := 0) (v := .slice (some ⟨g, 0, none⟩) N N) rfl (by kernel_rfl) (by kernel_rfl) (by kernel_rfl) (fun _ _ _ h => h) (Or.inl ⟨by rfl, fun W3 hS => by obtain ⟨hS1, hS2⟩ := hS; go_simp⟩) hS0 ?_
    refine wpAnyH_take (i := 1) (v := .int .i64 k) rfl (by kernel_rfl) (by kernel_rfl) (by kernel_rfl) (fun _ _ _ h => h) (Or.inl ⟨by rfl, fun W3 hS => by obtain ⟨hS1, hS2⟩ := hS; go_simp⟩) hS0 ?_
    refine wpAnyH_take (i := 2) (v := .slice b1 B.length d1) rfl (by kernel_rfl) (by kernel_rfl) (by kernel_rfl) (fun _ _ _ h => h) (Or.inl ⟨by rfl, fun W3 hS => by obtain ⟨hS1, hS2⟩ := hS; go_simp⟩) hS0 ?_
    refine wpAnyH_take (i := 3) (v := .int .i64 B.length) rfl (by kernel_rfl) (by kernel_rfl) (by kernel_rfl) (fun _ _ _ h => h) (Or.inl ⟨by rfl, fun W3 hS => by obtain ⟨hS1, hS2⟩ := hS; go_simp⟩) hS0 ?_
    refine wpAnyH_take (i := 4) (v := .int .i64 ((k : Int) + (B.length : Int))) rfl (by kernel_rfl) (by kernel_rfl) (by kernel_rfl) (fun _ _ _ h => h) (Or.inl ⟨by rfl, fun W3 hS => by obtain ⟨hS1, hS2⟩ := hS; go_simp⟩) hS0 ?_
    refine wpAnyH_take (i := 5) (v := .slice (some ⟨g, 0, none⟩) N N) rfl (by kernel_rfl) (by kernel_rfl) (by kernel_rfl) (fun _ _ _ h => h) (Or.inl ⟨by rfl, fun W3 hS => by obtain ⟨hS1, hS2⟩ := hS; go_simp⟩) hS0 ?_
    refine wpAnyH_take (i := 6) (v := .int .i64 k) rfl (by kernel_rfl) (by kernel_rfl) (by kernel_rfl) (fun _ _ _ h => h) (Or.inl ⟨by rfl, fun W3 hS => by obtain ⟨hS1, hS2⟩ := hS; go_simp⟩) hS0 ?_
    refine wpAnyH_take (i := 7) (v := .int .i64 k) rfl (by kernel_rfl) (by kernel_rfl) (by kernel_rfl) (fun _ _ _ h => h) (Or.inl ⟨by rfl, fun W3 hS => by obtain ⟨hS1, hS2⟩ := hS; go_simp⟩) hS0 ?_
    refine wpAnyH_take (i := 8) (v := .slice b1 B.length d1) rfl (by kernel_rfl) (by kernel_rfl) (by kernel_rfl) (fun _ _ _ h => h) (Or.inl ⟨by rfl, fun W3 hS => by obtain ⟨hS1, hS2⟩ := hS; go_simp⟩) hS0 ?_
    refine wpAnyH_take (i := 9) (v := .int .i64 B.length) rfl (by kernel_rfl) (by kernel_rfl) (by kernel_rfl) (fun _ _ _ h => h) (Or.inl ⟨by rfl, fun W3 hS => by obtain ⟨hS1, hS2⟩ := hS; go_simp⟩) hS0 ?_
    refine wpAnyH_take (i := 10) (v := .int .i64 ((k : Int) + (B.length : Int))) rfl (by kernel_rfl) (by kernel_rfl) (by kernel_rfl) (fun _ _ _ h => h) (Or.inl ⟨by rfl, fun W3 hS => by obtain ⟨hS1, hS2⟩ := hS; go_simp⟩) hS0 ?_
    refine wpAnyH_take (i := 11) (v := .slice (some ⟨g, k, none⟩) B.length (N - k)) rfl (by kernel_rfl) (by kernel_rfl) (by kernel_rfl) (fun _ _ _ h => h) (Or.inl ⟨by rfl, fun W3 hS => by obtain ⟨hS1, hS2⟩ := hS; go_simp⟩) hS0 ?_
    refine wpAnyH_take (i := 12) (v := .slice b1 B.length d1) rfl (by kernel_rfl) (by kernel_rfl) (by kernel_rfl) (fun _ _ _ h => h) (Or.inl ⟨by rfl, fun W3 hS => by obtain ⟨hS1, hS2⟩ := hS; go_simp⟩) hS0 ?_
    refine wpAnyH_take (i := 13) (v := .int .u32 x) rfl (by kernel_rfl) (by kernel_rfl) (by kernel_rfl) (fun _ _ _ h => h) (Or.inl ⟨by rfl, fun W3 hS => by obtain ⟨hS1, hS2⟩ := hS; go_simp⟩) hS0 ?_
    refine wpAnyH_all (rs := [14]) (by kernel_rfl) (by simp) ?_
    intro i hi
    obtain rfl : i = 14 := by simpa using hi
    refine wpOp_intro rfl (fun K hK => ?_)
    clear hi
    go_simp
    refine hct.mono ?_
    rintro e W4 ⟨row', c, rfl, q1, q2, q3, q4, q5, q6⟩
    have q1' := q1
    have hS1 : W4.cell? ⟨w.heap.size, 0, none⟩ = some (.slice b1 B.length d1) ∧ W4.cell? ⟨s, 0, none⟩ = some (.slice (some ⟨g, 0, none⟩) N N) := by
      refine ⟨?_, ?_⟩
      · exact (World.cell?_of_block (w := W2.drew) (q6.block _ g1.lt (by simp; omega))).trans r1
      · exact (World.cell?_of_block (w := W2.drew) (q6.block _ g2.lt (by simp; omega))).trans r2
    refine hK _ _ ⟨hS1, ?_⟩
    clear hK K hct hS0
    refine wpAnyH_take (i := 15) (v := .pointer (some ⟨g, k + B.length, none⟩)) rfl (by kernel_rfl) (by kernel_rfl) (by kernel_rfl) (fun _ _ _ h => h) (Or.inl ⟨by rfl, fun W3 hS => by obtain ⟨hS1, hS2⟩ := hS; go_simp⟩) hS1 ?_
    have hpl := HPL.out
    have hdr : p.drop (k + B.length) = p.getD (k + B.length) 0 :: p.drop (k + B.length + 1) := by
      rw [List.drop_eq_getElem_cons (by omega), List.getD_eq_getElem?_getD, List.getElem?_eq_getElem (by omega)]; rfl
    have q7 : Blk W4 g [] (p.take k ++ row' ++ p.drop (k + B.length)) [] := Blk.split.2 q1
    have hkl : (p.take k).length = k := by rw [List.length_take]; omega
    have r5 := q7.cell (o := 0) rfl (k + B.length) (by simp; omega)
    have r6 := q7.frozen (k + B.length)
    rw [Nat.zero_add] at r5
    refine wpAnyH_all (rs := [16]) (by kernel_rfl) (by simp) ?_
    intro i hi
    obtain rfl : i = 16 := by simpa using hi
    refine wpOp_intro rfl (fun K hK => ?_)
    clear hi
    have HDR := Lib.hid hdr
    clear hdr hpl
    obtain ⟨z, hz⟩ : ∃ z, z = (p.take k ++ row' ++ p.drop (k + B.length)).getD (k + B.length) 0 := ⟨_, rfl⟩
    rw [← hz] at r5
    clear hz
    have HKL := Lib.hid hkl
    have Q2 := Lib.hid q2
    have Q5 := Lib.hid q5
    clear hkl q2 q5
    go_simp
    refine hK _ _ ⟨?_, ?_⟩
    · clear hK K
      refine ⟨?_, ?_⟩
      · rw [World.cell?_of_block (w := W4) (Below.heap_setCell W4 ⟨g, k + B.length, none⟩ _ _ (by show w.heap.size ≠ g; omega))]; exact hS1.1
      · rw [World.cell?_of_block (w := W4) (Below.heap_setCell W4 ⟨g, k + B.length, none⟩ _ _ (by show s ≠ g; omega))]; exact hS1.2
    clear hK K
    refine wpAnyH_done (by kernel_rfl) ?_ _
    gi_wp2
    have hpl := HPL.out
    have hkl := HKL.out
    have hdr := HDR.out
    have q2 := Q2.out
    have hset : (p.take k ++ row' ++ p.drop (k + B.length)).set (k + B.length) c = p.take k ++ row' ++ [c] ++ p.drop (k + B.length + 1) := by
      rw [hdr, List.set_append_right _ _ (by simp; omega)]
      have e : k + B.length - (p.take k ++ row').length = 0 := by simp; omega
      rw [e]; simp
    have q8 := q7.set (o := 0) rfl (k + B.length) c (by simp; omega)
    rw [hset, Nat.zero_add] at q8
    have e1 := val_row p k B.length row' c x (val B) (by omega) (H5.out _ (Nat.le_refl _)) q2 Q5.out
    refine ⟨(((KeepsOthers.drew W2).trans (KeepsOthers.of_grownBy q6 (fun j o ej ho => by cases ej; rw [show W2.drew.heap[g]? = _ from h1] at ho; cases ho; rfl))).trans (KeepsOthers.setCell W4 _ _)).from _,
      ⟨p.take k ++ row' ++ [c] ++ p.drop (k + B.length + 1), q8, ?_, ?_, ?_, ?_⟩, ?_, ?_, ?_, ?_⟩
    · simp only [List.length_append, List.length_singleton, List.length_drop]; have := HN.out; omega
    · exact (((h3.take k).append q3).snoc q4).append (h3.drop _)
    · rw [e1, H4.out, val_take_succ, Nat.add_mul, HX.out, Nat.mul_assoc]
    · intro j hj
      have hl3 : (p.take k ++ row' ++ [c]).length = k + B.length + 1 := by simp; omega
      rw [List.getD_eq_getElem?_getD, List.getElem?_append_right (by omega), hl3, List.getElem?_drop, show k + B.length + 1 + (j - (k + B.length + 1)) = j by omega, ← List.getD_eq_getElem?_getD]
      exact H5.out j (by omega)
    · exact boxed_row (Boxed.kept (W := W2.drew) g1 q6 (by simp; omega)) (by omega) _
    · exact boxed_row (Boxed.kept (W := W2.drew) g2 q6 (by simp; omega)) (by omega) _
    · exact boxed_row (Boxed.kept (W := W2.drew) g3 q6 (by simp; omega)) (by omega) _
    · exact (g4.drew.grown q6 (show w.heap.size ≤ W2.heap.size from g4.size) (fun j e => by cases e; omega)).setCell (p := ⟨g, k + B.length, none⟩) (show w.heap.size ≤ g by omega) _
  case done =>
    rintro D W hD ⟨⟨p, h1, h2, h3, h4, h5⟩, g1, g2, g3, g4⟩ hK
    have r2 := g2.cell
    rw [List.take_length] at h4
    have hpl : p.length = N := by have := HN.out; omega
    have hF := h1.fresh (base := w.heap.size) (cap := N) (by omega) (by simp; omega) (small_max (by omega))
    rw [hpl] at hF
    have kt := trim_fresh hF hpl.symm (by omega)
    have hR := hF.trim' hpl.symm h3
    rw [h4] at hR
    clear h4 hpl h2 hba hca hA hB hSA hSB hs hg
    go_wp2_with (go_at_call 66; refine kt.mono ?_; rintro e w' ⟨rfl, rfl⟩)
    refine ⟨by simp, .inl ⟨_, _, rfl, run_takeDeferred hK, ?_⟩⟩
    exact ⟨_, results_tmp rfl _ _ _, _, rfl, hR.left _ hK rfl, below_left _ g4 (by simp at hD; have := HS.out; omega) hK rfl⟩
  case stop =>
    rintro D c W _ h _
    exact h.elim

end Go.Proofs.YtmbnojkciikobaaGreatDoor
