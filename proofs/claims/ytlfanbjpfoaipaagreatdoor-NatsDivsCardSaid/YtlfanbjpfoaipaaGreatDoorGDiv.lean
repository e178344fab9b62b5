/- Bits moved up, as the program does it, into one part more. How often a number goes into another one: the ways without great divisors. -/
import Derived.Test.YtlfanbjpfoaipaaGreatDoorGCmp
import Derived.Test.YtlfanbjpfoaipaaGreatDoorGMathG
import Derived.Test.YtlfanbjpfoaipaaGreatDoorGPart
namespace Go.Proofs.YtlfanbjpfoaipaaGreatDoor
open Go Go.Proofs Go.RowKit Go.Shelf Nu

attribute [local go_sem] Oper.semAt_some

/-- what holds between two rounds of moveUp's loop -/
def UpInv (w : World) (s : Nat) (A : List Nat) (sh : Nat) (va : Value) (k : Nat) (W : World) : Prop :=
  (∃ (v : Value) (c : Nat) (out : List Nat), Boxed W s 23 v ∧ Boxed W (s + 1) 78 (.int .u64 c) ∧ Fresh W (w.heap.size + 1) v out ∧ out.length = k ∧ Sm out ∧ c < 2 ^ sh ∧
    val out + 4294967296 ^ k * c = val (A.take k) * 2 ^ sh) ∧
  Boxed W w.heap.size 83 (.int .u64 sh) ∧ Boxed W (s + 1 + 1) 23 va ∧ Below w.heap.size w W ∧ w.heap.size + 1 ≤ W.heap.size

theorem up_or {x c sh : Nat} (hx : x < 4294967296) (hs : sh ≤ 31) (hc : c < 2 ^ sh) :
    ∃ M O : Nat, IntKind.u64.wrap ((x : Int) * 2 ^ sh) = (M : Int) ∧ bits BinOp.or IntKind.u64 (c : Int) (M : Int) = (O : Int) ∧ O = c + x * 2 ^ sh ∧ O < 9223372036854775808 ∧ O / 4294967296 < 2 ^ sh := by
  obtain ⟨h1, h2⟩ := up_bound hc hx (pow31 hs)
  have e := or_side' x c sh hc (by rw [Nat.mul_comm]; omega)
  refine ⟨2 ^ sh * x, 2 ^ sh * x + c, ?_, e, by rw [Nat.mul_comm]; omega, by rw [Nat.mul_comm]; omega, by rw [Nat.mul_comm, Nat.add_comm]; exact h2⟩
  have e2 : (x : Int) * 2 ^ sh = ((2 ^ sh * x : Nat) : Int) := by push_cast; rw [Int.mul_comm]
  rw [e2]
  exact w64_of _ (by rw [Nat.mul_comm]; omega)

set_option maxRecDepth 100000 in
set_option maxHeartbeats 4000000 in
theorem moveUp_any {w : World} {va : Value} {A : List Nat} {sh : Nat} (hA : Reads w va A) (hlA : A.length ≤ 100000) (hSA : Sm A) (hsh : sh ≤ 31) :
    Calls Tryz.prog 203 #[va, .int .u64 sh] w fun e w' => ∃ (v : Value) (l : List Nat), e = .returned v ∧ Fresh w' w.heap.size v l ∧ l.length = A.length + 1 ∧ Sm l ∧ val l = val A * 2 ^ sh ∧ Below w.heap.size w w' := by
  obtain ⟨i0, hi, hz0, hz1, hz2⟩ := info_parts info_u32
  obtain ⟨a1, c1, rfl⟩ := hA.form
  obtain ⟨bb, ob, hbb, hcb⟩ := hA.addr
  refine (callsIn_wide (n := 0)).1 ?_
  refine callsIn_of_wp_marks Tryz.func203 rfl trivial ?_ rfl
  simp only [Tryz.ntmps203, List.size_toArray, List.length_cons, List.length_nil, Nat.reduceAdd, Nat.reduceSub, Array.replicate_succ, Array.replicate_zero, List.push_toArray, List.append_toArray, List.nil_append, List.cons_append]
  refine wpIn_wide.2 ?_
  obtain ⟨N, hN⟩ : ∃ N, N = A.length := ⟨_, rfl⟩
  have HN := Lib.hid hN
  rw [← hN] at hA hbb hcb hlA ⊢
  clear hN
  obtain ⟨N1, hN1⟩ : ∃ N1, N1 = N + 1 := ⟨_, rfl⟩
  have HN1 := Lib.hid hN1
  have hN1l : N1 ≤ 100001 := by omega
  clear hN1
  go_wp2_with (first
    | (at_make; go_loud (refine wpList_make_own _ rfl _ _ 23 rfl (w.heap.size + 1) 71 i0 (.int .u32 0) 1 Tryz.underlying23 hi hz0 hz1 .i64 .i64 _ N1 rfl rfl (by have := HN1.out; omega) (by rw [hz2]; omega) (by unfold maxLen; omega) (by simp) ?_); intro w1 hown1 hgrow1)
    | (go_at_call 213; refine (all_any _ _ _ _).mono ?_; rintro e w' ⟨rfl, rfl⟩))
  have hs1 : w.heap.size + 1 ≤ w1.heap.size := by have := hgrow1.size; simp at this; omega
  refine (wpIn_wide (n := 0)).1 ?_
  refine wp_rangeAt (gf := 228) rfl (enters_of Tryz.func228 (by kernel_rfl) rfl)
    (all_iter N bb ob c1 (w1.heap.size + 1 + 1) a1 (fun j => A.getD j 0) (by omega) (fun h => (hbb (by have := HN.out; omega)).1)) (fun _ => rfl)
    (UpInv w w1.heap.size A sh (.slice a1 N c1)) (fun _ _ => False) ?own (fun _ _ _ _ h _ _ => h) ?reads ?start ?round ?done ?stop
  case own =>
    rintro k W W' row ⟨⟨v, c, out, h1, h2, h3, h4⟩, g1, g2, g5, g6⟩ hg hr
    exact ⟨⟨v, c, out, keepBox h1 hg hr, keepBox h2 hg hr, keepFresh h3 hg hr, h4⟩, keepBox g1 hg hr, keepBox g2 hg hr, keepBelow g5 (Nat.le_refl _) (by simp; omega) hg hr, Nat.le_trans g6 hg.size⟩
  case reads =>
    rintro k W ⟨_, g1, g2, g5, g6⟩
    refine ⟨g2.cell, fun hk => ?_⟩
    have hn := HN.out
    exact (g5.cell (p := ⟨bb, ob + k, none⟩) (hbb (by omega)).2).trans (hcb k (by omega))
  case start =>
    have hbel1 : Below (w.heap.size + 1) (w.alloc (.cells #[.int .u64 sh] 83)) w1 := (Below.refl _ _).grown hgrow1 (by simp) (fun _ e => by cases e)
    have hb0 : Below w.heap.size w (w.alloc (.cells #[.int .u64 sh] 83)) := (Below.refl _ w).alloc (Nat.le_refl _) _
    have hF0 : Fresh w1 (w.heap.size + 1) (.slice (some ⟨w.heap.size + 1, 0, none⟩) 0 N1) [] := by unfold Fresh; simpa using hown1
    have hT : Boxed w1 w.heap.size 83 (.int .u64 sh) := (hbel1.block _ (by omega)).trans (Boxed.new w _ _)
    refine ⟨⟨_, 0, [], ((Boxed.new w1 _ _).alloc _).alloc _, (boxed_new1 w1 _ _ _).alloc _, ((hF0.alloc _).alloc _).alloc _, rfl, Sm.nil, two_pos sh, by simp [val]⟩, ((hT.alloc _).alloc _).alloc _, boxed_new2 w1 _ _ _ _, ?_, by simp; omega⟩
    exact (((hb0.trans (hbel1.mono (by omega))).alloc (by omega) _).alloc (by simp; omega) _).alloc (by simp; omega) _
  case round =>
    intro l k W hk
    have hx := hSA.getD k
    obtain ⟨x, hxe⟩ : ∃ x, x = A.getD k 0 := ⟨_, rfl⟩
    dsimp only
    rw [← hxe]
    rw [← hxe] at hx
    have HX := Lib.hid hxe
    clear hxe hA hSA hbb hcb
    gi_wp2
    refine NextRound.mk ?_
    rintro W2 ⟨⟨v, c, out, hv, hcb, hrow, hlen, hsm, hc1, hval⟩, hbt, hba, hbel, hbS⟩
    obtain ⟨M, O, hM, hO, hOe, hO2, hO3⟩ := up_or hx hsh hc1
    have HVAL := Lib.hid hval
    have HLEN := Lib.hid hlen
    have HO := Lib.hid hOe
    have HO3 := Lib.hid hO3
    have hlen' : out.length ≤ 100000 := by omega
    have hc := hv.cell
    have hf := hv.frozen
    have hcc := hcb.cell
    have hcf := hcb.frozen
    have hbc := hbt.cell
    clear hval hlen hc1 hOe hO3
    gi_wp2_with (gi_at_builtin; refine wpListIn_append_own _ rfl _ _ 23 rfl (w.heap.size + 1) 71 i0 (.int .u32 0) 1 4 Tryz.underlying23 hi hz0 hz1 hz2 rfl (by decide) _ _ _ rfl ((hrow.box hcb (by decide) _).alloc _) ⟨W2.heap.size, 0, none⟩ 1 1 [_] rfl rfl (one_new _ _ _ _ (by simp)) (by simp [Value.oneCell']) (small_max (by omega)) (by omega) (by simp; omega) ?_; intro v' w3 hown' hgrow _; obtain ⟨g', cap', rfl⟩ := ownsRow_succ hown'; obtain ⟨hF, hKO, hBl, hBx, -⟩ := fresh_append (O % 4294967296) (hrow.box hcb (by decide) _) (by simp; omega) hown' hgrow (by omega); have hv3 := hBx _ _ _ (by decide) (hv.other (by omega) _); have hcb3 := hBx _ _ _ (by decide) (hcb.set _); have hbt3 := hBx _ _ _ (by decide) (hbt.other (by omega) _); have hba3 := hBx _ _ _ (by decide) (hba.other (by omega) _); have hc1' := hv3.cell; have hf1' := hv3.frozen; have hcc3 := hcb3.cell; have hcf3 := hcb3.frozen; clear hBx hown' hgrow)
    refine ⟨(((KeepsOthers.setCell W2 _ _).trans hKO).trans ((KeepsOthers.setCell w3 _ _).trans (KeepsOthers.setCell _ _ _))).from _,
      ⟨_, O / 4294967296, out ++ [O % 4294967296], (hv3.set _).other (by omega) _, ?_, (hF.box hv3 (by decide) _).box (hcb3.other (by omega) _) (by decide) _, by simp [HLEN.out], hsm.snoc (by omega), HO3.out, ?_⟩,
      (hbt3.other (by omega) _).other (by omega) _, (hba3.other (by omega) _).other (by omega) _, ?_, ?_⟩
    · rw [show ((O / 4294967296 : Nat) : Int) = (O : Int) / 4294967296 by omega]
      exact (hcb3.other (by omega) _).set _
    · rw [HO.out, HX.out]
      exact up_step HLEN.out HVAL.out
    · exact (((hbel.setCell (p := ⟨w1.heap.size + 1, 0, none⟩) (by simp; omega) _).trans (hBl.mono (by omega))).setCell (p := ⟨w1.heap.size, 0, none⟩) (by simp; omega) _).setCell (p := ⟨w1.heap.size + 1, 0, none⟩) (by simp; omega) _
    · have := hBl.size; simp at this ⊢; omega
  case done =>
    rintro D W hD ⟨⟨v, c, out, hv, hcb, hrow, hlen, hsm, hc1, hval⟩, hbt, hba, hbel, hbS⟩ hK
    have hn := HN.out
    have hlen' : out.length ≤ 100000 := by omega
    rw [List.take_of_length_le (by omega)] at hval
    have hcB : c < 4294967296 := Nat.lt_of_lt_of_le hc1 (Nat.le_trans (pow31 hsh) (by decide))
    have HVAL := Lib.hid hval
    have HLEN := Lib.hid hlen
    have hc := hv.cell
    have hf := hv.frozen
    have hcc := hcb.cell
    clear hval hlen hA hSA hba hbb hcb hc1 hn
    go_wp2_with (at_builtin; refine wpList_append_own _ rfl _ _ 23 rfl (w.heap.size + 1) 71 i0 (.int .u32 0) 1 4 Tryz.underlying23 hi hz0 hz1 hz2 rfl (by decide) _ _ _ rfl (World.ownsRow.alloc hrow _) ⟨W.heap.size, 0, none⟩ 1 1 [_] rfl rfl (one_new _ _ _ _ (by simp)) (by simp [Value.oneCell']) (small_max (by omega)) (by omega) (by simp; omega) ?_; intro v' w3 hown' hgrow _; obtain ⟨g', cap', rfl⟩ := ownsRow_succ hown'; obtain ⟨hF, hKO, hBl, hBx, hNo⟩ := fresh_append (c % 4294967296) hrow hbS hown' hgrow (by omega); have hK3 := hNo D _ hK rfl; clear hBx hown' hgrow hNo)
    refine ⟨by simp, .inl ⟨_, _, rfl, run_takeDeferred hK3, ?_⟩⟩
    refine ⟨_, results_tmp rfl _ _ _, _, out ++ [c % 4294967296], rfl, (hF.mono (by omega)).left _ hK3 rfl, by simp [HLEN.out], hsm.snoc (by omega), ?_, below_left _ (hbel.trans (hBl.mono (by omega))) (by simp at hD; omega) hK3 rfl⟩
    rw [val_snoc, HLEN.out, Nat.mod_eq_of_lt hcB]; exact HVAL.out
  case stop =>
    rintro D c W _ h _
    exact h.elim

end Go.Proofs.YtlfanbjpfoaipaaGreatDoor

namespace Go.Proofs.YtlfanbjpfoaipaaGreatDoor
open Go Go.Proofs Go.RowKit Go.Shelf Nu

theorem digs_self {l : List Nat} (hs : Sm l) (hc : chk l = true) : digs (val l) = l := digs_val hs hc

set_option maxHeartbeats 1000000 in
theorem divide_less {w : World} {va vb : Value} {la lb : List Nat} (ha : Reads w va la) (hb : Reads w vb lb) (hla : la.length ≤ 100000) (hlb : lb.length ≤ 100000) (hsa : Sm la) (hsb : Sm lb) (hca : chk la = true) (hcb : chk lb = true) (h : val la < val lb) :
    Calls Tryz.prog 52 #[va, vb] w fun e w' => ∃ v', e = .returned (.tuple #[.slice none 0 0, v']) ∧ Fresh w' w.heap.size v' la ∧ Below w.heap.size w w' := by
  have kc := cmp_any ha hb hla hlb hsa hsb
  rw [nv_chk hca, nv_chk hcb, show sgn (val la) (val lb) = -1 by simp [sgn, h]] at kc
  have ha' := ha
  obtain ⟨a1, c1, rfl⟩ := ha.form
  obtain ⟨b1, d1, rfl⟩ := hb.form
  clear ha hb h
  go_enter Tryz.func52, Tryz.ntmps52
  go_wp2_with (first
    | (go_at_call 54; refine kc.mono ?_; rintro e w1 ⟨rfl, hb1⟩)
    | (go_at_call 57; refine (clone_any (ha'.below hb1) (by omega)).mono ?_; rintro e w2 ⟨v', rfl, hF, hb2⟩; obtain ⟨ta, tc, v2, rfl, hR, kt⟩ := trim_any hF (by omega) hsa; rw [digs_self hsa hca] at hR)
    | (go_at_call 56; refine kt.mono ?_; rintro e w' ⟨rfl, rfl⟩))
  go_ret2
  exact ⟨v2, rfl, hR.mono hb1.size, hb1.trans (hb2.mono hb1.size)⟩

set_option maxHeartbeats 2000000 in
theorem divide_one_own {w : World} {va vb : Value} {la : List Nat} {d : Nat} (ha : Reads w va la) (hb : Reads w vb [d]) (hla : la.length ≤ 100000) (hsa : Sm la) (hca : chk la = true) (hd : 0 < d) (hd2 : d < 4294967296) (h : d ≤ val la) :
    Calls Tryz.prog 52 #[va, vb] w fun e w' => ∃ v1 v2, e = .returned (.tuple #[v1, v2]) ∧ Fresh w' w.heap.size v1 (digs (val la / d)) ∧ Fresh w' w.heap.size v2 (digs (val la % d)) ∧ Below w.heap.size w w' ∧ Two v1 v2 := by
  have kc := cmp_any ha hb hla (by simp) hsa (Sm.cons hd2 Sm.nil)
  have hcd : chk [d] = true := by simp [chk]; omega
  have hz : ((sgn (val la) d) < 0) = False := by simp [sgn]; split <;> (try split) <;> omega
  rw [nv_chk hca, nv_chk hcd, val_one] at kc
  obtain ⟨z, hz1⟩ : ∃ z, z = sgn (val la) d := ⟨_, rfl⟩
  rw [← hz1] at kc hz
  have hz2 : ¬ z < 0 := by rw [hz]; exact not_false
  have ha' := ha
  have hb' := hb
  obtain ⟨a1, c1, rfl⟩ := ha.form
  obtain ⟨bb, ob, cb, rfl, hbb, hcb, hcell⟩ : ∃ b off cap, vb = .slice (some ⟨b, off, none⟩) 1 cap ∧ b < w.heap.size ∧ 1 ≤ cap ∧ w.cell? ⟨b, off, none⟩ = some (.int .u32 d) := by
    rcases hb with ⟨_, h⟩ | ⟨b, off, cap, e, h1, h2, h3⟩ | ⟨_, _, h⟩
    rotate_right
    · cases h
    · cases h
    · exact ⟨b, off, cap, e, h1, h2, by simpa using h3 0 (by simp)⟩
  have hne : la ≠ [] := by rintro rfl; simp [val] at h; omega
  clear ha hb hz hz1
  go_enter Tryz.func52, Tryz.ntmps52
  go_wp2_with (go_at_call 54; refine kc.mono ?_; rintro e w1 ⟨rfl, hb1⟩)
  refine wp_region_held (S := fun W => W.cell? ⟨bb, ob, none⟩ = some (.int .u32 d)) (by kernel_rfl) ?_
  change wpAnyH _ _ _ _ _ _ _ _ w1.drew
  have hS0 : w1.drew.cell? ⟨bb, ob, none⟩ = some (.int .u32 d) := (hb1.cell (p := ⟨bb, ob, none⟩) hbb).trans hcell
  refine wpAnyH_take (i := 0) (v := .slice a1 la.length c1) rfl (by kernel_rfl) (by kernel_rfl) (by kernel_rfl) (fun _ _ _ h => h) (Or.inl ⟨by rfl, fun W3 hS => by go_simp⟩) hS0 ?_
  refine wpAnyH_take (i := 2) (v := .slice (some ⟨bb, ob, none⟩) 1 cb) rfl (by kernel_rfl) (by kernel_rfl) (by kernel_rfl) (fun _ _ _ h => h) (Or.inl ⟨by rfl, fun W3 hS => by go_simp⟩) hS0 ?_
  refine wpAnyH_take (i := 3) (v := .pointer (some ⟨bb, ob, none⟩)) rfl (by kernel_rfl) (by kernel_rfl) (by kernel_rfl) (fun _ _ _ h => h) (Or.inl ⟨by rfl, fun W3 hS => by go_simp⟩) hS0 ?_
  refine wpAnyH_take (i := 4) (v := .int .u32 d) rfl (by kernel_rfl) (by kernel_rfl) (by kernel_rfl) (fun _ _ _ h => h) (Or.inl ⟨by rfl, fun W3 hS => by go_simp⟩) hS0 ?_
  refine wpAnyH_all (rs := [1]) (by kernel_rfl) (by simp) ?_
  intro i hi
  obtain rfl : i = 1 := by simpa using hi
  refine wpOp_intro rfl (fun K hK => ?_)
  clear hi
  go_simp
  refine (clone_any (w := w1.drew) (ha'.below hb1.drew) (by omega)).mono ?_
  rintro e w2 ⟨v', rfl, hF, hb2⟩
  have hw2 : w1.heap.size ≤ w2.heap.size := hb2.size
  have hww : w.heap.size ≤ w1.heap.size := hb1.size
  obtain ⟨g, cap, rfl, hg⟩ : ∃ g cap, v' = .slice (some ⟨g, 0, none⟩) la.length cap ∧ w1.heap.size ≤ g := by
    rcases hF.form with ⟨_, h⟩ | ⟨g, cap, e, h, _⟩
    · exact absurd h hne
    · exact ⟨g, cap, e, h⟩
  have hS1 : w2.cell? ⟨bb, ob, none⟩ = some (.int .u32 d) := (hb2.cell (p := ⟨bb, ob, none⟩) (show bb < w1.heap.size by omega)).trans hS0
  refine hK _ _ ⟨hS1, ?_⟩
  clear hK K
  refine wpAnyH_all (rs := [5]) (by kernel_rfl) (by simp) ?_
  intro i hi
  obtain rfl : i = 5 := by simpa using hi
  refine wpOp_intro rfl (fun K hK => ?_)
  clear hi
  go_simp
  refine (divPart_some (w := w2) (base := w1.heap.size) hF hla hsa hd hd2).mono ?_
  rintro e w3 ⟨v1, rfl, hR, hb3⟩
  have hw3 : w1.heap.size ≤ w3.heap.size := by have := hb3.size; omega
  have hS2 : w3.cell? ⟨bb, ob, none⟩ = some (.int .u32 d) := (hb3.cell (p := ⟨bb, ob, none⟩) (show bb < w1.heap.size by omega)).trans hS1
  refine hK _ _ ⟨hS2, ?_⟩
  clear hK K
  obtain ⟨r, hr⟩ : ∃ r, r = val la % d := ⟨_, rfl⟩
  rw [← hr]
  have hrb : r < 4294967296 := by have := Nat.mod_lt (val la) hd; omega
  have HR := Lib.hid hr
  clear hr
  refine wpAnyH_take (i := 6) (v := .tuple #[v1, .int .u32 r]) rfl (by kernel_rfl) (by kernel_rfl) (by kernel_rfl) (fun _ _ _ h => h) (Or.inl ⟨by rfl, fun W3 hS => by go_simp⟩) hS2 ?_
  refine wpAnyH_take (i := 7) (v := v1) rfl (by kernel_rfl) (by kernel_rfl) (by kernel_rfl) (fun _ _ _ h => h) (Or.inl ⟨by rfl, fun W3 hS => by go_simp⟩) hS2 ?_
  refine wpAnyH_take (i := 8) (v := .int .u32 r) rfl (by kernel_rfl) (by kernel_rfl) (by kernel_rfl) (fun _ _ _ h => h) (Or.inl ⟨by rfl, fun W3 hS => by go_simp⟩) hS2 ?_
  refine wpAnyH_take (i := 9) (v := v1) rfl (by kernel_rfl) (by kernel_rfl) (by kernel_rfl) (fun _ _ _ h => h) (Or.inl ⟨by rfl, fun W3 hS => by go_simp⟩) hS2 ?_
  refine wpAnyH_take (i := 10) (v := .int .u32 r) rfl (by kernel_rfl) (by kernel_rfl) (by kernel_rfl) (fun _ _ _ h => h) (Or.inl ⟨by rfl, fun W3 hS => by go_simp⟩) hS2 ?_
  refine wpAnyH_done (by kernel_rfl) ?_ _
  go_wp2_with (go_at_call 58; refine (of_any r (by omega) _).mono ?_; rintro e w4 ⟨v2, rfl, hR2, hb4⟩)
  go_ret2
  have hw4 : w3.heap.size ≤ w4.heap.size := hb4.size
  refine ⟨v1, v2, rfl, (hR.below hb4).mono hww, ?_, ?_, ?_⟩
  · rw [← HR.out]; exact hR2.mono (by omega)
  · exact ((hb1.drew.trans (hb2.mono hww)).trans (hb3.mono hww)).trans (hb4.mono (by omega))
  · cases e1 : v1.ownBlock with
    | none => exact .inl e1
    | some g1 =>
      refine .inr (fun e2 => ?_)
      rw [e1] at e2
      have h1 := World.ownsRow.lt hR g1 e1
      have h2 := World.ownsRow.lt hR2 g1 e2.symm
      omega
theorem divide_one {w : World} {va vb : Value} {la : List Nat} {d : Nat} (ha : Reads w va la) (hb : Reads w vb [d]) (hla : la.length ≤ 100000) (hsa : Sm la) (hca : chk la = true) (hd : 0 < d) (hd2 : d < 4294967296) (h : d ≤ val la) :
    Calls Tryz.prog 52 #[va, vb] w fun e w' => ∃ v1 v2, e = .returned (.tuple #[v1, v2]) ∧ Fresh w' w.heap.size v1 (digs (val la / d)) ∧ Fresh w' w.heap.size v2 (digs (val la % d)) ∧ Below w.heap.size w w' :=
  (divide_one_own ha hb hla hsa hca hd hd2 h).mono fun _ _ ⟨v1, v2, e, f, g, b, _⟩ => ⟨v1, v2, e, f, g, b⟩

/-- what Div answers where it refuses -/
def divNo (e : Int) : Value := .tuple #[.slice none 0 0, .slice none 0 0, .int .i64 e]
set_option maxHeartbeats 1000000 in
theorem div_bad {w : World} {va vb : Value} {la lb : List Nat} (ha : Reads w va la) (hb : Reads w vb lb) (hla : la.length ≤ 1000000) (hlb : lb.length ≤ 1000000) (h : chk la = false ∨ chk lb = false) :
    Calls Tryz.prog 8 #[va, vb] w fun e w' => e = .returned (divNo 1) ∧ w' = w := by
  have k1 := check_any ha hla
  have k2 := check_any hb hlb
  obtain ⟨a1, c1, rfl⟩ := ha.form
  obtain ⟨b1, d1, rfl⟩ := hb.form
  clear ha hb
  cases hc : chk la with
  | false =>
    rw [hc] at k1
    go_enter Tryz.func8, Tryz.ntmps8
    go_wp2_with (go_at_call 51; refine k1.mono ?_; rintro e w' ⟨rfl, rfl⟩)
    go_ret3
    exact ⟨rfl, rfl⟩
  | true =>
    have hd : chk lb = false := by rcases h with h | h; rw [hc] at h; cases h; exact h
    rw [hc] at k1
    rw [hd] at k2
    go_enter Tryz.func8, Tryz.ntmps8
    go_wp2_with (first
      | (go_at_call 51; with_reducible refine k1.mono ?_; clear k1; rintro e w' ⟨rfl, rfl⟩)
      | (go_at_call 51; with_reducible refine k2.mono ?_; clear k2; rintro e w' ⟨rfl, rfl⟩))
    go_ret3
    exact ⟨rfl, rfl⟩
set_option maxHeartbeats 1000000 in
theorem div_zero {w : World} {va vb : Value} {la : List Nat} (ha : Reads w va la) (hb : Reads w vb []) (hla : la.length ≤ 1000000) (h : chk la = true) :
    Calls Tryz.prog 8 #[va, vb] w fun e w' => e = .returned (divNo 10) ∧ w' = w := by
  have k1 := check_any ha hla
  have k2 := check_any hb (by simp)
  obtain ⟨a1, c1, rfl⟩ := ha.form
  obtain ⟨b1, d1, rfl⟩ := hb.form
  clear ha hb
  rw [h] at k1
  rw [show chk [] = true from rfl] at k2
  rw [List.length_nil] at k2 ⊢
  go_enter Tryz.func8, Tryz.ntmps8
  go_wp2_with (first
    | (go_at_call 51; with_reducible refine k1.mono ?_; clear k1; rintro e w' ⟨rfl, rfl⟩)
    | (go_at_call 51; with_reducible refine k2.mono ?_; clear k2; rintro e w' ⟨rfl, rfl⟩))
  go_ret3
  exact ⟨rfl, rfl⟩
/-- Div, out of divide's contract -/
theorem div_of {w : World} {va vb : Value} {la lb : List Nat} {q r : List Nat} (ha : Reads w va la) (hb : Reads w vb lb) (hla : la.length ≤ 1000000) (hlb : lb.length ≤ 1000000) (hca : chk la = true) (hcb : chk lb = true) (h0 : lb ≠ [])
    (kd : Calls Tryz.prog 52 #[va, vb] w fun e w' => ∃ v1 v2, e = .returned (.tuple #[v1, v2]) ∧ Fresh w' w.heap.size v1 q ∧ Fresh w' w.heap.size v2 r ∧ Below w.heap.size w w') :
    Calls Tryz.prog 8 #[va, vb] w fun e w' => ∃ v1 v2, e = .returned (.tuple #[v1, v2, .int .i64 0]) ∧ Fresh w' w.heap.size v1 q ∧ Fresh w' w.heap.size v2 r ∧ Below w.heap.size w w' := by
  have k1 := check_any ha hla
  have k2 := check_any hb hlb
  obtain ⟨a1, c1, rfl⟩ := ha.form
  obtain ⟨b1, d1, rfl⟩ := hb.form
  have hn : 0 < lb.length := by
    rcases Nat.eq_zero_or_pos lb.length with h | h
    · exact absurd (List.eq_nil_of_length_eq_zero h) h0
    · exact h
  clear ha hb h0
  rw [hca] at k1
  rw [hcb] at k2
  go_enter Tryz.func8, Tryz.ntmps8
  go_wp2_with (first
    | (go_at_call 51; with_reducible refine k1.mono ?_; clear k1; rintro e w' ⟨rfl, rfl⟩)
    | (go_at_call 51; with_reducible refine k2.mono ?_; clear k2; rintro e w' ⟨rfl, rfl⟩)
    | (go_at_call 52; refine kd.mono ?_; rintro e w' ⟨v1, v2, rfl, hq, hr, hbl⟩))
  go_ret3
  exact ⟨v1, v2, rfl, hq, hr, hbl⟩

end Go.Proofs.YtlfanbjpfoaipaaGreatDoor
