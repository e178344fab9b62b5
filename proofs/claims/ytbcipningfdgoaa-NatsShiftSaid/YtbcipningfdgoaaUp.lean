/- Bits moved up, as the program does it, into one part more. -/
import Derived.Test.YtbcipningfdgoaaKeep
import Derived.Test.YtbcipningfdgoaaBits
import Derived.Test.YtbcipningfdgoaaMathU
namespace Go.Proofs.Ytbcipningfdgoaa
open Go Go.Proofs Go.RowKit Go.Shelf Nu

attribute [local go_sem] Oper.semAt_some

/-- what holds between two rounds of moveUp's loop -/
def UpInv (w : World) (s : Nat) (A : List Nat) (sh : Nat) (va : Value) (k : Nat) (W : World) : Prop :=
  (∃ (v : Value) (c : Nat) (out : List Nat), Boxed W s 23 v ∧ Boxed W (s + 1) 42 (.int .u64 c) ∧ Fresh W (w.heap.size + 1) v out ∧ out.length = k ∧ Sm out ∧ c < 2 ^ sh ∧
    val out + 4294967296 ^ k * c = val (A.take k) * 2 ^ sh) ∧
  Boxed W w.heap.size 46 (.int .u64 sh) ∧ Boxed W (s + 1 + 1) 23 va ∧ Below w.heap.size w W ∧ w.heap.size + 1 ≤ W.heap.size

theorem up_or {x c sh : Nat} (hx : x < 4294967296) (hs : sh ≤ 31) (hc : c < 2 ^ sh) :
    ∃ M O : Nat, IntKind.u64.wrap ((x : Int) * 2 ^ sh) = (M : Int) ∧ bits BinOp.or IntKind.u64 (c : Int) (M : Int) = (O : Int) ∧ O = c + x * 2 ^ sh ∧ O < 9223372036854775808 ∧ O / 4294967296 < 2 ^ sh := by
  obtain ⟨h1, h2⟩ := up_bound hc hx (pow31 hs)
  have e := or_side' x c sh hc (by rw [Nat.mul_comm]; omega)
  refine ⟨2 ^ sh * x, 2 ^ sh * x + c, ?_, e, by rw [Nat.mul_comm]; omega, by rw [Nat.mul_comm]; omega, by rw [Nat.mul_comm, Nat.add_comm]; exact h2⟩
  have e2 : (x : Int) * 2 ^ sh = ((2 ^ sh * x : Nat) : Int) := by push_cast; rw [Int.mul_comm]
  rw [e2]
  exact w64_of _ (by rw [Nat.mul_comm]; omega)

set_option maxRecDepth 100000 in
set_option maxHeartbeats 4000000 in
theorem moveUp_any {w : World} {va : Value} {A : List Nat} {sh : Nat} (hA : Reads w va A) (hlA : A.length ≤ 100000) (hSA : Sm A) (hsh : sh ≤ 31) :
    Calls Try.prog 57 #[va, .int .u64 sh] w fun e w' => ∃ (v : Value) (l : List Nat), e = .returned v ∧ Fresh w' w.heap.size v l ∧ l.length = A.length + 1 ∧ Sm l ∧ val l = val A * 2 ^ sh ∧ Below w.heap.size w w' := by
  obtain ⟨i0, hi, hz0, hz1, hz2⟩ := info_parts info_u32
  obtain ⟨a1, c1, rfl⟩ := hA.form
  obtain ⟨bb, ob, hbb, hcb⟩ := hA.addr
  refine (callsIn_wide (n := 0)).1 ?_
  refine callsIn_of_wp_marks Try.func57 rfl trivial ?_ rfl
  simp only [Try.ntmps57, List.size_toArray, List.length_cons, List.length_nil, Nat.reduceAdd, Nat.reduceSub, Array.replicate_succ, Array.replicate_zero, List.push_toArray, List.append_toArray, List.nil_append, List.cons_append]
  refine wpIn_wide.2 ?_
  obtain ⟨N, hN⟩ : ∃ N, N = A.length := ⟨_, rfl⟩
  have HN := Lib.hid hN
  rw [← hN] at hA hbb hcb hlA ⊢
  clear hN
  obtain ⟨N1, hN1⟩ : ∃ N1, N1 = N + 1 := ⟨_, rfl⟩
  have HN1 := Lib.hid hN1
  have hN1l : N1 ≤ 100001 := by omega
  clear hN1
  go_wp2_with (first
    | (at_make; go_loud (refine wpList_make_own _ rfl _ _ 23 rfl (w.heap.size + 1) 37 i0 (.int .u32 0) 1 Try.underlying23 hi hz0 hz1 .i64 .i64 _ N1 rfl rfl (by have := HN1.out; omega) (by rw [hz2]; omega) (by unfold maxLen; omega) (by simp) ?_); intro w1 hown1 hgrow1)
    | (go_at_call 30; refine (all_any _ _ _ _).mono ?_; rintro e w' ⟨rfl, rfl⟩))
  have hs1 : w.heap.size + 1 ≤ w1.heap.size := by have := hgrow1.size; simp at this; omega
  refine (wpIn_wide (n := 0)).1 ?_
  refine wp_rangeAt (gf := 47) rfl (enters_of Try.func47 (by kernel_rfl) rfl)
    (all_iter N bb ob c1 (w1.heap.size + 1 + 1) a1 (fun j => A.getD j 0) (by omega) (fun h => (hbb (by have := HN.out; omega)).1)) (fun _ => rfl)
    (UpInv w w1.heap.size A sh (.slice a1 N c1)) (fun _ _ => False) ?own (fun _ _ _ _ h _ _ => h) ?reads ?start ?round ?done ?stop
  case own =>
    rintro k W W' row ⟨⟨v, c, out, h1, h2, h3, h4⟩, g1, g2, g5, g6⟩ hg hr
    exact ⟨⟨v, c, out, keepBox h1 hg hr, keepBox h2 hg hr, keepFresh h3 hg hr, h4⟩, keepBox g1 hg hr, keepBox g2 hg hr, keepBelow g5 (Nat.le_refl _) (by simp; omega) hg hr, Nat.le_trans g6 hg.size⟩
  case reads =>
    rintro k W ⟨_, g1, g2, g5, g6⟩
    refine ⟨g2.cell, fun hk => ?_⟩
    have hn := HN.out
    exact (g5.cell (p := ⟨bb, ob + k, none⟩) (hbb (by omega)).2).trans (hcb k (by omega))
  case start =>
    have hbel1 : Below (w.heap.size + 1) (w.alloc (.cells #[.int .u64 sh] 46)) w1 := (Below.refl _ _).grown hgrow1 (by simp) (fun _ e => by cases e)
    have hb0 : Below w.heap.size w (w.alloc (.cells #[.int .u64 sh] 46)) := (Below.refl _ w).alloc (Nat.le_refl _) _
    have hF0 : Fresh w1 (w.heap.size + 1) (.slice (some ⟨w.heap.size + 1, 0, none⟩) 0 N1) [] := by unfold Fresh; simpa using hown1
    have hT : Boxed w1 w.heap.size 46 (.int .u64 sh) := (hbel1.block _ (by omega)).trans (Boxed.new w _ _)
    refine ⟨⟨_, 0, [], ((Boxed.new w1 _ _).alloc _).alloc _, (boxed_new1 w1 _ _ _).alloc _, ((hF0.alloc _).alloc _).alloc _, rfl, Sm.nil, two_pos sh, by simp [val]⟩, ((hT.alloc _).alloc _).alloc _, boxed_new2 w1 _ _ _ _, ?_, by simp; omega⟩
    exact (((hb0.trans (hbel1.mono (by omega))).alloc (by omega) _).alloc (by simp; omega) _).alloc (by simp; omega) _
  case round =>
    intro l k W hk
    have hx := hSA.getD k
    obtain ⟨x, hxe⟩ : ∃ x, x = A.getD k 0 := ⟨_, rfl⟩
    dsimp only
    rw [← hxe]
    rw [← hxe] at hx
    have HX := Lib.hid hxe
    clear hxe hA hSA hbb hcb
    gi_wp2
    refine NextRound.mk ?_
    rintro W2 ⟨⟨v, c, out, hv, hcb, hrow, hlen, hsm, hc1, hval⟩, hbt, hba, hbel, hbS⟩
    obtain ⟨M, O, hM, hO, hOe, hO2, hO3⟩ := up_or hx hsh hc1
    have HVAL := Lib.hid hval
    have HLEN := Lib.hid hlen
    have HO := Lib.hid hOe
    have HO3 := Lib.hid hO3
    have hlen' : out.length ≤ 100000 := by omega
    have hc := hv.cell
    have hf := hv.frozen
    have hcc := hcb.cell
    have hcf := hcb.frozen
    have hbc := hbt.cell
    clear hval hlen hc1 hOe hO3
    gi_wp2_with (gi_at_builtin; refine wpListIn_append_own _ rfl _ _ 23 rfl (w.heap.size + 1) 37 i0 (.int .u32 0) 1 4 Try.underlying23 hi hz0 hz1 hz2 rfl (by decide) _ _ _ rfl ((hrow.box hcb (by decide) _).alloc _) ⟨W2.heap.size, 0, none⟩ 1 1 [_] rfl rfl (one_new _ _ _ _ (by simp)) (by simp [Value.oneCell']) (small_max (by omega)) (by omega) (by simp; omega) ?_; intro v' w3 hown' hgrow _; obtain ⟨g', cap', rfl⟩ := ownsRow_succ hown'; obtain ⟨hF, hKO, hBl, hBx, -⟩ := fresh_append (O % 4294967296) (hrow.box hcb (by decide) _) (by simp; omega) hown' hgrow (by omega); have hv3 := hBx _ _ _ (by decide) (hv.other (by omega) _); have hcb3 := hBx _ _ _ (by decide) (hcb.set _); have hbt3 := hBx _ _ _ (by decide) (hbt.other (by omega) _); have hba3 := hBx _ _ _ (by decide) (hba.other (by omega) _); have hc1' := hv3.cell; have hf1' := hv3.frozen; have hcc3 := hcb3.cell; have hcf3 := hcb3.frozen; clear hBx hown' hgrow)
    refine ⟨(((KeepsOthers.setCell W2 _ _).trans hKO).trans ((KeepsOthers.setCell w3 _ _).trans (KeepsOthers.setCell _ _ _))).from _,
      ⟨_, O / 4294967296, out ++ [O % 4294967296], (hv3.set _).other (by omega) _, ?_, (hF.box hv3 (by decide) _).box (hcb3.other (by omega) _) (by decide) _, by simp [HLEN.out], hsm.snoc (by omega), HO3.out, ?_⟩,
      (hbt3.other (by omega) _).other (by omega) _, (hba3.other (by omega) _).other (by omega) _, ?_, ?_⟩
    · rw [show ((O / 4294967296 : Nat) : Int) = (O : Int) / 4294967296 by omega]
      exact (hcb3.other (by omega) _).set _
    · rw [HO.out, HX.out]
      exact up_step HLEN.out HVAL.out
    · exact (((hbel.setCell (p := ⟨w1.heap.size + 1, 0, none⟩) (by simp; omega) _).trans (hBl.mono (by omega))).setCell (p := ⟨w1.heap.size, 0, none⟩) (by simp; omega) _).setCell (p := ⟨w1.heap.size + 1, 0, none⟩) (by simp; omega) _
    · have := hBl.size; simp at this ⊢; omega
  case done =>
    rintro D W hD ⟨⟨v, c, out, hv, hcb, hrow, hlen, hsm, hc1, hval⟩, hbt, hba, hbel, hbS⟩ hK
    have hn := HN.out
    have hlen' : out.length ≤ 100000 := by omega
    rw [List.take_of_length_le (by omega)] at hval
    have hcB : c < 4294967296 := Nat.lt_of_lt_of_le hc1 (Nat.le_trans (pow31 hsh) (by decide))
    have HVAL := Lib.hid hval
    have HLEN := Lib.hid hlen
    have hc := hv.cell
    have hf := hv.frozen
    have hcc := hcb.cell
    clear hval hlen hA hSA hba hbb hcb hc1 hn
    go_wp2_with (at_builtin; refine wpList_append_own _ rfl _ _ 23 rfl (w.heap.size + 1) 37 i0 (.int .u32 0) 1 4 Try.underlying23 hi hz0 hz1 hz2 rfl (by decide) _ _ _ rfl (World.ownsRow.alloc hrow _) ⟨W.heap.size, 0, none⟩ 1 1 [_] rfl rfl (one_new _ _ _ _ (by simp)) (by simp [Value.oneCell']) (small_max (by omega)) (by omega) (by simp; omega) ?_; intro v' w3 hown' hgrow _; obtain ⟨g', cap', rfl⟩ := ownsRow_succ hown'; obtain ⟨hF, hKO, hBl, hBx, hNo⟩ := fresh_append (c % 4294967296) hrow hbS hown' hgrow (by omega); have hK3 := hNo D _ hK rfl; clear hBx hown' hgrow hNo)
    refine ⟨by simp, .inl ⟨_, _, rfl, run_takeDeferred hK3, ?_⟩⟩
    refine ⟨_, results_tmp rfl _ _ _, _, out ++ [c % 4294967296], rfl, (hF.mono (by omega)).left _ hK3 rfl, by simp [HLEN.out], hsm.snoc (by omega), ?_, below_left _ (hbel.trans (hBl.mono (by omega))) (by simp at hD; omega) hK3 rfl⟩
    rw [val_snoc, HLEN.out, Nat.mod_eq_of_lt hcB]; exact HVAL.out
  case stop =>
    rintro D c W _ h _
    exact h.elim

end Go.Proofs.Ytbcipningfdgoaa
