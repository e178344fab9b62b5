/- The sum of two great numbers, as the program makes it: its parts are the sum's digits. -/
import Derived.Test.YtmbnojkciikobaaGreatDoorKeep
namespace Go.Proofs.YtmbnojkciikobaaGreatDoor
open Go Go.Proofs Go.RowKit Go.Shelf Nu

attribute [local go_sem] Oper.semAt_some

/-- what holds between two rounds of Add's loop -/
def AddInv (w : World) (s : Nat) (A B : List Nat) (va vb : Value) (k : Nat) (W : World) : Prop :=
  (∃ (v : Value) (c : Nat) (out : List Nat), Boxed W s 23 v ∧ Boxed W (s + 1) 51 (.int .u64 c) ∧ Fresh W w.heap.size v out ∧ out.length = k ∧ Sm out ∧ c ≤ 1 ∧
    val out + 4294967296 ^ k * c = val (A.take k) + val (B.take k)) ∧
  Boxed W (s + 1 + 1) 23 va ∧ Boxed W (s + 1 + 1 + 1) 23 vb ∧ Below w.heap.size w W

theorem AddInv.own {w : World} {s : Nat} {A B : List Nat} {va vb : Value} {M : Nat} (hM : w.heap.size ≤ M) : OwnFrom M (AddInv w s A B va vb) := by
  rintro k W W' row ⟨⟨v, c, out, h1, h2, h3, h4⟩, h5, h6, h7⟩ hg hr
  exact ⟨⟨v, c, out, keepBox h1 hg hr, keepBox h2 hg hr, keepFresh h3 hg hr, h4⟩, keepBox h5 hg hr, keepBox h6 hg hr, keepBelow h7 (Nat.le_refl _) hM hg hr⟩

set_option maxRecDepth 100000 in
set_option maxHeartbeats 2000000 in
theorem add_any {w : World} {va vb : Value} {la lb : List Nat} (ha : Reads w va la) (hb : Reads w vb lb) (hla : la.length ≤ 100000) (hlb : lb.length ≤ 100000) (hsa : Sm la) (hsb : Sm lb) :
    Calls Tryz.prog 10 #[va, vb] w fun e w' => ∃ v, e = .returned v ∧ Fresh w' w.heap.size v (digs (nv la + nv lb)) ∧ Below w.heap.size w w' := by
  obtain ⟨i0, hi, hz0, hz1, hz2⟩ := info_parts info_u32
  have k1 := flip (orZero_any ha (by omega))
  have k2 := flip (orZero_any hb (by omega))
  have hA := orzV_reads ha
  have hB := orzV_reads hb
  obtain ⟨a1, c1, e1⟩ := hA.form
  obtain ⟨b1, d1, e2⟩ := hB.form
  rw [e1] at k1 hA
  rw [e2] at k2 hB
  have hlA : (orz la).length ≤ 100000 := Nat.le_trans (orz_length la) hla
  have hlB : (orz lb).length ≤ 100000 := Nat.le_trans (orz_length lb) hlb
  have hSA := sm_orz hsa
  have hSB := sm_orz hsb
  rw [← val_orz la, ← val_orz lb]
  generalize orz la = A at *
  generalize orz lb = B at *
  obtain ⟨x1, x2, rfl⟩ := ha.form
  obtain ⟨y1, y2, rfl⟩ := hb.form
  clear ha hb e1 e2 hla hlb hsa hsb
  refine (callsIn_wide (n := 0)).1 ?_
  refine callsIn_of_wp_marks Tryz.func10 rfl trivial ?_ rfl
  simp only [Tryz.ntmps10, List.size_toArray, List.length_cons, List.length_nil, Nat.reduceAdd, Nat.reduceSub, Array.replicate_succ, Array.replicate_zero, List.push_toArray, List.append_toArray, List.nil_append, List.cons_append]
  refine wpIn_wide.2 ?_
  rcases Nat.lt_or_ge A.length B.length with hlt | hge
  all_goals
    obtain ⟨N1, hN1⟩ : ∃ N1, N1 = max A.length B.length + 1 := ⟨_, rfl⟩
    have HN1 := Lib.hid hN1
    have hN1l : N1 ≤ 100001 := by omega
    clear hN1
    go_wp2_with (first
      | (go_at_call 64; refine k1.mono ?_; clear k1; rintro e w' ⟨rfl, rfl⟩)
      | (go_at_call 64; refine k2.mono ?_; clear k2; rintro e w' ⟨rfl, rfl⟩)
      | (at_make; go_loud (refine wpList_make_own _ rfl _ _ 23 rfl w.heap.size 78 i0 (.int .u32 0) 1 Tryz.underlying23 hi hz0 hz1 .i64 .i64 _ N1 rfl rfl (by have := HN1.out; omega) (by rw [hz2]; omega) (by unfold maxLen; omega) (by simp) ?_); intro w1 hown1 hgrow1)
      | (go_at_call 65; refine (pairs_any _ _ _ _ _ _ _).mono ?_; rintro e w' ⟨rfl, rfl⟩))
    have hs1 : w.heap.size ≤ w1.heap.size := hgrow1.size
    have hbel1 : Below w.heap.size w w1 := (Below.refl _ _).grown hgrow1 (Nat.le_refl _) (fun _ e => by cases e)
    refine (wpIn_wide (n := 0)).1 ?_
    refine wp_rangeAt (gf := 137) rfl (enters_of Tryz.func137 (by kernel_rfl) rfl)
      (pairs_iter A B (.slice a1 A.length c1) (.slice b1 B.length d1) (w1.heap.size + 1 + 1) (w1.heap.size + 1 + 1 + 1) (by omega) (by omega) hSA hSB) (fun _ => rfl)
      (AddInv w w1.heap.size A B (.slice a1 A.length c1) (.slice b1 B.length d1)) (fun _ _ => False) (AddInv.own (by simp; omega)) (fun _ _ _ _ h _ _ => h)
      (fun k W h => ⟨h.2.1.cell, h.2.2.1.cell, hA.below h.2.2.2, hB.below h.2.2.2⟩) ?start ?round ?done ?stop
    case start =>
      have hF0 : Fresh w1 w.heap.size _ [] := hown1
      refine ⟨⟨_, 0, [], (((Boxed.new w1 _ _).alloc _).alloc _).alloc _, ((boxed_new1 w1 _ _ _).alloc _).alloc _, ((((hF0.alloc _).alloc _).alloc _).alloc _), rfl, Sm.nil, by omega, by simp [val]⟩, (boxed_new2 w1 _ _ _ _).alloc _, boxed_new3 w1 _ _ _ _ _, ?_⟩
      exact (((hbel1.alloc hs1 _).alloc (by simp; omega) _).alloc (by simp; omega) _).alloc (by simp; omega) _
    case round =>
      intro l k W hk
      have hx := hSA.getD k
      have hy := hSB.getD k
      obtain ⟨x, hxe⟩ : ∃ x, x = A.getD k 0 := ⟨_, rfl⟩
      obtain ⟨y, hye⟩ : ∃ y, y = B.getD k 0 := ⟨_, rfl⟩
      dsimp only
      rw [← hxe, ← hye]
      rw [← hxe] at hx
      rw [← hye] at hy
      have HX := Lib.hid hxe
      have HY := Lib.hid hye
      clear hxe hye hA hB hSA hSB
      gi_wp2
      refine NextRound.mk ?_
      rintro W2 ⟨⟨v, c, out, hv, hcb, hrow, hlen, hsm, hc1, hval⟩, hba, hbb, hbel⟩
      have HVAL := Lib.hid hval
      have HLEN := Lib.hid hlen
      have hlen' : out.length ≤ 100000 := by omega
      have hc := hv.cell
      have hf := hv.frozen
      have hcc := hcb.cell
      have hcf := hcb.frozen
      clear hval hlen
      have hbS : w.heap.size ≤ W2.heap.size := hbel.size
      gi_wp2_with (gi_at_builtin; refine wpListIn_append_own _ rfl _ _ 23 rfl w.heap.size 78 i0 (.int .u32 0) 1 4 Tryz.underlying23 hi hz0 hz1 hz2 rfl (by decide) _ _ _ rfl ((hrow.box hcb (by decide) _).alloc _) ⟨W2.heap.size, 0, none⟩ 1 1 [_] rfl rfl (one_new _ _ _ _ (by simp)) (by simp [Value.oneCell']) (small_max (by omega)) (by omega) (by simp; omega) ?_; intro v' w3 hown' hgrow _; obtain ⟨g', cap', rfl⟩ := ownsRow_succ hown'; obtain ⟨hF, hKO, hBl, hBx, -⟩ := fresh_append ((c + (x + y)) % 4294967296) (hrow.box hcb (by decide) _) (by simp; omega) hown' hgrow (by omega); have hv3 := hBx _ _ _ (by decide) (hv.other (by omega) _); have hcb3 := hBx _ _ _ (by decide) (hcb.set _); have hba3 := hBx _ _ _ (by decide) (hba.other (by omega) _); have hbb3 := hBx _ _ _ (by decide) (hbb.other (by omega) _); have hc1' := hv3.cell; have hf1' := hv3.frozen; have hcc3 := hcb3.cell; have hcf3 := hcb3.frozen; clear hBx hown' hgrow)
      refine ⟨(((KeepsOthers.setCell W2 _ _).trans hKO).trans ((KeepsOthers.setCell w3 _ _).trans (KeepsOthers.setCell _ _ _))).from _,
        ⟨_, (c + (x + y)) / 4294967296, out ++ [(c + (x + y)) % 4294967296], (hv3.set _).other (by omega) _, ?_, (hF.box hv3 (by decide) _).box (hcb3.other (by omega) _) (by decide) _, by simp [HLEN.out], hsm.snoc (by omega), by omega, ?_⟩,
        (hba3.other (by omega) _).other (by omega) _, (hbb3.other (by omega) _).other (by omega) _, (((hbel.setCell (p := ⟨w1.heap.size + 1, 0, none⟩) (by simp; omega) _).trans hBl).setCell (p := ⟨w1.heap.size, 0, none⟩) (by simp; omega) _).setCell (p := ⟨w1.heap.size + 1, 0, none⟩) (by simp; omega) _⟩
      · rw [show (((c + (x + y)) / 4294967296 : Nat) : Int) = ((c : Int) + ((x : Int) + (y : Int))) / 4294967296 by omega]
        exact (hcb3.other (by omega) _).set _
      · rw [HX.out, HY.out]
        exact add_step HLEN.out HVAL.out
    case done =>
      rintro D W hD ⟨⟨v, c, out, hv, hcb, hrow, hlen, hsm, hc1, hval⟩, hba, hbb, hbel⟩ hK
      have hlen' : out.length ≤ 100000 := by omega
      rw [List.take_of_length_le (by omega), List.take_of_length_le (by omega)] at hval
      have HVAL := Lib.hid hval
      have HLEN := Lib.hid hlen
      have hc := hv.cell
      have hf := hv.frozen
      have hcc := hcb.cell
      have hbS : w.heap.size ≤ W.heap.size := hbel.size
      clear hval hlen hA hB hSA hSB hba hbb
      go_wp2_with (first
        | (at_builtin; refine wpList_append_own _ rfl _ _ 23 rfl w.heap.size 78 i0 (.int .u32 0) 1 4 Tryz.underlying23 hi hz0 hz1 hz2 rfl (by decide) _ _ _ rfl (World.ownsRow.alloc hrow _) ⟨W.heap.size, 0, none⟩ 1 1 [_] rfl rfl (one_new _ _ _ _ (by simp)) (by simp [Value.oneCell']) (small_max (by omega)) (by omega) (by simp; omega) ?_; intro v' w3 hown' hgrow _; obtain ⟨g', cap', rfl⟩ := ownsRow_succ hown'; obtain ⟨hF, hKO, hBl, hBx, hNo⟩ := fresh_append (c % 4294967296) hrow hbS hown' hgrow (by omega); have hK3 := hNo D _ hK rfl; clear hBx hown' hgrow hNo)
        | (go_at_call 66; refine (trim_fresh hF (by simp) (by simp; omega)).mono ?_; rintro e w' ⟨rfl, rfl⟩))
      have e1 : val (out ++ [c % 4294967296]) = val A + val B := by
        rw [← HVAL.out, val_snoc, HLEN.out, Nat.mod_eq_of_lt (by omega)]
      have hR := hF.trim' (by simp) (hsm.snoc (by omega))
      rw [e1] at hR
      refine ⟨by simp, .inl ⟨_, _, rfl, run_takeDeferred hK3, ?_⟩⟩
      exact ⟨_, results_tmp rfl _ _ _, _, rfl, hR.left _ hK3 rfl, below_left _ (hbel.trans hBl) (by simp at hD; omega) hK3 rfl⟩
    case stop =>
      rintro D c W _ h _
      exact h.elim

end Go.Proofs.YtmbnojkciikobaaGreatDoor
