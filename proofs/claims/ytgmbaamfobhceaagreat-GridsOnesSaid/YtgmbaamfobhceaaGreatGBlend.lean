/- One number so many times, less another one so many times, as the program makes it; the difference of two numbers. -/
import Derived.Test.YtgmbaamfobhceaaGreatGCmp
set_option linter.unusedSimpArgs false
set_option linter.unusedVariables false
set_option maxRecDepth 100000
set_option maxHeartbeats 8000000
namespace Go.Proofs.YtgmbaamfobhceaaGreat
open Go Go.Proofs Go.RowKit Go.Shelf Nu
attribute [local go_sem] Oper.semAt_some
def BlendInv (w : World) (s : Nat) (A B : List Nat) (t u : Nat) (va vb : Value) (k : Nat) (W : World) : Prop :=
 (∃ (v : Value) (pl mi bo : Nat) (out : List Nat), Boxed W s 40 v ∧ Boxed W (s + 1) 130 (.int .u64 pl) ∧ Boxed W (s + 1 + 1) 130 (.int .u64 mi) ∧ Boxed W (s + 1 + 1 + 1) 130 (.int .u64 bo) ∧
  Fresh W (w.heap.size + 1 + 1) v out ∧ out.length = k ∧ Sm out ∧ pl < 4294967296 ∧ mi < 4294967296 ∧ bo ≤ 1 ∧
  (val out : Int) + 4294967296 ^ k * ((pl : Int) - mi - bo) = t * val (A.take k) - u * val (B.take k)) ∧
 Boxed W w.heap.size 127 (.int .u32 t) ∧ Boxed W (w.heap.size + 1) 127 (.int .u32 u) ∧
 Boxed W (s + 1 + 1 + 1 + 1) 40 va ∧ Boxed W (s + 1 + 1 + 1 + 1 + 1) 40 vb ∧ Below w.heap.size w W ∧ w.heap.size + 1 + 1 ≤ W.heap.size
theorem blend_close {w W2 w3 : World} {s M : Nat} {A B : List Nat} {t u k pl mi bo P1 P2 al ml d x y : Nat} {va vb v' : Value} {out : List Nat} {q1 q2 : Value}
   (hs : w.heap.size + 1 + 1 ≤ s) (hHLEN : Hid (out.length = k)) (hsm : Sm out) (_hbo1 : bo ≤ 1) (hP1 : P1 ≤ 18446744065119617025) (hP2 : P2 ≤ 18446744065119617025) (hpl1 : pl < 4294967296) (hmi1 : mi < 4294967296) (hd4 : d / 9223372036854775808 ≤ 1)
   (HVAL : Hid ((val out : Int) + 4294967296 ^ k * ((pl : Int) - mi - bo) = t * val (A.take k) - u * val (B.take k)))
   (HP1 : Hid (P1 = x * t)) (HP2 : Hid (P2 = y * u)) (HX : Hid (x = A.getD k 0)) (HY : Hid (y = B.getD k 0)) (HAL : Hid (al = (pl + P1) % 4294967296)) (HML : Hid (ml = (mi + P2) % 4294967296))
   (HD : Hid ((al : Int) - ml - bo = (d % 4294967296 : Nat) - 4294967296 * (d / 9223372036854775808 : Nat)))
   (hbel : Below w.heap.size w W2) (hbS : w.heap.size + 1 + 1 ≤ W2.heap.size)
   (hKO : KeepsOthers ((W2.setCell ⟨s + 1, 0, none⟩ q1).setCell ⟨s + 1 + 1, 0, none⟩ q2) w3) (hBl : Below (w.heap.size + 1 + 1) ((W2.setCell ⟨s + 1, 0, none⟩ q1).setCell ⟨s + 1 + 1, 0, none⟩ q2) w3)
   {vO pO mO bO : Value} (hF : Fresh w3 (w.heap.size + 1 + 1) v' (out ++ [d % 4294967296])) (hv3 : Boxed w3 s 40 vO) (hpl3 : Boxed w3 (s + 1) 130 pO) (hmi3 : Boxed w3 (s + 1 + 1) 130 mO) (hbo3 : Boxed w3 (s + 1 + 1 + 1) 130 bO)
   (hbt3 : Boxed w3 w.heap.size 127 (.int .u32 t)) (hbu3 : Boxed w3 (w.heap.size + 1) 127 (.int .u32 u)) (hba3 : Boxed w3 (s + 1 + 1 + 1 + 1) 40 va) (hbb3 : Boxed w3 (s + 1 + 1 + 1 + 1 + 1) 40 vb) :
   roundEnd M (BlendInv w s A B t u va vb (k + 1)) (fun _ _ => False) W2 .normal { tmps := #[], defers := [] } ((((w3.setCell ⟨s, 0, none⟩ v').setCell ⟨s + 1, 0, none⟩ (.int .u64 (((pl : Int) + (P1 : Int)) / 4294967296))).setCell ⟨s + 1 + 1, 0, none⟩ (.int .u64 (((mi : Int) + (P2 : Int)) / 4294967296))).setCell ⟨s + 1 + 1 + 1, 0, none⟩ (.int .u64 ((d : Int) / 9223372036854775808))).drew := by
 have hFX := hF.box hv3 (by decide) v'
 have hvX := hv3.set v'
 have hplX := hpl3.other (B' := s) (by omega) v'
 have hmiX := hmi3.other (B' := s) (by omega) v'
 have hboX := hbo3.other (B' := s) (by omega) v'
 refine ⟨((((((((KeepsOthers.setCell W2 _ _).trans (KeepsOthers.setCell _ _ _)).trans hKO).trans (KeepsOthers.setCell w3 _ _)).trans (KeepsOthers.setCell _ _ _)).trans (KeepsOthers.setCell _ _ _)).trans (KeepsOthers.setCell _ _ _)).trans (KeepsOthers.drew _)).from _,
   ⟨v', (pl + P1) / 4294967296, (mi + P2) / 4294967296, d / 9223372036854775808, out ++ [d % 4294967296], ((hvX.other (by omega) _).other (by omega) _).other (by omega) _, ?_, ?_, ?_,
    ((hFX.box hplX (by decide) _).box (hmiX.other (by omega) _) (by decide) _).box ((hboX.other (by omega) _).other (by omega) _) (by decide) _, ?_, hsm.snoc (by omega), by omega, by omega, hd4, ?_⟩,
   (((hbt3.other (by omega) _).other (by omega) _).other (by omega) _).other (by omega) _, (((hbu3.other (by omega) _).other (by omega) _).other (by omega) _).other (by omega) _,
   (((hba3.other (by omega) _).other (by omega) _).other (by omega) _).other (by omega) _, (((hbb3.other (by omega) _).other (by omega) _).other (by omega) _).other (by omega) _, ?_, ?_⟩
 · rw [show (((pl + P1) / 4294967296 : Nat) : Int) = ((pl : Int) + (P1 : Int)) / 4294967296 by omega]
   exact ((hplX.set _).other (by omega) _).other (by omega) _
 · rw [show (((mi + P2) / 4294967296 : Nat) : Int) = ((mi : Int) + (P2 : Int)) / 4294967296 by omega]
   exact ((hmiX.other (by omega) _).set _).other (by omega) _
 · rw [show ((d / 9223372036854775808 : Nat) : Int) = (d : Int) / 9223372036854775808 by omega]
   exact ((hboX.other (by omega) _).other (by omega) _).set _
 · rw [List.length_append, List.length_singleton, hHLEN.out]
 · exact blend_step hHLEN.out HVAL.out (by rw [HP1.out, HX.out]) (by rw [HP2.out, HY.out]) rfl rfl HAL.out HML.out HD.out
 · exact ((((((((hbel.setCell (p := ⟨s + 1, 0, none⟩) (show w.heap.size ≤ s + 1 by omega) _).setCell (p := ⟨s + 1 + 1, 0, none⟩) (show w.heap.size ≤ s + 1 + 1 by omega) _).trans (hBl.mono (by omega))).setCell (p := ⟨s, 0, none⟩) (show w.heap.size ≤ s by omega) _).setCell (p := ⟨s + 1, 0, none⟩) (show w.heap.size ≤ s + 1 by omega) _).setCell (p := ⟨s + 1 + 1, 0, none⟩) (show w.heap.size ≤ s + 1 + 1 by omega) _).setCell (p := ⟨s + 1 + 1 + 1, 0, none⟩) (show w.heap.size ≤ s + 1 + 1 + 1 by omega) _)).drew
 · have h3 := hBl.size
   rw [World.size_setCell, World.size_setCell] at h3
   show w.heap.size + 1 + 1 ≤ ((((w3.setCell _ _).setCell _ _).setCell _ _).setCell _ _).heap.size
   rw [World.size_setCell, World.size_setCell, World.size_setCell, World.size_setCell]
   omega
theorem blend_any {w : World} {va vb : Value} {A B : List Nat} (hA : Reads w va A) (hB : Reads w vb B) (hlA : A.length ≤ 100000) (hlB : B.length ≤ 100000) (hSA : Sm A) (hSB : Sm B) (t u : Nat) (ht : t < 4294967296) (hu : u < 4294967296)
  (hge : u * val B ≤ t * val A) (hfit : t * val A - u * val B < 4294967296 ^ max A.length B.length) :
  Calls Tryz.prog 147 #[va, vb, .int .u32 t, .int .u32 u] w fun e w' => ∃ v, e = .returned v ∧ Fresh w' w.heap.size v (digs (t * val A - u * val B)) ∧ Below w.heap.size w w' := by
 obtain ⟨i0, hi, hz0, hz1, hz2⟩ := info_parts info_u32
 obtain ⟨a1, c1, rfl⟩ := hA.form
 obtain ⟨b1, d1, rfl⟩ := hB.form
 refine (callsIn_wide (n := 0)).1 ?_
 refine callsIn_of_wp_marks Tryz.func147 rfl trivial ?_ rfl
 simp only [Tryz.ntmps147, List.size_toArray, List.length_cons, List.length_nil, Nat.reduceAdd, Nat.reduceSub, Array.replicate_succ, Array.replicate_zero, List.push_toArray, List.append_toArray, List.nil_append, List.cons_append]
 refine wpIn_wide.2 ?_
 have HGE := Lib.hid hge
 have HFIT := Lib.hid hfit
 clear hge hfit
 rcases Nat.lt_or_ge A.length B.length with hlt | hge
 all_goals
  obtain ⟨N1, hN1⟩ : ∃ N1, N1 = max A.length B.length := ⟨_, rfl⟩
  have HN1 := Lib.hid hN1
  have hN1l : N1 ≤ 100000 := by omega
  clear hN1
  go_wp2_with (first
   | (at_make; refine wpList_make_own _ rfl _ _ 40 rfl (w.heap.size + 1 + 1) 127 i0 (.int .u32 0) 1 Tryz.underlying40 hi hz0 hz1 .i64 .i64 _ N1 rfl rfl (by have := HN1.out; omega) (by rw [hz2]; omega) (by unfold maxLen; omega) (by simp) ?_; intro w1 hown1 hgrow1)
   | (go_at_call 171; refine (pairs_any _ _ _ _ _ _ _).mono ?_; rintro e w' ⟨rfl, rfl⟩))
  have hs1 : w.heap.size + 1 + 1 ≤ w1.heap.size := by have := hgrow1.size; simp at this; omega
  refine (wpIn_wide (n := 0)).1 ?_
  refine wp_rangeAt (gf := 194) rfl (enters_of Tryz.func194 (by kernel_rfl) rfl)
   (pairs_iter A B (.slice a1 A.length c1) (.slice b1 B.length d1) (w1.heap.size + 1 + 1 + 1 + 1) (w1.heap.size + 1 + 1 + 1 + 1 + 1) (by omega) (by omega) hSA hSB) (fun _ => rfl)
   (BlendInv w w1.heap.size A B t u (.slice a1 A.length c1) (.slice b1 B.length d1)) (fun _ _ => False) ?own (fun _ _ _ _ h _ _ => h)
   (fun k W h => ⟨h.2.2.2.1.cell, h.2.2.2.2.1.cell, hA.below h.2.2.2.2.2.1, hB.below h.2.2.2.2.2.1⟩) ?start ?round ?done ?stop
  case own =>
   rintro k W W' row ⟨⟨v, pl, mi, bo, out, h1, h2, h3, h4, h5, h6⟩, g1, g2, g3, g4, g5, g6⟩ hg hr
   exact ⟨⟨v, pl, mi, bo, out, keepBox h1 hg hr, keepBox h2 hg hr, keepBox h3 hg hr, keepBox h4 hg hr, keepFresh h5 hg hr, h6⟩, keepBox g1 hg hr, keepBox g2 hg hr, keepBox g3 hg hr, keepBox g4 hg hr, keepBelow g5 (Nat.le_refl _) (by simp; omega) hg hr, Nat.le_trans g6 hg.size⟩
  case start =>
   have hbel1 : Below (w.heap.size + 1 + 1) ((w.alloc (.cells #[.int .u32 t] 127)).alloc (.cells #[.int .u32 u] 127)) w1 := (Below.refl _ _).grown hgrow1 (by simp) (fun _ e => by cases e)
   have hb0 : Below w.heap.size w ((w.alloc (.cells #[.int .u32 t] 127)).alloc (.cells #[.int .u32 u] 127)) := ((Below.refl _ w).alloc (Nat.le_refl _) _).alloc (by simp) _
   have hF0 : Fresh w1 (w.heap.size + 1 + 1) (.slice (some ⟨w.heap.size + 1 + 1, 0, none⟩) 0 N1) [] := by unfold Fresh; simpa using hown1
   have hT : Boxed w1 w.heap.size 127 (.int .u32 t) := (hbel1.block _ (by omega)).trans ((Boxed.new w _ _).alloc _)
   have hU : Boxed w1 (w.heap.size + 1) 127 (.int .u32 u) := (hbel1.block _ (by omega)).trans (boxed_new1 w _ _ _)
   refine ⟨⟨_, 0, 0, 0, [], (((((Boxed.new w1 _ _).alloc _).alloc _).alloc _).alloc _).alloc _, ((((boxed_new1 w1 _ _ _).alloc _).alloc _).alloc _).alloc _, (((boxed_new2 w1 _ _ _ _).alloc _).alloc _).alloc _, ((boxed_new3 w1 _ _ _ _ _).alloc _).alloc _,
     ((((((hF0.alloc _).alloc _).alloc _).alloc _).alloc _).alloc _), rfl, Sm.nil, by omega, by omega, by omega, by simp [val]⟩, (((((hT.alloc _).alloc _).alloc _).alloc _).alloc _).alloc _, (((((hU.alloc _).alloc _).alloc _).alloc _).alloc _).alloc _,
     (boxed_new4 w1 _ _ _ _ _ _).alloc _, boxed_new5 w1 _ _ _ _ _ _ _, ?_, by simp; omega⟩
   exact ((((((hb0.trans (hbel1.mono (by omega))).alloc (by omega) _).alloc (by simp; omega) _).alloc (by simp; omega) _).alloc (by simp; omega) _).alloc (by simp; omega) _).alloc (by simp; omega) _
  case round =>
   intro l k W hk
   have hx := hSA.getD k
   have hy := hSB.getD k
   obtain ⟨x, hxe⟩ : ∃ x, x = A.getD k 0 := ⟨_, rfl⟩
   obtain ⟨y, hye⟩ : ∃ y, y = B.getD k 0 := ⟨_, rfl⟩
   dsimp only
   rw [← hxe, ← hye]
   rw [← hxe] at hx
   rw [← hye] at hy
   have HX := Lib.hid hxe
   have HY := Lib.hid hye
   clear hxe hye hA hB hSA hSB
   gi_wp2
   refine NextRound.mk ?_
   rintro W2 ⟨⟨v, pl, mi, bo, out, hv, hpl, hmi, hbo, hrow, hlen, hsm, hpl1, hmi1, hbo1, hval⟩, hbt, hbu, hba, hbb, hbel, hbS⟩
   have HVAL := Lib.hid hval
   have HLEN := Lib.hid hlen
   have hlen' : out.length ≤ 100000 := by omega
   have hc := hv.cell
   have hf := hv.frozen
   have q1 := hpl.cell
   have q2 := hpl.frozen
   have q3 := hmi.cell
   have q4 := hmi.frozen
   have q5 := hbo.cell
   have q6 := hbo.frozen
   have q7 := hbt.cell
   have q8 := hbu.cell
   obtain ⟨P1, hP1, HP1, hP1b⟩ := mul_bound hx ht
   obtain ⟨P2, hP2, HP2, hP2b⟩ := mul_bound hy hu
   replace HP1 := Lib.hid HP1
   replace HP2 := Lib.hid HP2
   have ha1 := and_top (pl + P1) (by omega)
   have ha2 := and_top (mi + P2) (by omega)
   rw [Int.natCast_add] at ha1 ha2
   obtain ⟨al, hal⟩ : ∃ al, al = (pl + P1) % 4294967296 := ⟨_, rfl⟩
   obtain ⟨ml, hml⟩ : ∃ ml, ml = (mi + P2) % 4294967296 := ⟨_, rfl⟩
   rw [← hal] at ha1
   rw [← hml] at ha2
   obtain ⟨d, hd1, hd2, hd3, hd4⟩ := sub_step (al := al) (ml := ml) (bo := bo) (by omega) (by omega) hbo1
   have HAL := Lib.hid hal
   have HML := Lib.hid hml
   have HD := Lib.hid hd3
   clear hval hlen hal hml hd3
   gi_wp2_with (first
     | (gi_at_builtin; go_loud (refine wpListIn_append_own _ rfl _ _ 40 rfl (w.heap.size + 1 + 1) 127 i0 (.int .u32 0) 1 4 Tryz.underlying40 hi hz0 hz1 hz2 rfl (by decide) _ _ _ rfl (((hrow.box hpl (by decide) _).box (hmi.other (by omega) _) (by decide) _).alloc _) ⟨W2.heap.size, 0, none⟩ 1 1 [_] rfl rfl (one_new _ _ _ _ (by simp)) (by simp [Value.oneCell']) (small_max (by omega)) (by omega) (by simp; omega) ?_); intro v' w3 hown' hgrow _; obtain ⟨g', cap', rfl⟩ := ownsRow_succ hown'; obtain ⟨hF, hKO, hBl, hBx, -⟩ := fresh_append (d % 4294967296) ((hrow.box hpl (by decide) _).box (hmi.other (by omega) _) (by decide) _) (by simp; omega) hown' hgrow (by omega); have hv3 := hBx _ _ _ (by decide) ((hv.other (by omega) _).other (by omega) _); have hpl3 := hBx _ _ _ (by decide) ((hpl.set _).other (by omega) _); have hmi3 := hBx _ _ _ (by decide) ((hmi.other (by omega) _).set _); have hbo3 := hBx _ _ _ (by decide) ((hbo.other (by omega) _).other (by omega) _); have hba3 := hBx _ _ _ (by decide) ((hba.other (by omega) _).other (by omega) _); have hbb3 := hBx _ _ _ (by decide) ((hbb.other (by omega) _).other (by omega) _); have hbt3 := below_box hBl (by omega) ((hbt.other (by omega) _).other (by omega) _); have hbu3 := below_box hBl (by omega) ((hbu.other (by omega) _).other (by omega) _); have r1 := hv3.cell; have r2 := hv3.frozen; have r3 := hpl3.cell; have r4 := hpl3.frozen; have r5 := hmi3.cell; have r6 := hmi3.frozen; have r7 := hbo3.cell; have r8 := hbo3.frozen; clear hBx hown' hgrow)
     | (refine region_any_in (Lets.round l) (by kernel_rfl) (by kernel_rfl) (by rintro ⟨_, _, h⟩; exact h) (Stop.of ?_)))
   refine Stop.mk ?_
   refine wpAny_take (i := 4) (v := .int .u64 d) rfl (by kernel_rfl) (by kernel_rfl) (by kernel_rfl) (fun _ _ _ h => h) (Or.inl ⟨by rfl, fun w => by go_simp⟩) ?_
   refine wpAny_take (i := 5) (v := .int .u64 ((d : Int) / 9223372036854775808)) rfl (by kernel_rfl) (by kernel_rfl) (by kernel_rfl) (fun _ _ _ h => h) (Or.inl ⟨by rfl, fun w => by go_simp⟩) ?_
   refine wpAny_ready (rs := [0, 2]) (by kernel_rfl) (by simp) ?_
   refine AllReady.cons rfl (fun K hK => ?_) (AllReady.cons rfl (fun K hK => ?_) AllReady.nil)
   · go_simp
     refine hK _ _ ?_
     clear hK K
     refine wpAny_take (i := 1) (v := .int .u64 (((pl : Int) + (P1 : Int)) / 4294967296)) rfl (by kernel_rfl) (by kernel_rfl) (by kernel_rfl) (fun _ _ _ h => h) (Or.inl ⟨by rfl, fun w => by go_simp⟩) ?_
     refine wpAny_ready (rs := [2, 6]) (by kernel_rfl) (by simp) ?_
     refine AllReady.cons rfl (fun K hK => ?_) (AllReady.cons rfl (fun K hK => ?_) AllReady.nil)
     · go_simp
       refine hK _ _ ?_
       clear hK K
       refine wpAny_take (i := 3) (v := .int .u64 (((mi : Int) + (P2 : Int)) / 4294967296)) rfl (by kernel_rfl) (by kernel_rfl) (by kernel_rfl) (fun _ _ _ h => h) (Or.inl ⟨by rfl, fun w => by go_simp⟩) ?_
       refine wpAny_ready (rs := [6]) (by kernel_rfl) (by simp) ?_
       refine AllReady.cons rfl (fun K hK => ?_) AllReady.nil
       go_simp
       refine hK _ _ ?_
       clear hK K
       refine wpAny_ready (rs := [7]) (by kernel_rfl) (by simp) ?_
       refine AllReady.cons rfl (fun K hK => ?_) AllReady.nil
       go_simp
       refine hK _ _ ?_
       clear hK K
       refine wpAny_ready (rs := [8]) (by kernel_rfl) (by simp) ?_
       refine AllReady.cons rfl (fun K hK => ?_) AllReady.nil
       go_simp
       refine hK _ _ ?_
       clear hK K
       refine wpAny_done (by kernel_rfl) ?_ _
       gi_wp2
       exact blend_close hs1 HLEN hsm hbo1 hP1b hP2b hpl1 hmi1 hd4 HVAL HP1 HP2 HX HY HAL HML HD hbel hbS hKO hBl hF hv3 hpl3 hmi3 hbo3 hbt3 hbu3 hba3 hbb3
     · go_simp
       refine hK _ _ ?_
       clear hK K
       refine wpAny_ready (rs := [2]) (by kernel_rfl) (by simp) ?_
       refine AllReady.cons rfl (fun K hK => ?_) AllReady.nil
       go_simp
       refine hK _ _ ?_
       clear hK K
       refine wpAny_take (i := 3) (v := .int .u64 (((mi : Int) + (P2 : Int)) / 4294967296)) rfl (by kernel_rfl) (by kernel_rfl) (by kernel_rfl) (fun _ _ _ h => h) (Or.inl ⟨by rfl, fun w => by go_simp⟩) ?_
       refine wpAny_ready (rs := [7]) (by kernel_rfl) (by simp) ?_
       refine AllReady.cons rfl (fun K hK => ?_) AllReady.nil
       go_simp
       refine hK _ _ ?_
       clear hK K
       refine wpAny_ready (rs := [8]) (by kernel_rfl) (by simp) ?_
       refine AllReady.cons rfl (fun K hK => ?_) AllReady.nil
       go_simp
       refine hK _ _ ?_
       clear hK K
       refine wpAny_done (by kernel_rfl) ?_ _
       gi_wp2
       exact blend_close hs1 HLEN hsm hbo1 hP1b hP2b hpl1 hmi1 hd4 HVAL HP1 HP2 HX HY HAL HML HD hbel hbS hKO hBl hF hv3 hpl3 hmi3 hbo3 hbt3 hbu3 hba3 hbb3
   · go_simp
     refine hK _ _ ?_
     clear hK K
     refine wpAny_take (i := 3) (v := .int .u64 (((mi : Int) + (P2 : Int)) / 4294967296)) rfl (by kernel_rfl) (by kernel_rfl) (by kernel_rfl) (fun _ _ _ h => h) (Or.inl ⟨by rfl, fun w => by go_simp⟩) ?_
     refine wpAny_ready (rs := [0]) (by kernel_rfl) (by simp) ?_
     refine AllReady.cons rfl (fun K hK => ?_) AllReady.nil
     go_simp
     refine hK _ _ ?_
     clear hK K
     refine wpAny_take (i := 1) (v := .int .u64 (((pl : Int) + (P1 : Int)) / 4294967296)) rfl (by kernel_rfl) (by kernel_rfl) (by kernel_rfl) (fun _ _ _ h => h) (Or.inl ⟨by rfl, fun w => by go_simp⟩) ?_
     refine wpAny_ready (rs := [6]) (by kernel_rfl) (by simp) ?_
     refine AllReady.cons rfl (fun K hK => ?_) AllReady.nil
     go_simp
     refine hK _ _ ?_
     clear hK K
     refine wpAny_ready (rs := [7]) (by kernel_rfl) (by simp) ?_
     refine AllReady.cons rfl (fun K hK => ?_) AllReady.nil
     go_simp
     refine hK _ _ ?_
     clear hK K
     refine wpAny_ready (rs := [8]) (by kernel_rfl) (by simp) ?_
     refine AllReady.cons rfl (fun K hK => ?_) AllReady.nil
     go_simp
     refine hK _ _ ?_
     clear hK K
     refine wpAny_done (by kernel_rfl) ?_ _
     gi_wp2
     exact blend_close hs1 HLEN hsm hbo1 hP1b hP2b hpl1 hmi1 hd4 HVAL HP1 HP2 HX HY HAL HML HD hbel hbS hKO hBl hF hv3 hpl3 hmi3 hbo3 hbt3 hbu3 hba3 hbb3
  case done =>
   rintro D W hD ⟨⟨v, pl, mi, bo, out, hv, hpl, hmi, hbo, hrow, hlen, hsm, hpl1, hmi1, hbo1, hval⟩, hbt, hbu, hba, hbb, hbel, hbS⟩ hK
   rw [List.take_of_length_le (by omega), List.take_of_length_le (by omega)] at hval
   have hlen' : out.length ≤ 100000 := by omega
   have e1 := blend_end hval HGE.out HFIT.out (by have := val_lt hsm; rwa [hlen] at this)
   have hc := hv.cell
   obtain ⟨ta, tc, v', rfl, hR, kt⟩ := trim_any hrow (by omega) hsm
   rw [e1] at hR
   clear hval hlen hA hB hSA hSB hba hbb e1
   go_wp2_with (go_at_call 112; refine kt.mono ?_; rintro e w' ⟨rfl, rfl⟩)
   refine ⟨by simp, .inl ⟨_, _, rfl, run_takeDeferred hK, ?_⟩⟩
   exact ⟨_, results_tmp rfl _ _ _, _, rfl, (hR.mono (by omega)).left _ hK rfl, below_left _ hbel (by simp at hD; omega) hK rfl⟩
  case stop =>
   rintro D c W _ h _
   exact h.elim
end Go.Proofs.YtgmbaamfobhceaaGreat
