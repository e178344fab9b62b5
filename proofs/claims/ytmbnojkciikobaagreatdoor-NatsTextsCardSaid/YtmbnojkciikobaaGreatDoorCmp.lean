/- The order of two great numbers, as the program tells it. -/
import Derived.Test.YtmbnojkciikobaaGreatDoorKeep
namespace Go.Proofs.YtmbnojkciikobaaGreatDoor
open Go Go.Proofs Go.RowKit Go.Shelf Nu

attribute [local go_sem] Oper.semAt_some

/-- -1, 0 or 1 -/
def sgn (a b : Nat) : Int := if a < b then -1 else if b < a then 1 else 0

set_option maxHeartbeats 400000 in
theorem compare_int (a b : Nat) (w : World) : Calls Tryz.prog 71 #[.int .i64 a, .int .i64 b] w fun e w' => e = .returned (.int .i64 (sgn a b)) ∧ w' = w := by
  rcases Nat.lt_trichotomy a b with h | h | h
  · have e : sgn a b = -1 := by simp [sgn, h]
    rw [e]
    go_enter Tryz.func71, Tryz.ntmps71
    go_wp2
    go_ret
    exact ⟨rfl, rfl⟩
  · have e : sgn a b = 0 := by simp [sgn, h]
    rw [e]
    have h1 : ¬ a < b := by omega
    have h2 : ¬ b < a := by omega
    clear h
    go_enter Tryz.func71, Tryz.ntmps71
    go_wp2
    go_ret
    exact ⟨rfl, rfl⟩
  · have e : sgn a b = 1 := by simp [sgn, h]; omega
    rw [e]
    have h1 : ¬ a < b := by omega
    go_enter Tryz.func71, Tryz.ntmps71
    go_wp2
    go_ret
    exact ⟨rfl, rfl⟩
set_option maxHeartbeats 400000 in
theorem compare_u32 (a b : Nat) (w : World) : Calls Tryz.prog 73 #[.int .u32 a, .int .u32 b] w fun e w' => e = .returned (.int .i64 (sgn a b)) ∧ w' = w := by
  rcases Nat.lt_trichotomy a b with h | h | h
  · have e : sgn a b = -1 := by simp [sgn, h]
    rw [e]
    go_enter Tryz.func73, Tryz.ntmps73
    go_wp2
    go_ret
    exact ⟨rfl, rfl⟩
  · have e : sgn a b = 0 := by simp [sgn, h]
    rw [e]
    have h1 : ¬ a < b := by omega
    have h2 : ¬ b < a := by omega
    clear h
    go_enter Tryz.func73, Tryz.ntmps73
    go_wp2
    go_ret
    exact ⟨rfl, rfl⟩
  · have e : sgn a b = 1 := by simp [sgn, h]; omega
    rw [e]
    have h1 : ¬ a < b := by omega
    go_enter Tryz.func73, Tryz.ntmps73
    go_wp2
    go_ret
    exact ⟨rfl, rfl⟩

/-- the order of numbers of as many parts is that of the highest ones that differ -/
theorem cmp_step {A B : List Nat} {j : Nat} (hA : Sm A) (hB : Sm B) (h : A.getD j 0 ≠ B.getD j 0) (hhi : ∀ i, j < i → A.getD i 0 = B.getD i 0) (hl : A.length = B.length) (hj : j < A.length) :
    sgn (A.getD j 0) (B.getD j 0) = sgn (val A) (val B) := by
  have e1 := val_split A (j + 1) (by omega)
  have e2 := val_split B (j + 1) (by omega)
  have e3 : A.drop (j + 1) = B.drop (j + 1) := by
    apply List.ext_getElem?
    intro i
    have := hhi (j + 1 + i) (by omega)
    rw [List.getElem?_drop, List.getElem?_drop]
    rw [List.getD_eq_getElem?_getD, List.getD_eq_getElem?_getD] at this
    by_cases hi : j + 1 + i < A.length
    · rw [List.getElem?_eq_getElem hi, List.getElem?_eq_getElem (by omega)] at this ⊢
      simpa using this
    · rw [List.getElem?_eq_none (by omega), List.getElem?_eq_none (by omega)]
  rw [val_take_succ] at e1 e2
  have l1 := val_lt (hA.take j)
  have l2 := val_lt (hB.take j)
  rw [List.length_take, Nat.min_eq_left (by omega)] at l1 l2
  rw [e3] at e1
  generalize val (B.drop (j + 1)) = Z at *
  generalize val (A.take j) = x at *
  generalize val (B.take j) = y at *
  generalize A.getD j 0 = p at *
  generalize B.getD j 0 = q at *
  generalize 4294967296 ^ (j + 1) * Z = R at *
  generalize 4294967296 ^ j = P at *
  rcases Nat.lt_or_gt_of_ne h with h | h
  · have := Nat.mul_le_mul_left P (show p + 1 ≤ q by omega)
    rw [Nat.mul_add, Nat.mul_one] at this
    simp [sgn, h, show val A < val B by omega]
  · have := Nat.mul_le_mul_left P (show q + 1 ≤ p by omega)
    rw [Nat.mul_add, Nat.mul_one] at this
    simp [sgn, h, show val B < val A by omega, show ¬ p < q by omega, show ¬ val A < val B by omega]
theorem cmp_len {A B : List Nat} (hA : Sm A) (hB : Sm B) (ha : chk A = true) (hb : chk B = true) (h : A.length ≠ B.length) : sgn A.length B.length = sgn (val A) (val B) := by
  rcases Nat.lt_or_gt_of_ne h with h | h
  · have := le_of_length_lt hA hB hb h
    simp [sgn, h, this]
  · have := le_of_length_lt hB hA ha h
    simp [sgn, h, this, show ¬ A.length < B.length by omega, show ¬ val A < val B by omega]
theorem cmp_same {A B : List Nat} (hl : A.length = B.length) (h : ∀ i, A.getD i 0 = B.getD i 0) : sgn (val A) (val B) = 0 := by
  have : A = B := by
    apply List.ext_getElem hl
    intro i h1 h2
    have := h i
    rw [List.getD_eq_getElem?_getD, List.getD_eq_getElem?_getD, List.getElem?_eq_getElem h1, List.getElem?_eq_getElem h2] at this
    simpa using this
  rw [this]; simp [sgn]

/-- what holds between two rounds: what has been seen is the same -/
def CmpInv (w : World) (A B : List Nat) (va vb : Value) (k : Nat) (W : World) : Prop :=
  (∀ i, A.length - k ≤ i → A.getD i 0 = B.getD i 0) ∧ Boxed W w.heap.size 23 vb ∧ Boxed W (w.heap.size + 1) 3 (.int .i64 0) ∧ Boxed W (w.heap.size + 1 + 1) 23 va ∧ Below w.heap.size w W
/-- a round has told it -/
def CmpEnd (w : World) (A B : List Nat) (c : Code) (W : World) : Prop := c = .ret ∧ Boxed W (w.heap.size + 1) 3 (.int .i64 (sgn (val A) (val B))) ∧ Below w.heap.size w W

set_option maxRecDepth 100000 in
set_option maxHeartbeats 2000000 in
theorem cmp_any {w : World} {va vb : Value} {la lb : List Nat} (ha : Reads w va la) (hb : Reads w vb lb) (hla : la.length ≤ 100000) (hlb : lb.length ≤ 100000) (hsa : Sm la) (hsb : Sm lb) :
    Calls Tryz.prog 14 #[va, vb] w fun e w' => e = .returned (.int .i64 (sgn (nv la) (nv lb))) ∧ Below w.heap.size w w' := by
  have k1 : ∀ W, Below w.heap.size w W → _ := fun W hW => orZero_any (ha.below hW) (by omega)
  have k2 : ∀ W, Below w.heap.size w W → _ := fun W hW => orZero_any (hb.below hW) (by omega)
  have hA := orzV_reads ha
  have hB := orzV_reads hb
  obtain ⟨a1, c1, e1⟩ := hA.form
  obtain ⟨b1, d1, e2⟩ := hB.form
  rw [e1] at k1 hA
  rw [e2] at k2 hB
  have hlA : (orz la).length ≤ 100000 := Nat.le_trans (orz_length la) hla
  have hlB : (orz lb).length ≤ 100000 := Nat.le_trans (orz_length lb) hlb
  have hSA := sm_orz hsa
  have hSB := sm_orz hsb
  have hCA := chk_orz la
  have hCB := chk_orz lb
  rw [← val_orz la, ← val_orz lb]
  generalize orz la = A at *
  generalize orz lb = B at *
  obtain ⟨x1, x2, rfl⟩ := ha.form
  obtain ⟨y1, y2, rfl⟩ := hb.form
  clear ha hb e1 e2 hla hlb hsa hsb
  refine (callsIn_wide (n := 0)).1 ?_
  refine callsIn_of_wp_marks Tryz.func14 rfl trivial ?_ rfl
  simp only [Tryz.ntmps14, List.size_toArray, List.length_cons, List.length_nil, Nat.reduceAdd, Nat.reduceSub, Array.replicate_succ, Array.replicate_zero, List.push_toArray, List.append_toArray, List.nil_append, List.cons_append]
  refine wpIn_wide.2 ?_
  go_wp2_with fail
  refine (wpIn_wide (n := 0)).1 ?_
  refine region_tail_in Lets.wide 4 (by kernel_rfl) (by kernel_rfl) ?_
  simp only [List.take_succ_cons, List.take_zero, List.drop_succ_cons, List.drop_zero]
  have hb0 : Below w.heap.size w ((w.alloc (.cells #[.slice y1 lb.length y2] 23)).alloc (.cells #[.int .i64 0] 3)).drew := (((Below.refl _ w).alloc (Nat.le_refl _) _).alloc (by simp) _).drew
  still_step
  still_call (k1 _ hb0)
  still_step
  still_call (k2 _ hb0)
  clear k1 k2
  refine wpStill_nil ?_
  gi_wp2
  by_cases hl : A.length = B.length
  rotate_left
  · have k3 := fun W => flip (compare_int A.length B.length W)
    rw [cmp_len hSA hSB hCA hCB hl] at k3
    have hz : ((sgn (val A) (val B)) != 0) = true := by
      rw [← cmp_len hSA hSB hCA hCB hl]
      rcases Nat.lt_or_gt_of_ne hl with h | h
      · simp [sgn, h]
      · simp [sgn, h, show ¬ A.length < B.length by omega]
    obtain ⟨z, hze⟩ : ∃ z, z = sgn (val A) (val B) := ⟨_, rfl⟩
    rw [← hze] at k3 hz
    have HZ := Lib.hid hze
    clear hze hA hB hSA hSB hCA hCB hl
    go_wp2_with (go_at_call 71; refine (k3 _).mono ?_; rintro e w' ⟨rfl, rfl⟩)
    refine ⟨.int .i64 z, ?_, by rw [HZ.out], ?_⟩
    · simp [results, Tryz.f14, go_sem]
    · exact ((((Below.refl _ w).alloc (Nat.le_refl _) _).alloc (by simp) _)).drew
  · have k3 := fun W => flip (compare_int A.length B.length W)
    rw [show sgn A.length B.length = 0 by simp [sgn, hl]] at k3
    obtain ⟨ba, oa, hba, hca⟩ := hA.addr
    obtain ⟨bb, ob, hbb, hcb⟩ := hB.addr
    have HL := Lib.hid hl
    clear hl
    go_wp2_with (first
      | (go_at_call 71; refine (k3 _).mono ?_; rintro e w' ⟨rfl, rfl⟩)
      | (go_at_call 72; refine (back_any _ _ _ _).mono ?_; rintro e w' ⟨rfl, rfl⟩))
    clear k3
    refine (wpIn_wide (n := 0)).1 ?_
    refine wp_rangeAt (gf := 141) rfl (enters_of Tryz.func141 (by kernel_rfl) rfl)
      (back_iter A.length ba oa c1 (w.heap.size + 1 + 1) a1 (fun j => A.getD j 0) (by omega) (fun h => (hba h).1)) (fun _ => rfl)
      (CmpInv w A B (.slice a1 A.length c1) (.slice b1 B.length d1)) (CmpEnd w A B) ?own ?ownx ?reads ?start ?round ?done ?stop
    case own =>
      rintro k W W' row ⟨h1, h2, h3, h4, h5⟩ hg hr
      exact ⟨h1, keepBox h2 hg hr, keepBox h3 hg hr, keepBox h4 hg hr, keepBelow h5 (Nat.le_refl _) (by simp; omega) hg hr⟩
    case ownx =>
      rintro c W W' row ⟨h1, h2, h3⟩ hg hr
      exact ⟨h1, keepBox h2 hg hr, keepBelow h3 (Nat.le_refl _) (by simp; omega) hg hr⟩
    case reads =>
      rintro k W ⟨h1, h2, h3, h4, h5⟩
      exact ⟨h4.cell, fun hk => (h5.cell (p := ⟨ba, oa + (A.length - 1 - k), none⟩) (hba (by omega)).2).trans (hca _ (by omega))⟩
    case start =>
      have hl := HL.out
      refine ⟨fun i hi => ?_, ((Boxed.new w _ _).alloc _).alloc _, (boxed_new1 w _ _ _).alloc _, boxed_new2 w _ _ _ _, ((((Below.refl _ w).alloc (Nat.le_refl _) _).alloc (by simp) _).alloc (by simp; omega) _).drew⟩
      rw [List.getD_eq_getElem?_getD, List.getD_eq_getElem?_getD, List.getElem?_eq_none (by omega), List.getElem?_eq_none (by omega)]
    case round =>
      intro l k W hk
      obtain ⟨j, hj⟩ : ∃ j, j = A.length - 1 - k := ⟨_, rfl⟩
      have hjl : j < A.length := by omega
      have hx := hSA.getD j
      have hy := hSB.getD j
      have hl := HL.out
      have hbby := (hbb (by omega)).1
      have hbbl := (hbb (by omega)).2
      have hcy := hcb j (by omega)
      have hjb : j < B.length := by omega
      obtain ⟨x, hxe⟩ : ∃ x, x = A.getD j 0 := ⟨_, rfl⟩
      obtain ⟨y, hye⟩ : ∃ y, y = B.getD j 0 := ⟨_, rfl⟩
      dsimp only
      rw [← hj, ← hxe]
      rw [← hxe] at hx
      rw [← hye] at hy hcy
      have HX := Lib.hid hxe
      have HY := Lib.hid hye
      have HJ := Lib.hid hj
      have HBB := Lib.hid hbby
      have hSA' := Lib.hid hSA
      have hSB' := Lib.hid hSB
      clear hxe hye hA hB hSA hSB hj hba hbb hca hcb hl hbby
      gi_wp2
      refine NextRound.mk ?_
      rintro W2 ⟨hall, h2, h3, h4, h5⟩
      have hall' := Lib.hid hall
      rw [HBB.out] at h2
      have r1 := h2.cell
      have r2 := h3.cell
      have r3 := h3.frozen
      have r4 : W2.cell? ⟨bb, ob + j, none⟩ = some (.int .u32 y) := (h5.cell (p := ⟨bb, ob + j, none⟩) hbbl).trans hcy
      by_cases hxy : x = y
      · have hq : ((x : Int) != (y : Int)) = false := by simp [hxy]
        have HXY := Lib.hid hxy
        clear hall hxy
        gi_wp2
        refine ⟨KeepsFrom.refl _ _, fun i hi => ?_, by rw [HBB.out]; exact h2, h3, h4, h5⟩
        by_cases hij : i = j
        · subst hij; rw [← HX.out, ← HY.out]; exact HXY.out
        · exact hall'.out i (by have := HJ.out; omega)
      · have hq : ((x : Int) != (y : Int)) = true := by simp; omega
        have hs : sgn x y = sgn (val A) (val B) := by
          rw [HX.out, HY.out]
          exact cmp_step hSA'.out hSB'.out (by rw [← HX.out, ← HY.out]; exact hxy) (fun i hi => hall i (by have := HJ.out; omega)) HL.out hjl
        have k4 := fun W => flip (compare_u32 x y W)
        rw [hs] at k4
        clear hall hxy hs
        obtain ⟨z, hze⟩ : ∃ z, z = sgn (val A) (val B) := ⟨_, rfl⟩
        rw [← hze] at k4
        have HZ := Lib.hid hze
        clear hze
        gi_wp2_with ((first | refine ⟨trivial, rfl, ?_⟩ | refine ⟨trivial, ?_⟩); gi_at_call 73; refine ((Lets.round l).calls (k4 _)).mono ?_; rintro e w' ⟨rfl, rfl⟩)
        refine ⟨(KeepsOthers.setCell _ _ _).from _, rfl, ?_, h5.setCell (p := ⟨w.heap.size + 1, 0, none⟩) (by simp) _⟩
        rw [← HZ.out]
        exact h3.set _
    case done =>
      rintro D W hD ⟨hall, h2, h3, h4, h5⟩ hK
      have hz : sgn (val A) (val B) = 0 := cmp_same HL.out (fun i => hall i (by omega))
      have r2 := h3.cell
      have r3 := h3.frozen
      have HZ := Lib.hid hz
      clear hall hA hB hz
      go_wp2
      have hK' := heap_box h3 (.int .i64 0) hK rfl
      have h6 := keepBox (M := 0) (h3.set (.int .i64 0)) (grownBy_putObj' _ D (.deferred none)) (offCells_putObj (Nat.zero_le _) hK' rfl)
      refine ⟨by simp, .inl ⟨_, _, rfl, run_takeDeferred hK', ?_⟩⟩
      refine ⟨.int .i64 0, ?_, by rw [HZ.out], below_left _ (h5.setCell (p := ⟨w.heap.size + 1, 0, none⟩) (by simp) _) (by simp at hD; omega) hK' rfl⟩
      have h7 := h6.cell
      simp [results, Tryz.f14, go_sem, h7]
    case stop =>
      rintro D c W hD ⟨rfl, h2, h3⟩ hK
      have h6 := keepBox (M := 0) h2 (grownBy_putObj' _ D (.deferred none)) (offCells_putObj (Nat.zero_le _) hK rfl)
      gi_wp2
      refine ⟨by simp, .inl ⟨_, _, rfl, run_takeDeferred hK, ?_⟩⟩
      refine ⟨_, ?_, rfl, below_left _ h3 (by simp at hD; omega) hK rfl⟩
      have h7 := h6.cell
      simp [results, Tryz.f14, go_sem, h7]

end Go.Proofs.YtmbnojkciikobaaGreatDoor
