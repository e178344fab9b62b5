/- Rows of fractions: Dot, Add. -/
import Derived.Test.YtlcbicdendelfaaGVecJ
import Derived.Test.YtlcbicdendelfaaGVecA
namespace Go.Proofs.Ytlcbicdendelfaa
open Go Go.Proofs Go.RowKit Go.Shelf Nu

attribute [local go_sem] Oper.semAt_some

theorem ret_boxN_tmpV {fn : Func} {p q : Tmp} {ty t : TypeId} {R : Ending → World → Prop} {a : Act} {w : World} {B : Nat} {cs : Array Value} {x : Value} {fs : Array Field} (h : fn.results = #[.cell p ty, .tmp q]) (hp : a.tmps.getD p undef = .pointer (some ⟨B, 0, none⟩)) (hx : a.tmps.getD q undef = x) (hg : BoxN w B t cs)
    (hu : Try.prog.underlying ty = some (.struct fs)) (hi : (Try.prog.info? ty).map (·.size) = some cs.size) (hde : a.defers = []) (hR : R (.returned (.tuple #[.agg cs, x])) w) : bodyPost Try.prog fn R .ret a w := by
  refine bodyPost_ret (v := .tuple #[.agg cs, x]) ?_ hde hR
  rw [results_cell_tmp h, hp, hx]
  simp [asAddr, run_loadVar_row (P := Try.prog) w B t ty cs (0, 0) (.struct fs) hg hu rfl hi, Result.andThen]

theorem qr_at {xs : List Rat} {j : Nat} (h : j < xs.length) : (xs.map qr).getD j default = qr (xs.getD j 0) := by
  rw [List.getD_eq_getElem?_getD, List.getElem?_map, List.getD_eq_getElem?_getD, List.getElem?_eq_getElem h]; rfl
theorem zmul_at {xs ys : List Rat} {j : Nat} (h1 : j < xs.length) (h2 : j < ys.length) : (zmul xs ys).getD j 0 = xs.getD j 0 * ys.getD j 0 := by
  simp [zmul, List.getD_eq_getElem?_getD, List.getElem?_zipWith, List.getElem?_eq_getElem h1, List.getElem?_eq_getElem h2]
theorem axpy_at {t : Rat} {xs ys : List Rat} {j : Nat} (h1 : j < xs.length) (h2 : j < ys.length) : (axpy t xs ys).getD j 0 = xs.getD j 0 + ys.getD j 0 * t := by
  simp [axpy, List.getD_eq_getElem?_getD, List.getElem?_zipWith, List.getElem?_eq_getElem h1, List.getElem?_eq_getElem h2]
theorem wt_at {xs : List Rat} {j : Nat} (h : j < xs.length) : wt (xs.getD j 0) ≤ wts xs := by
  refine wt_mem ?_
  rw [List.getD_eq_getElem?_getD, List.getElem?_eq_getElem h]; exact List.getElem_mem h

theorem at_mem {xs : List Rat} {j : Nat} (h : j < xs.length) : xs.getD j 0 ∈ xs := by
  rw [List.getD_eq_getElem?_getD, List.getElem?_eq_getElem h]; exact List.getElem_mem h
theorem fit_each {xs : List Rat} (h : ∀ x ∈ xs, wt x ≤ 9999) : ∀ q ∈ xs.map qr, Fit q := by
  intro q hq; obtain ⟨x, hx, rfl⟩ := List.mem_map.1 hq; exact fit_qr (h x hx)
/-- joined, over rats.Mul -/
theorem v_mulfn {w : World} {xs ys : List Rat} {n : Nat} (hx : xs.length = n) (hy : ys.length = n) (hw : wts xs + wts ys ≤ 9000) :
    ∀ (W : World) (j : Nat) (z1 z2 : Zr), j < n → z1.1 = (xs.map qr).getD j default → z2.1 = (ys.map qr).getD j default → ZIn W z1 → ZIn W z2 → Below w.heap.size w W → Calls Try.prog 46 (#[zval z1, zval z2] ++ #[]) W (RAns W ((zmul xs ys).getD j 0)) := by
  intro W j z1 z2 hj e1 e2 i1 i2 _
  rw [qr_at (by omega)] at e1 e2
  have w1 := wt_at (xs := xs) (j := j) (by omega)
  have w2 := wt_at (xs := ys) (j := j) (by omega)
  rw [zmul_at (by omega) (by omega)]
  have hm := wt_mul (xs.getD j 0) (ys.getD j 0)
  generalize xs.getD j 0 = X at *
  generalize ys.getD j 0 = Y at *
  obtain ⟨q1, s1, t1⟩ := z1
  obtain ⟨q2, s2, t2⟩ := z2
  dsimp only at e1 e2
  subst e1 e2
  have fX := fit_qr (X := X) (by omega)
  have fY := fit_qr (X := Y) (by omega)
  exact r_mul (qr_can X).is (qr_can Y).is (qr_can (X * Y)) rfl fX.2.1 fX.2.2 fY.2.1 fY.2.2 i1.1 i1.2 i2.1 i2.2

set_option maxRecDepth 100000 in
set_option maxHeartbeats 2000000 in
theorem v_dot_no {w : World} {a1 a2 : Option Addr} {n1 n2 c1 c2 : Nat} {q1 q2 : List Qr} (hR : (decide (n1 = n2) && (q1.all qok && q2.all qok)) = false) (h1 : VReads w (.slice a1 n1 c1) q1) (h2 : VReads w (.slice a2 n2 c2) q2) (f1 : qrows q1) (f2 : qrows q2) :
    Calls Try.prog 17 #[.slice a1 n1 c1, .slice a2 n2 c2] w fun e w' => e = .returned (.tuple #[.agg #[.bool false, .slice none 0 0, .slice none 0 0], .int .i64 1]) ∧ Below w.heap.size w w' := by
  have al : Below w.heap.size w (w.alloc (.cells #[.bool false, .slice none 0 0, .slice none 0 0] 43)) := (Below.refl _ _).alloc (Nat.le_refl _) _
  have M : Mem w [(w.heap.size, 43, [.bool false, .slice none 0 0, .slice none 0 0])] [] (w.alloc (.cells #[.bool false, .slice none 0 0, .slice none 0 0] 43)) := (Mem.start w).new _ _
  have k1 := v_match false hR.symm (h1.below al) (h2.below al) f1 f2
  clear h1 h2 hR f1 f2
  go_enter Try.func17, Try.ntmps17
  go_wp2_with fail
  refine k1.mono ?_
  rintro e w1 ⟨rfl, rr⟩
  have M' := M.up rr
  clear M rr k1
  have f0 := M'.fr 0 rfl 0; have f1 := M'.fr 0 rfl 1; have f2 := M'.fr 0 rfl 2
  have z0 := M'.cell 0 rfl 0 rfl; have z1 := M'.cell 0 rfl 1 rfl; have z2 := M'.cell 0 rfl 2 rfl
  go_wp2_with fail
  have M := (((M'.put 0 rfl rfl 0 (.bool false)).put 0 rfl rfl 1 (.slice none 0 0)).put 0 rfl rfl 2 (.slice none 0 0))
  refine ret_boxN_tmpV rfl rfl rfl (M.box 0 rfl) Try.underlying43 size_rat rfl ?_
  exact ⟨rfl, M.below⟩

set_option maxRecDepth 100000 in
set_option maxHeartbeats 2000000 in
theorem v_dot {w : World} {a1 a2 : Option Addr} {n c1 c2 : Nat} {xs ys : List Rat} (h1 : VReads w (.slice a1 n c1) (xs.map qr)) (h2 : VReads w (.slice a2 n c2) (ys.map qr)) (hw : wts xs + wts ys ≤ 8900) :
    Calls Try.prog 17 #[.slice a1 n c1, .slice a2 n c2] w fun e w' => ∃ a c a' c', e = .returned (.tuple #[.agg #[.bool (qr (dot xs ys)).1, .slice a (qr (dot xs ys)).2.1.length c, .slice a' (qr (dot xs ys)).2.2.length c'], .int .i64 0]) ∧ Reads w' (.slice a (qr (dot xs ys)).2.1.length c) (qr (dot xs ys)).2.1 ∧ Reads w' (.slice a' (qr (dot xs ys)).2.2.length c') (qr (dot xs ys)).2.2 ∧ Below w.heap.size w w' := by
  have al : Below w.heap.size w (w.alloc (.cells #[.bool false, .slice none 0 0, .slice none 0 0] 43)) := (Below.refl _ _).alloc (Nat.le_refl _) _
  have M : Mem w [(w.heap.size, 43, [.bool false, .slice none 0 0, .slice none 0 0])] [] (w.alloc (.cells #[.bool false, .slice none 0 0, .slice none 0 0] 43)) := (Mem.start w).new _ _
  have hx : xs.length = n := by have := h1.addr.1; simpa using this.symm
  have hy : ys.length = n := by have := h2.addr.1; simpa using this.symm
  have l1 := wts_len xs
  have l2 := wts_len ys
  have fx := fit_qrs (xs := xs) (by omega)
  have fy := fit_qrs (xs := ys) (by omega)
  have k1 := v_match true (by rw [all_qok_qr, all_qok_qr]; simp) (h1.below al) (h2.below al) ⟨fx, by simp; omega⟩ ⟨fy, by simp; omega⟩
  have hzl : (zmul xs ys).length = n := by simp [zmul, hx, hy]
  have hzw := wts_zmul xs ys
  have k2 := fun (W : World) (r : Below w.heap.size w W) => v_joined (h1.below r) (h2.below r) (by omega) hzl (enters_of Try.func46 (by kernel_rfl) rfl) (v_mulfn (w := W) hx hy (by omega))
  have k3 := fun (W : World) {a : Option Addr} {cap : Nat} (h : VReads W (.slice a n cap) ((zmul xs ys).map qr)) => v_sum n hzl.symm h (by omega)
  have hd : rsum (zmul xs ys) = dot xs ys := rfl
  rw [hd] at k3
  unfold RAns at k3
  generalize qr (dot xs ys) = q at *
  have ezl : ((zmul xs ys).map qr).length = n := by simp [hzl]
  generalize (zmul xs ys).map qr = zq at *
  clear h1 h2 hw hx hy l1 l2 fx fy hzl hzw hd
  go_enter Try.func17, Try.ntmps17
  go_wp2_with fail
  refine k1.mono ?_
  rintro e w1 ⟨rfl, rr⟩
  have M' := M.up rr
  clear M rr k1
  have M := M'; clear M'
  go_wp2_with fail
  refine (k2 _ M.below).mono ?_
  rintro e w2 ⟨v, rfl, hv, rr⟩
  have hr := hv.reads
  obtain ⟨av, cv, ev⟩ := hr.form
  rw [ezl] at ev
  subst ev
  have M' := M.up rr
  have k4 := k3 _ hr
  clear M rr k2 hv hr k3 ezl
  have M := M'; clear M'
  go_wp2_with fail
  refine k4.mono ?_
  rintro e w3 ⟨a3, c3, o3, r3, rfl, g, g', rr⟩
  have M' := ((M.up rr).add g).add g'
  clear M rr k4 g g'
  have f0 := M'.fr 0 rfl 0; have f1 := M'.fr 0 rfl 1; have f2 := M'.fr 0 rfl 2
  have z0 := M'.cell 0 rfl 0 rfl; have z1 := M'.cell 0 rfl 1 rfl; have z2 := M'.cell 0 rfl 2 rfl
  go_wp2_with fail
  have M := (((M'.put 0 rfl rfl 0 (.bool q.1)).put 0 rfl rfl 1 (.slice a3 q.2.1.length c3)).put 0 rfl rfl 2 (.slice o3 q.2.2.length r3))
  refine ret_boxN_tmpV rfl rfl rfl (M.box 0 rfl) Try.underlying43 size_rat rfl ?_
  exact ⟨a3, c3, o3, r3, rfl, M.get 1 rfl, M.get 0 rfl, M.below⟩

/-- joined, over Add's own function -/
theorem v_axfn {w : World} {B : Nat} {T : Rat} {pb ob : Option Addr} {qb rb : Nat} {xs ys : List Rat} {n : Nat} (hB : BoxN w B 43 #[.bool (qr T).1, .slice pb (qr T).2.1.length qb, .slice ob (qr T).2.2.length rb]) (g5 : Reads w (.slice pb (qr T).2.1.length qb) (qr T).2.1) (g6 : Reads w (.slice ob (qr T).2.2.length rb) (qr T).2.2) (hx : xs.length = n) (hy : ys.length = n) (hwx : ∀ x ∈ xs, wt x ≤ 3000) (hwy : ∀ y ∈ ys, wt y ≤ 3000) (hwT : wt T ≤ 3000) :
    ∀ (W : World) (j : Nat) (z1 z2 : Zr), j < n → z1.1 = (xs.map qr).getD j default → z2.1 = (ys.map qr).getD j default → ZIn W z1 → ZIn W z2 → Below w.heap.size w W → Calls Try.prog 47 (#[zval z1, zval z2] ++ #[.pointer (some ⟨B, 0, none⟩)]) W (RAns W ((axpy T xs ys).getD j 0)) := by
  intro W j z1 z2 hj e1 e2 i1 i2 r
  rw [qr_at (by omega)] at e1 e2
  have w1 := hwx _ (at_mem (xs := xs) (j := j) (by omega))
  have w2 := hwy _ (at_mem (xs := ys) (j := j) (by omega))
  rw [axpy_at (by omega) (by omega)]
  generalize xs.getD j 0 = X at *
  generalize ys.getD j 0 = Y at *
  obtain ⟨q1, s1, t1⟩ := z1
  obtain ⟨q2, s2, t2⟩ := z2
  dsimp only at e1 e2
  subst e1 e2
  exact v_addfn (hB.under r) (by omega) i1.1 i1.2 i2.1 i2.2 (g5.below r) (g6.below r)

set_option maxRecDepth 100000 in
set_option maxHeartbeats 2000000 in
theorem v_addm {w : World} {a1 a2 : Option Addr} {n c1 c2 : Nat} {xs ys : List Rat} {T : Rat} {pb ob : Option Addr} {qb rb : Nat} (h1 : VReads w (.slice a1 n c1) (xs.map qr)) (h2 : VReads w (.slice a2 n c2) (ys.map qr)) (g5 : Reads w (.slice pb (qr T).2.1.length qb) (qr T).2.1) (g6 : Reads w (.slice ob (qr T).2.2.length rb) (qr T).2.2) (hwx : ∀ x ∈ xs, wt x ≤ 3000) (hwy : ∀ y ∈ ys, wt y ≤ 3000) (hwT : wt T ≤ 3000) (hn : n ≤ 60000) :
    Calls Try.prog 18 #[.slice a1 n c1, .slice a2 n c2, .agg #[.bool (qr T).1, .slice pb (qr T).2.1.length qb, .slice ob (qr T).2.2.length rb]] w fun e w' => ∃ v, e = .returned (.tuple #[v, .int .i64 0]) ∧ VFresh w' w.heap.size v ((axpy T xs ys).map qr) ∧ Below w.heap.size w w' := by
  have al : Below w.heap.size w (w.alloc (.cells #[.bool (qr T).1, .slice pb (qr T).2.1.length qb, .slice ob (qr T).2.2.length rb] 43)) := (Below.refl _ _).alloc (Nat.le_refl _) _
  have M : Mem w [(w.heap.size, 43, [.bool (qr T).1, .slice pb (qr T).2.1.length qb, .slice ob (qr T).2.2.length rb])] [(.slice ob (qr T).2.2.length rb, (qr T).2.2), (.slice pb (qr T).2.1.length qb, (qr T).2.1)] (w.alloc (.cells #[.bool (qr T).1, .slice pb (qr T).2.1.length qb, .slice ob (qr T).2.2.length rb] 43)) := (((Mem.start w).add g5).add g6).new _ _
  have hx : xs.length = n := by have := h1.addr.1; simpa using this.symm
  have hy : ys.length = n := by have := h2.addr.1; simpa using this.symm
  have fx := fit_each (xs := xs) (fun x hx => Nat.le_trans (hwx x hx) (by omega))
  have fy := fit_each (xs := ys) (fun x hx => Nat.le_trans (hwy x hx) (by omega))
  have fT := fit_qr (X := T) (by omega)
  have k1 := v_match true (by rw [all_qok_qr, all_qok_qr]; simp) (h1.below al) (h2.below al) ⟨fx, by simp; omega⟩ ⟨fy, by simp; omega⟩
  have hzl : (axpy T xs ys).length = n := by simp [axpy, hx, hy]
  have kc := fun (W : World) (g5 : Reads W (.slice pb (qr T).2.1.length qb) (qr T).2.1) (g6 : Reads W (.slice ob (qr T).2.2.length rb) (qr T).2.2) => rcheck_any (n := (qr T).1) g5 g6 fT.1.1 fT.1.2 (by have := fT.2.1; omega) (by have := fT.2.2; omega)
  rw [show rchk (qr T).1 (qr T).2.1 (qr T).2.2 = true from (qr_can T).chk] at kc
  have k2 := fun (W : World) (r : Below w.heap.size w W) {B : Nat} (hB : BoxN W B 43 #[.bool (qr T).1, .slice pb (qr T).2.1.length qb, .slice ob (qr T).2.2.length rb]) => v_joined (h1.below r) (h2.below r) (by omega) hzl (enters_of Try.func47 (by kernel_rfl) rfl) (v_axfn (w := W) hB (g5.below r) (g6.below r) hx hy hwx hwy hwT)
  generalize qr T = q at *
  have ezl : ((axpy T xs ys).map qr).length = n := by simp [hzl]
  generalize (axpy T xs ys).map qr = zq at *
  clear h1 h2 hwx hwy hwT hx hy fx fy hzl g5 g6 fT
  go_enter Try.func18, Try.ntmps18
  go_wp2_with fail
  refine k1.mono ?_
  rintro e w1 ⟨rfl, rr⟩
  have M' := M.up rr
  clear M rr k1
  have M := M'; clear M'
  have z0 := M.cell 0 rfl 0 rfl; have z1 := M.cell 0 rfl 1 rfl; have z2 := M.cell 0 rfl 2 rfl
  go_wp2_with fail
  refine (kc _ (M.get 1 rfl) (M.get 0 rfl)).mono ?_
  rintro e w2 ⟨rfl, rr⟩
  have M' := M.up rr
  clear M rr kc z0 z1 z2
  have M := M'; clear M'
  go_wp2_with fail
  refine (k2 _ M.below (M.box 0 rfl)).mono ?_
  rintro e w3 ⟨v, rfl, hv, rr⟩
  obtain ⟨av, cv, ev⟩ := hv.form
  rw [ezl] at ev
  subst ev
  have HV := Lib.hid (hv.mono M.below.size)
  have HB := Lib.hid (then_below M.below rr)
  clear M rr k2 hv
  go_wp2_with fail
  go_ret2
  exact ⟨_, rfl, HV.out, HB.out⟩
theorem v_add {w : World} {a1 a2 : Option Addr} {n c1 c2 : Nat} {xs ys : List Rat} {T : Rat} {pb ob : Option Addr} {qb rb : Nat} (h1 : VReads w (.slice a1 n c1) (xs.map qr)) (h2 : VReads w (.slice a2 n c2) (ys.map qr)) (g5 : Reads w (.slice pb (qr T).2.1.length qb) (qr T).2.1) (g6 : Reads w (.slice ob (qr T).2.2.length rb) (qr T).2.2) (hw : wts xs ≤ 3000 ∧ wts ys ≤ 3000 ∧ wt T ≤ 3000) :
    Calls Try.prog 18 #[.slice a1 n c1, .slice a2 n c2, .agg #[.bool (qr T).1, .slice pb (qr T).2.1.length qb, .slice ob (qr T).2.2.length rb]] w fun e w' => ∃ v, e = .returned (.tuple #[v, .int .i64 0]) ∧ VFresh w' w.heap.size v ((axpy T xs ys).map qr) ∧ Below w.heap.size w w' := by
  have hx : xs.length = n := by have := h1.addr.1; simpa using this.symm
  have l1 := wts_len xs
  exact v_addm h1 h2 g5 g6 (fun x hx => Nat.le_trans (wt_mem hx) hw.1) (fun x hx => Nat.le_trans (wt_mem hx) hw.2.1) hw.2.2 (by omega)

set_option maxRecDepth 100000 in
set_option maxHeartbeats 2000000 in
/-- .. where not both are as many, or not all may be -/
theorem v_add_no {w : World} {a1 a2 : Option Addr} {n1 n2 c1 c2 : Nat} {q1 q2 : List Qr} {b : Bool} {pb ob : Option Addr} {lb qb mb rb : Nat} (hR : (decide (n1 = n2) && (q1.all qok && q2.all qok)) = false) (h1 : VReads w (.slice a1 n1 c1) q1) (h2 : VReads w (.slice a2 n2 c2) q2) (f1 : qrows q1) (f2 : qrows q2) :
    Calls Try.prog 18 #[.slice a1 n1 c1, .slice a2 n2 c2, .agg #[.bool b, .slice pb lb qb, .slice ob mb rb]] w fun e w' => e = .returned (.tuple #[.slice none 0 0, .int .i64 1]) ∧ Below w.heap.size w w' := by
  have al : Below w.heap.size w (w.alloc (.cells #[.bool b, .slice pb lb qb, .slice ob mb rb] 43)) := (Below.refl _ _).alloc (Nat.le_refl _) _
  have k1 := v_match false hR.symm (h1.below al) (h2.below al) f1 f2
  clear h1 h2 hR f1 f2
  go_enter Try.func18, Try.ntmps18
  go_wp2_with fail
  refine k1.mono ?_
  rintro e w1 ⟨rfl, rr⟩
  have HB := Lib.hid (then_below al rr)
  clear k1 al rr
  go_wp2_with fail
  go_ret2
  exact ⟨rfl, HB.out⟩

set_option maxRecDepth 100000 in
set_option maxHeartbeats 2000000 in
/-- .. where the third one may not be -/
theorem v_add_bad {w : World} {a1 a2 : Option Addr} {n c1 c2 : Nat} {xs ys : List Rat} {b : Bool} {l d : List Nat} {pb ob : Option Addr} {qb rb : Nat} (h1 : VReads w (.slice a1 n c1) (xs.map qr)) (h2 : VReads w (.slice a2 n c2) (ys.map qr)) (g5 : Reads w (.slice pb l.length qb) l) (g6 : Reads w (.slice ob d.length rb) d) (hf : Fit (b, l, d)) (hk : rchk b l d = false) (hw : wts xs + wts ys ≤ 8900) :
    Calls Try.prog 18 #[.slice a1 n c1, .slice a2 n c2, .agg #[.bool b, .slice pb l.length qb, .slice ob d.length rb]] w fun e w' => e = .returned (.tuple #[.slice none 0 0, .int .i64 1]) ∧ Below w.heap.size w w' := by
  have al : Below w.heap.size w (w.alloc (.cells #[.bool b, .slice pb l.length qb, .slice ob d.length rb] 43)) := (Below.refl _ _).alloc (Nat.le_refl _) _
  have M : Mem w [(w.heap.size, 43, [.bool b, .slice pb l.length qb, .slice ob d.length rb])] [(.slice ob d.length rb, d), (.slice pb l.length qb, l)] (w.alloc (.cells #[.bool b, .slice pb l.length qb, .slice ob d.length rb] 43)) := (((Mem.start w).add g5).add g6).new _ _
  have hx : xs.length = n := by have := h1.addr.1; simpa using this.symm
  have hy : ys.length = n := by have := h2.addr.1; simpa using this.symm
  have l1 := wts_len xs
  have l2 := wts_len ys
  have fx := fit_qrs (xs := xs) (by omega)
  have fy := fit_qrs (xs := ys) (by omega)
  have k1 := v_match true (by rw [all_qok_qr, all_qok_qr]; simp) (h1.below al) (h2.below al) ⟨fx, by simp; omega⟩ ⟨fy, by simp; omega⟩
  have kc := fun (W : World) (g5 : Reads W (.slice pb l.length qb) l) (g6 : Reads W (.slice ob d.length rb) d) => rcheck_any (n := b) g5 g6 hf.1.1 hf.1.2 (by have := hf.2.1; dsimp only at this; omega) (by have := hf.2.2; dsimp only at this; omega)
  rw [hk] at kc
  clear h1 h2 hw hx hy l1 l2 fx fy g5 g6 hf hk
  go_enter Try.func18, Try.ntmps18
  go_wp2_with fail
  refine k1.mono ?_
  rintro e w1 ⟨rfl, rr⟩
  have M' := M.up rr
  clear M rr k1
  have M := M'; clear M'
  have z0 := M.cell 0 rfl 0 rfl; have z1 := M.cell 0 rfl 1 rfl; have z2 := M.cell 0 rfl 2 rfl
  go_wp2_with fail
  refine (kc _ (M.get 1 rfl) (M.get 0 rfl)).mono ?_
  rintro e w2 ⟨rfl, rr⟩
  have HB := Lib.hid (then_below M.below rr)
  clear M rr kc z0 z1 z2
  go_wp2_with fail
  go_ret2
  exact ⟨rfl, HB.out⟩
end Go.Proofs.Ytlcbicdendelfaa
