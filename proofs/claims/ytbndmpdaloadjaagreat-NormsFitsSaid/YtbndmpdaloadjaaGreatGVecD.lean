/- Rows of fractions: Dot, Add. -/
import Derived.Test.YtbndmpdaloadjaaGreatGVecJ
import Derived.Test.YtbndmpdaloadjaaGreatGVecA
set_option linter.unusedSimpArgs false
set_option linter.unusedVariables false
set_option maxRecDepth 100000
set_option maxHeartbeats 2000000
namespace Go.Proofs.YtbndmpdaloadjaaGreat
open Go Go.Proofs Go.RowKit Go.Shelf Nu

attribute [local go_sem] Oper.semAt_some

theorem ret_boxN_tmpV {fn : Func} {p q : Tmp} {ty t : TypeId} {R : Ending → World → Prop} {a : Act} {w : World} {B : Nat} {cs : Array Value} {x : Value} {fs : Array Field} (h : fn.results = #[.cell p ty, .tmp q]) (hp : a.tmps.getD p undef = .pointer (some ⟨B, 0, none⟩)) (hx : a.tmps.getD q undef = x) (hg : BoxN w B t cs)
    (hu : Tryz.prog.underlying ty = some (.struct fs)) (hi : (Tryz.prog.info? ty).map (·.size) = some cs.size) (hde : a.defers = []) (hR : R (.returned (.tuple #[.agg cs, x])) w) : bodyPost Tryz.prog fn R .ret a w := by
  refine bodyPost_ret (v := .tuple #[.agg cs, x]) ?_ hde hR
  rw [results_cell_tmp h, hp, hx]
  simp [asAddr, run_loadVar_row (P := Tryz.prog) w B t ty cs (0, 0) (.struct fs) hg hu rfl hi, Result.andThen]

theorem qr_at {xs : List Rat} {j : Nat} (h : j < xs.length) : (xs.map qr).getD j default = qr (xs.getD j 0) := by
 rw [List.getD_eq_getElem?_getD, List.getElem?_map, List.getD_eq_getElem?_getD, List.getElem?_eq_getElem h]; rfl
theorem zmul_at {xs ys : List Rat} {j : Nat} (h1 : j < xs.length) (h2 : j < ys.length) : (zmul xs ys).getD j 0 = xs.getD j 0 * ys.getD j 0 := by
 simp [zmul, List.getD_eq_getElem?_getD, List.getElem?_zipWith, List.getElem?_eq_getElem h1, List.getElem?_eq_getElem h2]
theorem wt_at {xs : List Rat} {j : Nat} (h : j < xs.length) : wt (xs.getD j 0) ≤ wts xs := by
 refine wt_mem ?_
 rw [List.getD_eq_getElem?_getD, List.getElem?_eq_getElem h]; exact List.getElem_mem h

theorem v_mulfn {w : World} {xs ys : List Rat} {n : Nat} (hx : xs.length = n) (hy : ys.length = n) (hw : wts xs + wts ys ≤ 9000) :
  ∀ (W : World) (j : Nat) (z1 z2 : Zr), j < n → z1.1 = (xs.map qr).getD j default → z2.1 = (ys.map qr).getD j default → ZIn W z1 → ZIn W z2 → Below w.heap.size w W → Calls Tryz.prog 71 (#[zval z1, zval z2] ++ #[]) W (RAns W ((zmul xs ys).getD j 0)) := by
 intro W j z1 z2 hj e1 e2 i1 i2 _
 rw [qr_at (by omega)] at e1 e2
 have w1 := wt_at (xs := xs) (j := j) (by omega)
 have w2 := wt_at (xs := ys) (j := j) (by omega)
 rw [zmul_at (by omega) (by omega)]
 have hm := wt_mul (xs.getD j 0) (ys.getD j 0)
 generalize xs.getD j 0 = X at *
 generalize ys.getD j 0 = Y at *
 obtain ⟨q1, s1, t1⟩ := z1
 obtain ⟨q2, s2, t2⟩ := z2
 dsimp only at e1 e2
 subst e1 e2
 have fX := fit_qr (X := X) (by omega)
 have fY := fit_qr (X := Y) (by omega)
 exact r_mul (qr_can X).is (qr_can Y).is (qr_can (X * Y)) rfl fX.2.1 fX.2.2 fY.2.1 fY.2.2 i1.1 i1.2 i2.1 i2.2

theorem v_dot {w : World} {a1 a2 : Option Addr} {n c1 c2 : Nat} {xs ys : List Rat} (h1 : VReads w (.slice a1 n c1) (xs.map qr)) (h2 : VReads w (.slice a2 n c2) (ys.map qr)) (hw : wts xs + wts ys ≤ 8900) :
  Calls Tryz.prog 44 #[.slice a1 n c1, .slice a2 n c2] w fun e w' => ∃ a c a' c', e = .returned (.tuple #[.agg #[.bool (qr (dot xs ys)).1, .slice a (qr (dot xs ys)).2.1.length c, .slice a' (qr (dot xs ys)).2.2.length c'], .int .i64 0]) ∧ Reads w' (.slice a (qr (dot xs ys)).2.1.length c) (qr (dot xs ys)).2.1 ∧ Reads w' (.slice a' (qr (dot xs ys)).2.2.length c') (qr (dot xs ys)).2.2 ∧ Below w.heap.size w w' := by
 have al : Below w.heap.size w (w.alloc (.cells #[.bool false, .slice none 0 0, .slice none 0 0] 32)) := (Below.refl _ _).alloc (Nat.le_refl _) _
 have M : Mem w [(w.heap.size, 32, [.bool false, .slice none 0 0, .slice none 0 0])] [] (w.alloc (.cells #[.bool false, .slice none 0 0, .slice none 0 0] 32)) := (Mem.start w).new _ _
 have hx : xs.length = n := by have := h1.addr.1; simpa using this.symm
 have hy : ys.length = n := by have := h2.addr.1; simpa using this.symm
 have l1 := wts_len xs
 have l2 := wts_len ys
 have fx := fit_qrs (xs := xs) (by omega)
 have fy := fit_qrs (xs := ys) (by omega)
 have k1 := v_match true (by rw [all_qok_qr, all_qok_qr]; simp) (h1.below al) (h2.below al) ⟨fx, by simp; omega⟩ ⟨fy, by simp; omega⟩
 have hzl : (zmul xs ys).length = n := by simp [zmul, hx, hy]
 have hzw := wts_zmul xs ys
 have k2 := fun (W : World) (r : Below w.heap.size w W) => v_joined (h1.below r) (h2.below r) (by omega) hzl (enters_of Tryz.func71 (by kernel_rfl) rfl) (v_mulfn (w := W) hx hy (by omega))
 have k3 := fun (W : World) {a : Option Addr} {cap : Nat} (h : VReads W (.slice a n cap) ((zmul xs ys).map qr)) => v_sum n hzl.symm h (by omega)
 have hd : rsum (zmul xs ys) = dot xs ys := rfl
 rw [hd] at k3
 unfold RAns at k3
 generalize qr (dot xs ys) = q at *
 have ezl : ((zmul xs ys).map qr).length = n := by simp [hzl]
 generalize (zmul xs ys).map qr = zq at *
 clear h1 h2 hw hx hy l1 l2 fx fy hzl hzw hd
 go_enter Tryz.func44, Tryz.ntmps44
 go_wp2_with fail
 refine k1.mono ?_
 rintro e w1 ⟨rfl, rr⟩
 have M' := M.up rr
 clear M rr k1
 have M := M'; clear M'
 go_wp2_with fail
 refine (k2 _ M.below).mono ?_
 rintro e w2 ⟨v, rfl, hv, rr⟩
 have hr := hv.reads
 obtain ⟨av, cv, ev⟩ := hr.form
 rw [ezl] at ev
 subst ev
 have M' := M.up rr
 have k4 := k3 _ hr
 clear M rr k2 hv hr k3 ezl
 have M := M'; clear M'
 go_wp2_with fail
 refine k4.mono ?_
 rintro e w3 ⟨a3, c3, o3, r3, rfl, g, g', rr⟩
 have M' := ((M.up rr).add g).add g'
 clear M rr k4 g g'
 have f0 := M'.fr 0 rfl 0; have f1 := M'.fr 0 rfl 1; have f2 := M'.fr 0 rfl 2
 have z0 := M'.cell 0 rfl 0 rfl; have z1 := M'.cell 0 rfl 1 rfl; have z2 := M'.cell 0 rfl 2 rfl
 go_wp2_with fail
 have M := (((M'.put 0 rfl rfl 0 (.bool q.1)).put 0 rfl rfl 1 (.slice a3 q.2.1.length c3)).put 0 rfl rfl 2 (.slice o3 q.2.2.length r3))
 refine ret_boxN_tmpV rfl rfl rfl (M.box 0 rfl) Tryz.underlying32 size_rat rfl ?_
 exact ⟨a3, c3, o3, r3, rfl, M.get 1 rfl, M.get 0 rfl, M.below⟩

end Go.Proofs.YtbndmpdaloadjaaGreat
