/- Sums of rows that may not be. -/
import Derived.Test.YtgmbaamfobhceaaGreatGGlV
set_option linter.unusedSimpArgs false
set_option linter.unusedVariables false
set_option maxRecDepth 100000
set_option maxHeartbeats 4000000
namespace Go.Proofs.YtgmbaamfobhceaaGreat
open Go Go.Proofs Go.RowKit Go.Shelf Nu
attribute [local go_sem] Oper.semAt_some
theorem wts_axpy (t : Rat) (a b : List Rat) : wts (axpy t a b) ≤ wts a + wts b + a.length * wt t := by
 induction a generalizing b with
 | nil => show 0 ≤ _; omega
 | cons x a ih =>
  cases b with
  | nil => show 0 ≤ _; omega
  | cons y b =>
   have := wt_mul y t; have := wt_add x (y * t); have := ih b
   show wt (x + y * t) + wts (axpy t a b) ≤ wt x + wts a + (wt y + wts b) + (a.length + 1) * wt t
   rw [Nat.add_mul, Nat.one_mul]; omega
theorem v_add {w : World} {a1 a2 : Option Addr} {n c1 c2 : Nat} {xs ys : List Rat} {T : Rat} {pb ob : Option Addr} {qb rb : Nat} (h1 : VReads w (.slice a1 n c1) (xs.map qr)) (h2 : VReads w (.slice a2 n c2) (ys.map qr)) (g5 : Reads w (.slice pb (qr T).2.1.length qb) (qr T).2.1) (g6 : Reads w (.slice ob (qr T).2.2.length rb) (qr T).2.2) (hw : wts xs ≤ 3000 ∧ wts ys ≤ 3000 ∧ wt T ≤ 3000) :
  Calls Tryz.prog 23 #[.slice a1 n c1, .slice a2 n c2, .agg #[.bool (qr T).1, .slice pb (qr T).2.1.length qb, .slice ob (qr T).2.2.length rb]] w fun e w' => ∃ v, e = .returned (.tuple #[v, .int .i64 0]) ∧ VFresh w' w.heap.size v ((axpy T xs ys).map qr) ∧ Below w.heap.size w w' := by
 have hx : xs.length = n := by have := h1.addr.1; simpa using this.symm
 have l1 := wts_len xs
 exact v_addm h1 h2 g5 g6 (fun x hx => Nat.le_trans (wt_mem hx) hw.1) (fun x hx => Nat.le_trans (wt_mem hx) hw.2.1) hw.2.2 (by omega)
theorem v_add_no {w : World} {a1 a2 : Option Addr} {n1 n2 c1 c2 : Nat} {q1 q2 : List Qr} {b : Bool} {pb ob : Option Addr} {lb qb mb rb : Nat} (hR : (decide (n1 = n2) && (q1.all qok && q2.all qok)) = false) (h1 : VReads w (.slice a1 n1 c1) q1) (h2 : VReads w (.slice a2 n2 c2) q2) (f1 : qrows q1) (f2 : qrows q2) :
  Calls Tryz.prog 23 #[.slice a1 n1 c1, .slice a2 n2 c2, .agg #[.bool b, .slice pb lb qb, .slice ob mb rb]] w fun e w' => e = .returned (.tuple #[.slice none 0 0, .int .i64 1]) ∧ Below w.heap.size w w' := by
 have al : Below w.heap.size w (w.alloc (.cells #[.bool b, .slice pb lb qb, .slice ob mb rb] 44)) := (Below.refl _ _).alloc (Nat.le_refl _) _
 have k1 := v_match false hR.symm (h1.below al) (h2.below al) f1 f2
 clear h1 h2 hR f1 f2
 go_enter Tryz.func23, Tryz.ntmps23
 go_wp2_with fail
 refine k1.mono ?_
 rintro e w1 ⟨rfl, rr⟩
 have HB := Lib.hid (then_below al rr)
 clear k1 al rr
 go_wp2_with fail
 go_ret2
 exact ⟨rfl, HB.out⟩
theorem v_add_bad {w : World} {a1 a2 : Option Addr} {n c1 c2 : Nat} {xs ys : List Rat} {b : Bool} {l d : List Nat} {pb ob : Option Addr} {qb rb : Nat} (h1 : VReads w (.slice a1 n c1) (xs.map qr)) (h2 : VReads w (.slice a2 n c2) (ys.map qr)) (g5 : Reads w (.slice pb l.length qb) l) (g6 : Reads w (.slice ob d.length rb) d) (hf : Fit (b, l, d)) (hk : rchk b l d = false) (hw : wts xs + wts ys ≤ 8900) :
  Calls Tryz.prog 23 #[.slice a1 n c1, .slice a2 n c2, .agg #[.bool b, .slice pb l.length qb, .slice ob d.length rb]] w fun e w' => e = .returned (.tuple #[.slice none 0 0, .int .i64 1]) ∧ Below w.heap.size w w' := by
 have al : Below w.heap.size w (w.alloc (.cells #[.bool b, .slice pb l.length qb, .slice ob d.length rb] 44)) := (Below.refl _ _).alloc (Nat.le_refl _) _
 have M : Mem w [(w.heap.size, 44, [.bool b, .slice pb l.length qb, .slice ob d.length rb])] [(.slice ob d.length rb, d), (.slice pb l.length qb, l)] (w.alloc (.cells #[.bool b, .slice pb l.length qb, .slice ob d.length rb] 44)) := (((Mem.start w).add g5).add g6).new _ _
 have hx : xs.length = n := by have := h1.addr.1; simpa using this.symm
 have hy : ys.length = n := by have := h2.addr.1; simpa using this.symm
 have l1 := wts_len xs
 have l2 := wts_len ys
 have fx := fit_qrs (xs := xs) (by omega)
 have fy := fit_qrs (xs := ys) (by omega)
 have k1 := v_match true (by rw [all_qok_qr, all_qok_qr]; simp) (h1.below al) (h2.below al) ⟨fx, by simp; omega⟩ ⟨fy, by simp; omega⟩
 have kc := fun (W : World) (g5 : Reads W (.slice pb l.length qb) l) (g6 : Reads W (.slice ob d.length rb) d) => rcheck_any (n := b) g5 g6 hf.1.1 hf.1.2 (by have := hf.2.1; dsimp only at this; omega) (by have := hf.2.2; dsimp only at this; omega)
 rw [hk] at kc
 clear h1 h2 hw hx hy l1 l2 fx fy g5 g6 hf hk
 go_enter Tryz.func23, Tryz.ntmps23
 go_wp2_with fail
 refine k1.mono ?_
 rintro e w1 ⟨rfl, rr⟩
 have M' := M.up rr
 clear M rr k1
 have M := M'; clear M'
 have z0 := M.cell 0 rfl 0 rfl; have z1 := M.cell 0 rfl 1 rfl; have z2 := M.cell 0 rfl 2 rfl
 go_wp2_with fail
 refine (kc _ (M.get 1 rfl) (M.get 0 rfl)).mono ?_
 rintro e w2 ⟨rfl, rr⟩
 have HB := Lib.hid (then_below M.below rr)
 clear M rr kc z0 z1 z2
 go_wp2_with fail
 go_ret2
 exact ⟨rfl, HB.out⟩
theorem times_axpy (R : List (List Rat)) (t : Rat) (x y : List Rat) (h : x.length = y.length) : times R (axpy t x y) = axpy t (times R x) (times R y) := by
 induction R with
 | nil => rfl
 | cons r R ih =>
  show dot r (axpy t x y) :: times R (axpy t x y) = (dot r x + dot r y * t) :: axpy t (times R x) (times R y)
  rw [ih, dot_axpy2 t x y r h]
  congr 1
  grind
end Go.Proofs.YtgmbaamfobhceaaGreat
