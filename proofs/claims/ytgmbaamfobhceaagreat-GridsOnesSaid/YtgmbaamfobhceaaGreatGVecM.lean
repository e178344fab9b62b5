/- Rows of fractions: what they are worth, place by place, and how long their sums and products are. -/
import Derived.Test.YtgmbaamfobhceaaGreatGMathG
set_option linter.unusedSimpArgs false
set_option linter.unusedVariables false
namespace Go.Proofs.YtgmbaamfobhceaaGreat
open Go Go.Proofs Go.RowKit Go.Shelf Nu
/-! ### weights: amount above and below together -/
def hgt (X : Rat) : Nat := X.num.natAbs + X.den
def wt (X : Rat) : Nat := (digs (hgt X)).length
theorem wt_num (X : Rat) : (digs X.num.natAbs).length ≤ wt X := digs_mono (Nat.le_add_right _ _)
theorem wt_den (X : Rat) : (digs X.den).length ≤ wt X := digs_mono (Nat.le_add_left _ _)
theorem wt_pos (X : Rat) : 1 ≤ wt X := Nat.le_trans (digs_len_pos X.den_nz) (wt_den X)
theorem wt_rl (X : Rat) : wt X ≤ rl X + 1 := by unfold wt hgt rl; exact digs_add_le _ _
theorem hgt_of {Z : Rat} {n : Int} {m : Nat} (hm : m ≠ 0) (h : Z * (m : Rat) = (n : Rat)) : hgt Z ≤ n.natAbs + m := by
 have := rat_small hm h; unfold hgt; omega
theorem hgt_mul (X Y : Rat) : hgt (X * Y) ≤ hgt X * hgt Y := by
 have hX := rat_den X
 have hY := rat_den Y
 have h0 : X.den * Y.den ≠ 0 := Nat.mul_ne_zero X.den_nz Y.den_nz
 have h := hgt_of (Z := X * Y) (n := X.num * Y.num) h0 (by push_cast; grind)
 rw [Int.natAbs_mul] at h
 refine Nat.le_trans h ?_
 unfold hgt
 rw [Nat.add_mul, Nat.mul_add, Nat.mul_add]
 generalize X.num.natAbs * Y.num.natAbs = p
 generalize X.den * Y.den = q
 omega
theorem hgt_add (X Y : Rat) : hgt (X + Y) ≤ hgt X * hgt Y := by
 have hX := rat_den X
 have hY := rat_den Y
 have h0 : X.den * Y.den ≠ 0 := Nat.mul_ne_zero X.den_nz Y.den_nz
 have h := hgt_of (Z := X + Y) (n := X.num * (Y.den : Int) + Y.num * (X.den : Int)) h0 (by push_cast; grind)
 have h2 := Int.natAbs_add_le (X.num * (Y.den : Int)) (Y.num * (X.den : Int))
 rw [Int.natAbs_mul, Int.natAbs_mul, Int.natAbs_natCast, Int.natAbs_natCast, Nat.mul_comm Y.num.natAbs] at h2
 refine Nat.le_trans h ?_
 unfold hgt
 rw [Nat.add_mul, Nat.mul_add, Nat.mul_add]
 generalize X.num.natAbs * Y.num.natAbs = p at *
 generalize X.den * Y.den = q at *
 generalize X.num.natAbs * Y.den = r at *
 generalize X.den * Y.num.natAbs = s at *
 omega
theorem hgt_neg (X : Rat) : hgt (-X) = hgt X := by simp [hgt]
theorem wt_mul (X Y : Rat) : wt (X * Y) ≤ wt X + wt Y := Nat.le_trans (digs_mono (hgt_mul X Y)) (digs_mul_le _ _)
theorem wt_add (X Y : Rat) : wt (X + Y) ≤ wt X + wt Y := Nat.le_trans (digs_mono (hgt_add X Y)) (digs_mul_le _ _)
theorem wt_neg (X : Rat) : wt (-X) = wt X := by unfold wt; rw [hgt_neg]
theorem wt_sub (X Y : Rat) : wt (X - Y) ≤ wt X + wt Y := by
 rw [Rat.sub_eq_add_neg]; have := wt_add X (-Y); rwa [wt_neg] at this
theorem wt_zero : wt 0 = 1 := by
 show (digs 1).length = 1
 rw [digs_pos (by omega)]; simp [digs_zero]
theorem wt_int (n : Int) (h : n.natAbs < 4294967295) : wt (n : Rat) = 1 := by
 have h1 : hgt (n : Rat) = n.natAbs + 1 := by simp [hgt]
 have h2 := wt_pos (n : Rat)
 have h3 : (digs (n.natAbs + 1)).length ≤ 1 := digs_length_le (by omega)
 unfold wt at *; rw [h1] at *; omega
/-! ### rows -/
def rsum : List Rat → Rat
 | [] => 0
 | x :: l => x + rsum l
def wts : List Rat → Nat
 | [] => 0
 | x :: l => wt x + wts l
theorem rsum_append (l m : List Rat) : rsum (l ++ m) = rsum l + rsum m := by
 induction l with
 | nil => show rsum m = 0 + rsum m; grind
 | cons x l ih => show x + rsum (l ++ m) = x + rsum l + rsum m; rw [ih]; grind
theorem wts_append (l m : List Rat) : wts (l ++ m) = wts l + wts m := by
 induction l with
 | nil => show wts m = 0 + wts m; omega
 | cons x l ih => show wt x + wts (l ++ m) = wt x + wts l + wts m; rw [ih]; omega
theorem wts_len (l : List Rat) : l.length ≤ wts l := by
 induction l with
 | nil => exact Nat.le_refl _
 | cons x l ih => have := wt_pos x; show l.length + 1 ≤ wt x + wts l; omega
theorem wt_rsum (l : List Rat) : wt (rsum l) ≤ wts l + 1 := by
 induction l with
 | nil => show wt 0 ≤ 0 + 1; rw [wt_zero]; omega
 | cons x l ih => have := wt_add x (rsum l); show wt (x + rsum l) ≤ wt x + wts l + 1; omega
theorem wts_take_drop (l : List Rat) (k : Nat) : wts (l.take k) + wts (l.drop k) = wts l := by
 have := wts_append (l.take k) (l.drop k); rw [List.take_append_drop] at this; omega
theorem rsum_take_drop (l : List Rat) (k : Nat) : rsum (l.take k) + rsum (l.drop k) = rsum l := by
 have := rsum_append (l.take k) (l.drop k); rw [List.take_append_drop] at this; exact this.symm
theorem wt_mem {l : List Rat} {x : Rat} (h : x ∈ l) : wt x ≤ wts l := by
 induction l with
 | nil => cases h
 | cons y l ih =>
  show wt x ≤ wt y + wts l
  rcases List.mem_cons.1 h with rfl | h
  · omega
  · have := ih h; omega
def zmul (a b : List Rat) : List Rat := List.zipWith (fun x y => x * y) a b
def axpy (t : Rat) (a b : List Rat) : List Rat := List.zipWith (fun x y => x + y * t) a b
def scl (t : Rat) (a : List Rat) : List Rat := a.map fun x => x * t
def dot (a b : List Rat) : Rat := rsum (zmul a b)
def zeros (n : Nat) : List Rat := List.replicate n 0
theorem wts_zmul (a b : List Rat) : wts (zmul a b) ≤ wts a + wts b := by
 induction a generalizing b with
 | nil => show 0 ≤ _; omega
 | cons x a ih =>
  cases b with
  | nil => show 0 ≤ _; omega
  | cons y b => have := wt_mul x y; have := ih b; show wt (x * y) + wts (zmul a b) ≤ wt x + wts a + (wt y + wts b); omega
theorem dot_cons (x y : Rat) (a b : List Rat) : dot (x :: a) (y :: b) = x * y + dot a b := rfl
theorem dot_comm (a b : List Rat) : dot a b = dot b a := by
 induction a generalizing b with
 | nil => cases b <;> rfl
 | cons x a ih =>
  cases b with
  | nil => rfl
  | cons y b => rw [dot_cons, dot_cons, ih b, Rat.mul_comm]
theorem dot_zeros (a : List Rat) : dot a (zeros a.length) = 0 := by
 induction a with
 | nil => rfl
 | cons x a ih => show x * 0 + dot a (zeros a.length) = 0; rw [ih]; grind
theorem dot_axpy (t : Rat) (a b c : List Rat) (h : a.length = b.length) : dot (axpy t a b) c = dot a c + t * dot b c := by
 induction a generalizing b c with
 | nil =>
  cases b with
  | nil => show (0 : Rat) = 0 + t * 0; grind
  | cons y b => cases h
 | cons x a ih =>
  cases b with
  | nil => cases h
  | cons y b =>
   cases c with
   | nil => show (0 : Rat) = 0 + t * 0; grind
   | cons z c =>
    have := ih b c (by simpa using h)
    show (x + y * t) * z + dot (axpy t a b) c = x * z + dot a c + t * (y * z + dot b c)
    rw [this]; grind
/-! ### fractions as they lie -/
abbrev Qr : Type := Bool × List Nat × List Nat
def qr (X : Rat) : Qr := (decide (X.num < 0), digs X.num.natAbs, digs X.den)
theorem qr_can (X : Rat) : RCan (qr X).1 (qr X).2.1 (qr X).2.2 X := ⟨⟨rfl, rfl⟩, rfl⟩
def qval (q : Qr) : Rat := rv q.1 q.2.1 q.2.2
def qok (q : Qr) : Bool := rchk q.1 q.2.1 q.2.2
def Fit (q : Qr) : Prop := (Sm q.2.1 ∧ Sm q.2.2) ∧ q.2.1.length ≤ 9999 ∧ q.2.2.length ≤ 9999
theorem Fit.is {q : Qr} (h : Fit q) : RIs q.1 q.2.1 q.2.2 (qval q) := ⟨h.1.1, h.1.2, rfl⟩
theorem RCan.qr {n : Bool} {l d : List Nat} {X : Rat} (h : RCan n l d X) : (n, l, d) = YtgmbaamfobhceaaGreat.qr X := by
 obtain ⟨⟨rfl, rfl⟩, rfl⟩ := h; rfl
theorem Fit.eq {q : Qr} (h : Fit q) (hk : qok q = true) : q = qr (qval q) := (rv_can h.1.1 h.1.2 hk).qr
theorem qval_qr (X : Rat) : qval (qr X) = X := (qr_can X).is.2.2
theorem qok_qr (X : Rat) : qok (qr X) = true := (qr_can X).chk
theorem fit_qr {X : Rat} (h : wt X ≤ 9999) : Fit (qr X) := ⟨(qr_can X).sm, Nat.le_trans (wt_num X) h, Nat.le_trans (wt_den X) h⟩
theorem fits_eq {qs : List Qr} (h : ∀ q ∈ qs, Fit q) (hk : qs.all qok = true) : qs = (qs.map qval).map qr := by
 rw [List.map_map]
 conv => lhs; rw [← List.map_id qs]
 refine List.map_congr_left fun q hq => (h q hq).eq (List.all_eq_true.1 hk q hq)
theorem all_qok_qr (xs : List Rat) : (xs.map qr).all qok = true := by
 rw [List.all_eq_true]; intro q hq; obtain ⟨x, _, rfl⟩ := List.mem_map.1 hq; exact qok_qr x
theorem fit_qrs {xs : List Rat} (h : wts xs ≤ 9999) : ∀ q ∈ xs.map qr, Fit q := by
 intro q hq; obtain ⟨x, hx, rfl⟩ := List.mem_map.1 hq; exact fit_qr (Nat.le_trans (wt_mem hx) h)
end Go.Proofs.YtgmbaamfobhceaaGreat
