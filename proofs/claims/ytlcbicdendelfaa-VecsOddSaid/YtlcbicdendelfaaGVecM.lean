/- Rows of fractions: what they are worth, place by place, and how long their sums and products are. -/
import Derived.Test.YtlcbicdendelfaaGMathG
namespace Go.Proofs.Ytlcbicdendelfaa
open Go Go.Proofs Go.RowKit Go.Shelf Nu

/-! ### weights: amount above and below together -/
def hgt (X : Rat) : Nat := X.num.natAbs + X.den
def wt (X : Rat) : Nat := (digs (hgt X)).length
theorem wt_num (X : Rat) : (digs X.num.natAbs).length ≤ wt X := digs_mono (Nat.le_add_right _ _)
theorem wt_den (X : Rat) : (digs X.den).length ≤ wt X := digs_mono (Nat.le_add_left _ _)
theorem wt_pos (X : Rat) : 1 ≤ wt X := Nat.le_trans (digs_len_pos X.den_nz) (wt_den X)
theorem wt_rl (X : Rat) : wt X ≤ rl X + 1 := by unfold wt hgt rl; exact digs_add_le _ _
theorem hgt_of {Z : Rat} {n : Int} {m : Nat} (hm : m ≠ 0) (h : Z * (m : Rat) = (n : Rat)) : hgt Z ≤ n.natAbs + m := by
  have := rat_small hm h; unfold hgt; omega
theorem hgt_mul (X Y : Rat) : hgt (X * Y) ≤ hgt X * hgt Y := by
  have hX := rat_den X
  have hY := rat_den Y
  have h0 : X.den * Y.den ≠ 0 := Nat.mul_ne_zero X.den_nz Y.den_nz
  have h := hgt_of (Z := X * Y) (n := X.num * Y.num) h0 (by push_cast; grind)
  rw [Int.natAbs_mul] at h
  refine Nat.le_trans h ?_
  unfold hgt
  rw [Nat.add_mul, Nat.mul_add, Nat.mul_add]
  generalize X.num.natAbs * Y.num.natAbs = p
  generalize X.den * Y.den = q
  omega
theorem hgt_add (X Y : Rat) : hgt (X + Y) ≤ hgt X * hgt Y := by
  have hX := rat_den X
  have hY := rat_den Y
  have h0 : X.den * Y.den ≠ 0 := Nat.mul_ne_zero X.den_nz Y.den_nz
  have h := hgt_of (Z := X + Y) (n := X.num * (Y.den : Int) + Y.num * (X.den : Int)) h0 (by push_cast; grind)
  have h2 := Int.natAbs_add_le (X.num * (Y.den : Int)) (Y.num * (X.den : Int))
  rw [Int.natAbs_mul, Int.natAbs_mul, Int.natAbs_natCast, Int.natAbs_natCast, Nat.mul_comm Y.num.natAbs] at h2
  refine Nat.le_trans h ?_
  unfold hgt
  rw [Nat.add_mul, Nat.mul_add, Nat.mul_add]
  generalize X.num.natAbs * Y.num.natAbs = p at *
  generalize X.den * Y.den = q at *
  generalize X.num.natAbs * Y.den = r at *
  generalize X.den * Y.num.natAbs = s at *
  omega
theorem hgt_neg (X : Rat) : hgt (-X) = hgt X := by simp [hgt]
theorem wt_mul (X Y : Rat) : wt (X * Y) ≤ wt X + wt Y := Nat.le_trans (digs_mono (hgt_mul X Y)) (digs_mul_le _ _)
theorem wt_add (X Y : Rat) : wt (X + Y) ≤ wt X + wt Y := Nat.le_trans (digs_mono (hgt_add X Y)) (digs_mul_le _ _)
theorem wt_neg (X : Rat) : wt (-X) = wt X := by unfold wt; rw [hgt_neg]
theorem wt_sub (X Y : Rat) : wt (X - Y) ≤ wt X + wt Y := by
  rw [Rat.sub_eq_add_neg]; have := wt_add X (-Y); rwa [wt_neg] at this
theorem wt_zero : wt 0 = 1 := by
  show (digs 1).length = 1
  rw [digs_pos (by omega)]; simp [digs_zero]
theorem wt_int (n : Int) (h : n.natAbs < 4294967295) : wt (n : Rat) = 1 := by
  have h1 : hgt (n : Rat) = n.natAbs + 1 := by simp [hgt]
  have h2 := wt_pos (n : Rat)
  have h3 : (digs (n.natAbs + 1)).length ≤ 1 := digs_length_le (by omega)
  unfold wt at *; rw [h1] at *; omega

/-! ### rows -/
def rsum : List Rat → Rat
  | [] => 0
  | x :: l => x + rsum l
def wts : List Rat → Nat
  | [] => 0
  | x :: l => wt x + wts l
theorem rsum_append (l m : List Rat) : rsum (l ++ m) = rsum l + rsum m := by
  induction l with
  | nil => show rsum m = 0 + rsum m; grind
  | cons x l ih => show x + rsum (l ++ m) = x + rsum l + rsum m; rw [ih]; grind
theorem wts_append (l m : List Rat) : wts (l ++ m) = wts l + wts m := by
  induction l with
  | nil => show wts m = 0 + wts m; omega
  | cons x l ih => show wt x + wts (l ++ m) = wt x + wts l + wts m; rw [ih]; omega
theorem wts_len (l : List Rat) : l.length ≤ wts l := by
  induction l with
  | nil => exact Nat.le_refl _
  | cons x l ih => have := wt_pos x; show l.length + 1 ≤ wt x + wts l; omega
theorem wt_rsum (l : List Rat) : wt (rsum l) ≤ wts l + 1 := by
  induction l with
  | nil => show wt 0 ≤ 0 + 1; rw [wt_zero]; omega
  | cons x l ih => have := wt_add x (rsum l); show wt (x + rsum l) ≤ wt x + wts l + 1; omega
theorem wts_take_drop (l : List Rat) (k : Nat) : wts (l.take k) + wts (l.drop k) = wts l := by
  have := wts_append (l.take k) (l.drop k); rw [List.take_append_drop] at this; omega
theorem rsum_take_drop (l : List Rat) (k : Nat) : rsum (l.take k) + rsum (l.drop k) = rsum l := by
  have := rsum_append (l.take k) (l.drop k); rw [List.take_append_drop] at this; exact this.symm
theorem wt_mem {l : List Rat} {x : Rat} (h : x ∈ l) : wt x ≤ wts l := by
  induction l with
  | nil => cases h
  | cons y l ih =>
    show wt x ≤ wt y + wts l
    rcases List.mem_cons.1 h with rfl | h
    · omega
    · have := ih h; omega

def zmul (a b : List Rat) : List Rat := List.zipWith (fun x y => x * y) a b
def axpy (t : Rat) (a b : List Rat) : List Rat := List.zipWith (fun x y => x + y * t) a b
def scl (t : Rat) (a : List Rat) : List Rat := a.map fun x => x * t
def dot (a b : List Rat) : Rat := rsum (zmul a b)
def zeros (n : Nat) : List Rat := List.replicate n 0
theorem wts_zmul (a b : List Rat) : wts (zmul a b) ≤ wts a + wts b := by
  induction a generalizing b with
  | nil => show 0 ≤ _; omega
  | cons x a ih =>
    cases b with
    | nil => show 0 ≤ _; omega
    | cons y b => have := wt_mul x y; have := ih b; show wt (x * y) + wts (zmul a b) ≤ wt x + wts a + (wt y + wts b); omega
theorem wts_axpy (t : Rat) (a b : List Rat) : wts (axpy t a b) ≤ wts a + wts b + a.length * wt t := by
  induction a generalizing b with
  | nil => show 0 ≤ _; omega
  | cons x a ih =>
    cases b with
    | nil => show 0 ≤ _; omega
    | cons y b =>
      have := wt_mul y t; have := wt_add x (y * t); have := ih b
      show wt (x + y * t) + wts (axpy t a b) ≤ wt x + wts a + (wt y + wts b) + (a.length + 1) * wt t
      rw [Nat.add_mul, Nat.one_mul]; omega
theorem wts_scl (t : Rat) (a : List Rat) : wts (scl t a) ≤ wts a + a.length * wt t := by
  induction a with
  | nil => show 0 ≤ _; omega
  | cons x a ih =>
    have := wt_mul x t
    show wt (x * t) + wts (scl t a) ≤ wt x + wts a + (a.length + 1) * wt t
    rw [Nat.add_mul, Nat.one_mul]; omega
theorem wts_zeros (n : Nat) : wts (zeros n) = n := by
  induction n with
  | zero => rfl
  | succ n ih => show wt 0 + wts (zeros n) = n + 1; rw [ih, wt_zero]; omega
theorem dot_cons (x y : Rat) (a b : List Rat) : dot (x :: a) (y :: b) = x * y + dot a b := rfl
theorem dot_comm (a b : List Rat) : dot a b = dot b a := by
  induction a generalizing b with
  | nil => cases b <;> rfl
  | cons x a ih =>
    cases b with
    | nil => rfl
    | cons y b => rw [dot_cons, dot_cons, ih b, Rat.mul_comm]
theorem dot_zeros (a : List Rat) : dot a (zeros a.length) = 0 := by
  induction a with
  | nil => rfl
  | cons x a ih => show x * 0 + dot a (zeros a.length) = 0; rw [ih]; grind
theorem dot_axpy (t : Rat) (a b c : List Rat) (h : a.length = b.length) : dot (axpy t a b) c = dot a c + t * dot b c := by
  induction a generalizing b c with
  | nil =>
    cases b with
    | nil => show (0 : Rat) = 0 + t * 0; grind
    | cons y b => cases h
  | cons x a ih =>
    cases b with
    | nil => cases h
    | cons y b =>
      cases c with
      | nil => show (0 : Rat) = 0 + t * 0; grind
      | cons z c =>
        have := ih b c (by simpa using h)
        show (x + y * t) * z + dot (axpy t a b) c = x * z + dot a c + t * (y * z + dot b c)
        rw [this]; grind
theorem dot_scl (t : Rat) (a c : List Rat) : dot (scl t a) c = t * dot a c := by
  induction a generalizing c with
  | nil => show (0 : Rat) = t * 0; grind
  | cons x a ih =>
    cases c with
    | nil => show (0 : Rat) = t * 0; grind
    | cons z c => show (x * t) * z + dot (scl t a) c = t * (x * z + dot a c); rw [ih c]; grind
theorem dot_self (a : List Rat) : 0 ≤ dot a a ∧ (dot a a = 0 ↔ a = zeros a.length) := by
  induction a with
  | nil => exact ⟨by show (0 : Rat) ≤ 0; grind, fun _ => rfl, fun _ => rfl⟩
  | cons x a ih =>
    have hx : 0 ≤ x * x := by
      rcases Rat.le_total (a := 0) (b := x) with h | h
      · exact Rat.mul_nonneg h h
      · have := Rat.mul_nonneg (a := -x) (b := -x) (by grind) (by grind); grind
    have e : dot (x :: a) (x :: a) = x * x + dot a a := rfl
    refine ⟨by rw [e]; grind, fun h => ?_, fun h => ?_⟩
    · rw [e] at h
      have h1 : x * x = 0 := by grind
      have h2 : dot a a = 0 := by grind
      have hx0 : x = 0 := by rcases Rat.mul_eq_zero.1 h1 with h | h <;> exact h
      rw [ih.2.1 h2, hx0]; simp [zeros, List.replicate_succ]
    · have h3 : x = 0 ∧ a = zeros a.length := by simpa [zeros, List.replicate_succ] using h
      rw [e, ih.2.2 h3.2, h3.1]; grind
theorem dot_nil (l : List Rat) : dot l [] = 0 := by cases l <;> rfl
theorem dot_split (a b : List Rat) (k : Nat) : dot (a.take k) (b.take k) + dot (a.drop k) (b.drop k) = dot a b := by
  induction a generalizing b k with
  | nil => simp only [List.take_nil, List.drop_nil]; show (0 : Rat) + 0 = 0; grind
  | cons x a ih =>
    cases b with
    | nil => rw [List.take_nil, List.drop_nil, dot_nil, dot_nil, dot_nil]; grind
    | cons y b =>
      cases k with
      | zero => show (0 : Rat) + dot (x :: a) (y :: b) = _; grind
      | succ k => have := ih b k; show (x * y + dot (a.take k) (b.take k)) + dot (a.drop k) (b.drop k) = x * y + dot a b; grind
theorem axpy_back (t : Rat) (a b : List Rat) (h : a.length = b.length) : axpy (0 - t) (axpy t a b) b = a := by
  induction a generalizing b with
  | nil => rfl
  | cons x a ih =>
    cases b with
    | nil => cases h
    | cons y b =>
      show (x + y * t + y * (0 - t)) :: axpy (0 - t) (axpy t a b) b = x :: a
      rw [ih b (by simpa using h)]; congr 1; grind
theorem axpy_zero (a b : List Rat) (h : a.length = b.length) : axpy 0 a b = a := by
  induction a generalizing b with
  | nil => rfl
  | cons x a ih =>
    cases b with
    | nil => cases h
    | cons y b => show (x + y * 0) :: axpy 0 a b = x :: a; rw [ih b (by simpa using h)]; congr 1; grind
theorem axpy_zeros (t : Rat) (b : List Rat) : axpy t (zeros b.length) b = scl t b := by
  induction b with
  | nil => rfl
  | cons y b ih => show (0 + y * t) :: axpy t (zeros b.length) b = (y * t) :: scl t b; rw [ih]; congr 1; grind
theorem axpy_length (t : Rat) (a b : List Rat) (h : a.length = b.length) : (axpy t a b).length = a.length := by simp [axpy, h]
theorem scl_scl (x y : Rat) (a : List Rat) : scl y (scl x a) = scl (x * y) a := by
  simp only [scl, List.map_map]
  congr 1; funext z; show z * x * y = z * (x * y); grind
theorem scl_one (a : List Rat) : scl 1 a = a := by
  induction a with
  | nil => rfl
  | cons x a ih => show (x * 1) :: scl 1 a = x :: a; rw [ih]; congr 1; grind
theorem scl_zero (a : List Rat) : scl 0 a = zeros a.length := by
  induction a with
  | nil => rfl
  | cons x a ih => show (x * 0) :: scl 0 a = 0 :: zeros a.length; rw [ih]; congr 1; grind
theorem scl_length (t : Rat) (a : List Rat) : (scl t a).length = a.length := by simp [scl]
theorem zeros_length (n : Nat) : (zeros n).length = n := by simp [zeros]

/-! ### fractions as they lie -/
abbrev Qr : Type := Bool × List Nat × List Nat
def qr (X : Rat) : Qr := (decide (X.num < 0), digs X.num.natAbs, digs X.den)
theorem qr_can (X : Rat) : RCan (qr X).1 (qr X).2.1 (qr X).2.2 X := ⟨⟨rfl, rfl⟩, rfl⟩
def qval (q : Qr) : Rat := rv q.1 q.2.1 q.2.2
def qok (q : Qr) : Bool := rchk q.1 q.2.1 q.2.2
/-- parts are parts, and not too many -/
def Fit (q : Qr) : Prop := (Sm q.2.1 ∧ Sm q.2.2) ∧ q.2.1.length ≤ 9999 ∧ q.2.2.length ≤ 9999
theorem Fit.is {q : Qr} (h : Fit q) : RIs q.1 q.2.1 q.2.2 (qval q) := ⟨h.1.1, h.1.2, rfl⟩
theorem RCan.qr {n : Bool} {l d : List Nat} {X : Rat} (h : RCan n l d X) : (n, l, d) = Ytlcbicdendelfaa.qr X := by
  obtain ⟨⟨rfl, rfl⟩, rfl⟩ := h; rfl
theorem Fit.eq {q : Qr} (h : Fit q) (hk : qok q = true) : q = qr (qval q) := (rv_can h.1.1 h.1.2 hk).qr
theorem qval_qr (X : Rat) : qval (qr X) = X := (qr_can X).is.2.2
theorem qok_qr (X : Rat) : qok (qr X) = true := (qr_can X).chk
theorem fit_qr {X : Rat} (h : wt X ≤ 9999) : Fit (qr X) := ⟨(qr_can X).sm, Nat.le_trans (wt_num X) h, Nat.le_trans (wt_den X) h⟩
theorem fits_eq {qs : List Qr} (h : ∀ q ∈ qs, Fit q) (hk : qs.all qok = true) : qs = (qs.map qval).map qr := by
  rw [List.map_map]
  conv => lhs; rw [← List.map_id qs]
  refine List.map_congr_left fun q hq => (h q hq).eq (List.all_eq_true.1 hk q hq)
theorem map_qval_qr (xs : List Rat) : (xs.map qr).map qval = xs := by
  rw [List.map_map]; conv => rhs; rw [← List.map_id xs]
  exact List.map_congr_left fun x _ => qval_qr x
theorem all_qok_qr (xs : List Rat) : (xs.map qr).all qok = true := by
  rw [List.all_eq_true]; intro q hq; obtain ⟨x, _, rfl⟩ := List.mem_map.1 hq; exact qok_qr x
theorem fit_qrs {xs : List Rat} (h : wts xs ≤ 9999) : ∀ q ∈ xs.map qr, Fit q := by
  intro q hq; obtain ⟨x, hx, rfl⟩ := List.mem_map.1 hq; exact fit_qr (Nat.le_trans (wt_mem hx) h)
end Go.Proofs.Ytlcbicdendelfaa
