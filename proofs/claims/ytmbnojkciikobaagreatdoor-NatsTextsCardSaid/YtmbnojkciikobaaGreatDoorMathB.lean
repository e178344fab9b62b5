/- Part by part: how a sum, a difference and a product go on by one part. -/
import Derived.Test.YtmbnojkciikobaaGreatDoorMath
namespace Go.Proofs.YtmbnojkciikobaaGreatDoor.Nu

theorem ring_add (A B C D P s r q : Nat) (h : A + P * C = B) (hs : s = C + D) (hq : s = r + 4294967296 * q) : (A + P * r) + P * 4294967296 * q = B + P * D := by
  grind
theorem ring_mul (A a b p c x t P s r q : Nat) (h : A + P * c = a + x * b) (hs : s = c + (p * x + t)) (hq : s = r + 4294967296 * q) : (A + P * r) + P * 4294967296 * q = (a + P * t) + x * (b + P * p) := by
  grind
theorem ring_blend (A a b t u p q pl mi bo P d pl' mi' bo' dl ml: Int) (h : A + P * (pl - mi - bo) = t * a - u * b)
  (h1 : pl + p * t = dl + 4294967296 * pl') (h2 : mi + q * u = ml + 4294967296 * mi') (h3 : dl - ml - bo = d - 4294967296 * bo') :
  A + P * d + P * 4294967296 * (pl' - mi' - bo') = t * (a + P * p) - u * (b + P * q) := by grind

/-- one part more of a sum -/
theorem add_step {la lb out : List Nat} {k c : Nat} (hk : out.length = k) (h : val out + 4294967296 ^ k * c = val (la.take k) + val (lb.take k)) :
    val (out ++ [(c + (la.getD k 0 + lb.getD k 0)) % 4294967296]) + 4294967296 ^ (k + 1) * ((c + (la.getD k 0 + lb.getD k 0)) / 4294967296) = val (la.take (k + 1)) + val (lb.take (k + 1)) := by
  rw [val_snoc, val_take_succ, val_take_succ, hk, Nat.pow_succ]
  have := ring_add _ _ c (la.getD k 0 + lb.getD k 0) _ _ ((c + (la.getD k 0 + lb.getD k 0)) % 4294967296) ((c + (la.getD k 0 + lb.getD k 0)) / 4294967296) h rfl (by omega)
  rw [this, Nat.mul_add]; omega

/-- one part more of a number so many times, less another one so many times -/
theorem blend_step {A B out : List Nat} {k t u pl mi bo P1 P2 pl' mi' al ml d : Nat} (hk : out.length = k) (h : (val out : Int) + 4294967296 ^ k * ((pl : Int) - mi - bo) = t * val (A.take k) - u * val (B.take k))
    (e1 : P1 = A.getD k 0 * t) (e2 : P2 = B.getD k 0 * u) (e3 : pl' = (pl + P1) / 4294967296) (e4 : mi' = (mi + P2) / 4294967296) (e5 : al = (pl + P1) % 4294967296) (e6 : ml = (mi + P2) % 4294967296)
    (hd : (al : Int) - ml - bo = (d % 4294967296 : Nat) - 4294967296 * (d / 9223372036854775808 : Nat)) :
    (val (out ++ [d % 4294967296]) : Int) + 4294967296 ^ (k + 1) * ((pl' : Int) - mi' - (d / 9223372036854775808 : Nat)) = t * val (A.take (k + 1)) - u * val (B.take (k + 1)) := by
  rw [val_snoc, val_take_succ, val_take_succ, hk, Int.pow_succ]
  have f1 : (pl : Int) + (A.getD k 0 : Nat) * (t : Nat) = al + 4294967296 * pl' := by rw [e5, e3, ← Int.natCast_mul, ← e1]; omega
  have f2 : (mi : Int) + (B.getD k 0 : Nat) * (u : Nat) = ml + 4294967296 * mi' := by rw [e6, e4, ← Int.natCast_mul, ← e2]; omega
  have := ring_blend (val out) (val (A.take k)) (val (B.take k)) t u (A.getD k 0 : Nat) (B.getD k 0 : Nat) pl mi bo (4294967296 ^ k) (d % 4294967296 : Nat) pl' mi' (d / 9223372036854775808 : Nat) al ml h f1 f2 hd
  generalize d % 4294967296 = dm at this ⊢
  generalize d / 9223372036854775808 = db at this ⊢
  have hp : ((4294967296 ^ k : Nat) : Int) = (4294967296 : Int) ^ k := by rw [Int.natCast_pow]; rfl
  simp only [Int.natCast_add, Int.natCast_mul, hp]
  exact this

theorem blend_end {a b o N : Nat} {t u : Nat} {x : Int} (h : (o : Int) + 4294967296 ^ N * x = t * a - u * b) (h1 : u * b ≤ t * a) (h2 : t * a - u * b < 4294967296 ^ N) (h3 : o < 4294967296 ^ N) : o = t * a - u * b := by
  have hp : ((4294967296 ^ N : Nat) : Int) = (4294967296 : Int) ^ N := by rw [Int.natCast_pow]; rfl
  rw [← hp, ← Int.natCast_mul, ← Int.natCast_mul] at h
  generalize 4294967296 ^ N = P at *
  generalize t * a = p at *
  generalize u * b = q at *
  rcases Int.lt_trichotomy x 0 with hx | hx | hx
  · have := Int.mul_le_mul_of_nonneg_left (show x ≤ -1 by omega) (show (0 : Int) ≤ (P : Int) by omega)
    omega
  · subst hx; omega
  · have := Int.mul_le_mul_of_nonneg_left (show 1 ≤ x by omega) (show (0 : Int) ≤ (P : Int) by omega)
    omega

theorem set_take (l : List Nat) (k x : Nat) (hk : k < l.length) : (l.set k x).take (k + 1) = l.take k ++ [x] := by
  rw [List.take_set, List.take_succ_eq_append_getElem hk, List.set_append_right _ _ (by simp; omega)]
  simp [List.length_take, Nat.min_eq_left (Nat.le_of_lt hk)]
theorem set_drop (l : List Nat) (k x : Nat) : (l.set k x).drop (k + 1) = l.drop (k + 1) := by
  rw [List.drop_set, if_pos (by omega)]
theorem getD_of_drop {l m : List Nat} {k : Nat} (h : l.drop k = m.drop k) (j : Nat) (hj : k ≤ j) : l.getD j 0 = m.getD j 0 := by
  have := congrArg (fun t => t.getD (j - k) 0) h
  simpa [List.getD_eq_getElem?_getD, List.getElem?_drop, show k + (j - k) = j by omega] using this
theorem drop_succ_of_drop {l m : List Nat} {k : Nat} (h : l.drop k = m.drop k) : l.drop (k + 1) = m.drop (k + 1) := by
  have := congrArg (List.drop 1) h
  simpa [List.drop_drop] using this

/-- one part more of a number, so many times, put to another one in place -/
theorem times_step {row b cur : List Nat} {k c t : Nat} (hk : k < cur.length) (hd : cur.drop k = row.drop k) (h : val (cur.take k) + 4294967296 ^ k * c = val (row.take k) + t * val (b.take k)) :
    val ((cur.set k ((c + (b.getD k 0 * t + cur.getD k 0)) % 4294967296)).take (k + 1)) + 4294967296 ^ (k + 1) * ((c + (b.getD k 0 * t + cur.getD k 0)) / 4294967296) = val (row.take (k + 1)) + t * val (b.take (k + 1)) := by
  rw [set_take _ _ _ hk, val_snoc, val_take_succ row, val_take_succ b, List.length_take, Nat.min_eq_left (Nat.le_of_lt hk), Nat.pow_succ, getD_of_drop hd k (Nat.le_refl _)]
  exact ring_mul _ _ _ _ c t _ _ _ _ _ h rfl (by omega)

theorem times_bound {c p t r : Nat} (hc : c < 4294967296) (hp : p < 4294967296) (ht : t < 4294967296) (hr : r < 4294967296) : p * t ≤ 18446744065119617025 ∧ c + (p * t + r) < 18446744073709551616 := by
  have : p * t ≤ 4294967295 * 4294967295 := Nat.mul_le_mul (by omega) (by omega)
  omega

/-- what a row is worth within a number -/
theorem val_row (l : List Nat) (i m : Nat) (row' : List Nat) (c : Nat) (x y : Nat) (hl : i + m < l.length) (h0 : l.getD (i + m) 0 = 0) (hr : row'.length = m)
    (h : val row' + 4294967296 ^ m * c = val ((l.drop i).take m) + x * y) :
    val (l.take i ++ row' ++ [c] ++ l.drop (i + m + 1)) = val l + 4294967296 ^ i * (x * y) := by
  have e1 := val_split l i (by omega)
  have e2 := val_split (l.drop i) m (by simp; omega)
  have e3 : (l.drop i).drop m = l.getD (i + m) 0 :: l.drop (i + m + 1) := by
    rw [List.drop_drop, List.drop_eq_getElem_cons hl, List.getD_eq_getElem?_getD, List.getElem?_eq_getElem hl]; rfl
  rw [e3, h0] at e2
  simp only [val] at e2
  rw [e1, e2]
  simp only [val_append, List.length_append, List.length_take, Nat.min_eq_left (show i ≤ l.length by omega), hr, List.length_singleton, val_one, Nat.pow_add, Nat.pow_one]
  generalize 4294967296 ^ i = P at *
  generalize 4294967296 ^ m = S at *
  generalize val (l.drop (i + m + 1)) = Z at *
  generalize val (l.take i) = A at *
  generalize val ((l.drop i).take m) = T at *
  generalize val row' = U at *
  generalize x * y = V at *
  grind

end Go.Proofs.YtmbnojkciikobaaGreatDoor.Nu
