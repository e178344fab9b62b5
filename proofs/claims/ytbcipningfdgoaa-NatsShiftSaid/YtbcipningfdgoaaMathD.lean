/- Of division: a guess by the highest parts. -/
import Derived.Test.YtbcipningfdgoaaMathB
namespace Go.Proofs.Ytbcipningfdgoaa.Nu

/-- a number by its lower parts and its highest two -/
theorem val_top2 {l : List Nat} {n : Nat} (hn : l.length = n + 2) : val l = val (l.take n) + 4294967296 ^ n * (l.getD n 0 + 4294967296 * l.getD (n + 1) 0) := by
  have h1 := val_take_succ l (n + 1)
  have h2 := val_take_succ l n
  rw [List.take_of_length_le (by omega)] at h1
  rw [h1, h2, Nat.pow_succ, Nat.mul_add]
  rw [Nat.add_assoc, Nat.mul_assoc]
/-- .. its highest three -/
theorem val_top3 {l : List Nat} {n : Nat} (hn : l.length = n + 3) : val l = val (l.take n) + 4294967296 ^ n * (l.getD n 0 + 4294967296 * (l.getD (n + 1) 0 + 4294967296 * l.getD (n + 2) 0)) := by
  have h1 := val_take_succ l (n + 2)
  have h2 := val_take_succ l (n + 1)
  have h3 := val_take_succ l n
  rw [List.take_of_length_le (by omega)] at h1
  have e1 : 4294967296 ^ (n + 1) = 4294967296 * 4294967296 ^ n := by rw [Nat.pow_succ, Nat.mul_comm]
  have e2 : 4294967296 ^ (n + 2) = 4294967296 * (4294967296 * 4294967296 ^ n) := by rw [Nat.pow_succ, e1, Nat.mul_comm]
  rw [e1] at h2
  rw [e2] at h1
  rw [h1, show n + 2 = n + 1 + 1 from rfl, h2, h3]
  generalize 4294967296 ^ n = P
  generalize l.getD n 0 = x
  generalize l.getD (n + 1) 0 = y
  generalize l.getD (n + 1 + 1) 0 = z
  clear h1 h2 h3 e1 e2 hn
  grind
theorem val_take_lt {l : List Nat} (h : Sm l) {n : Nat} (hn : n ≤ l.length) : val (l.take n) < 4294967296 ^ n := by
  have := val_lt (h.take n)
  rwa [List.length_take, Nat.min_eq_left hn] at this

section
variable {R D X r0 d0 v1 v2 rn rm rk T left : Nat}
/-- the guess at the start is not too small -/
theorem guess_start (hR : R = r0 + X * (rk + 4294967296 * (rm + 4294967296 * rn))) (hr : r0 < X) (hD : D = d0 + X * (v2 + 4294967296 * v1)) (hk : rk < 4294967296) (hv : 0 < v1) :
    R < ((rm + 4294967296 * rn) / v1 + 1) * D := by
  generalize hq : (rm + 4294967296 * rn) / v1 = q
  have h1 : rm + 4294967296 * rn + 1 ≤ (q + 1) * v1 := by
    have := Nat.div_add_mod (rm + 4294967296 * rn) v1
    have := Nat.mod_lt (rm + 4294967296 * rn) hv
    rw [hq] at *
    rw [Nat.add_mul, Nat.mul_comm q, Nat.one_mul]
    omega
  have h2 : R < X * (4294967296 * (rm + 4294967296 * rn + 1)) := by
    have : X * (rk + 4294967296 * (rm + 4294967296 * rn)) + X ≤ X * (4294967296 * (rm + 4294967296 * rn + 1)) := by
      rw [← Nat.mul_succ]; exact Nat.mul_le_mul_left _ (by omega)
    omega
  have h3 : X * (4294967296 * (rm + 4294967296 * rn + 1)) ≤ X * (4294967296 * ((q + 1) * v1)) := Nat.mul_le_mul_left _ (Nat.mul_le_mul_left _ h1)
  have h4 : X * (4294967296 * ((q + 1) * v1)) ≤ (q + 1) * D := by
    rw [hD]
    have : X * (4294967296 * ((q + 1) * v1)) = (q + 1) * (X * (4294967296 * v1)) := by
      rw [Nat.mul_left_comm 4294967296, Nat.mul_left_comm X]
    rw [this]
    refine Nat.mul_le_mul_left _ ?_
    rw [Nat.mul_add]; omega
  omega
/-- where the next part says so, it is too great -/
theorem guess_down (hR : R = r0 + X * (rk + 4294967296 * (rm + 4294967296 * rn))) (hr : r0 < X) (hD : D = d0 + X * (v2 + 4294967296 * v1)) (hh : rm + 4294967296 * rn = T * v1 + left)
    (hc : left * 4294967296 + rk < T * v2) : R < T * D := by
  have h1 : rk + 4294967296 * (rm + 4294967296 * rn) + 1 ≤ T * (v2 + 4294967296 * v1) := by
    rw [hh, Nat.mul_add T, Nat.mul_left_comm T, Nat.mul_add 4294967296]; omega
  have h2 : X * (rk + 4294967296 * (rm + 4294967296 * rn)) + X ≤ X * (T * (v2 + 4294967296 * v1)) := by
    rw [← Nat.mul_succ]; exact Nat.mul_le_mul_left _ h1
  have h3 : X * (T * (v2 + 4294967296 * v1)) ≤ T * D := by
    rw [hD, Nat.mul_add T (d0), Nat.mul_left_comm T X]; omega
  omega
theorem guess_down_top (h : R < 4294967296 * D) (hT : 4294967295 < T) : R < T * D :=
  Nat.lt_of_lt_of_le h (Nat.mul_le_mul_right _ (by omega))
/-- a guess that stands is at most one too great -/
theorem guess_end (hR : R = r0 + X * (rk + 4294967296 * (rm + 4294967296 * rn))) (hD : D = d0 + X * (v2 + 4294967296 * v1)) (hd : d0 < X) (hv : 2147483648 ≤ v1) (hT : T ≤ 4294967295)
    (hc : T * v2 + 4294967296 * (T * v1) ≤ rk + 4294967296 * (rm + 4294967296 * rn)) : (T - 1) * D ≤ R := by
  rcases Nat.eq_zero_or_pos T with rfl | hp
  · simp
  · obtain ⟨t, rfl⟩ : ∃ t, T = t + 1 := ⟨T - 1, by omega⟩
    rw [Nat.add_sub_cancel]
    have h1 : t * (v2 + 4294967296 * v1 + 1) ≤ rk + 4294967296 * (rm + 4294967296 * rn) := by
      have e1 : (t + 1) * v2 = t * v2 + v2 := by rw [Nat.add_mul, Nat.one_mul]
      have e2 : (t + 1) * v1 = t * v1 + v1 := by rw [Nat.add_mul, Nat.one_mul]
      rw [e1, e2] at hc
      rw [Nat.mul_add, Nat.mul_add, Nat.mul_left_comm t, Nat.mul_one]
      omega
    have h2 : t * D ≤ t * (X * (v2 + 4294967296 * v1 + 1)) := Nat.mul_le_mul_left _ (by rw [hD, Nat.mul_succ]; omega)
    have h3 : t * (X * (v2 + 4294967296 * v1 + 1)) = X * (t * (v2 + 4294967296 * v1 + 1)) := Nat.mul_left_comm ..
    have h4 := Nat.mul_le_mul_left X h1
    omega
theorem guess_end1 (hh : rm + 4294967296 * rn = T * v1 + left) (hc : T * v2 ≤ left * 4294967296 + rk) : T * v2 + 4294967296 * (T * v1) ≤ rk + 4294967296 * (rm + 4294967296 * rn) := by
  rw [hh, Nat.mul_add]; omega
theorem guess_end2 (hh : rm + 4294967296 * rn = T * v1 + left) (hl : 4294967295 < left) (hT : T ≤ 4294967295) (hv : v2 < 4294967296) : T * v2 + 4294967296 * (T * v1) ≤ rk + 4294967296 * (rm + 4294967296 * rn) := by
  have : T * v2 ≤ 4294967295 * 4294967295 := Nat.mul_le_mul hT (by omega)
  rw [hh, Nat.mul_add]; omega
/-- where much is left, the guess goes into a part -/
theorem guess_part (hR : R = r0 + X * (rk + 4294967296 * (rm + 4294967296 * rn))) (hD : D = d0 + X * (v2 + 4294967296 * v1)) (hd : d0 < X) (hv : v2 < 4294967296) (h : R < 4294967296 * D)
    (hh : rm + 4294967296 * rn = T * v1 + left) (hl : 4294967295 < left) : T ≤ 4294967295 := by
  have h1 : X * (4294967296 * (rm + 4294967296 * rn)) ≤ R := by rw [hR, Nat.mul_add X]; omega
  have h2 : D < X * (4294967296 * (v1 + 1)) := by
    have : X * (v2 + 4294967296 * v1) + X ≤ X * (4294967296 * (v1 + 1)) := by rw [← Nat.mul_succ]; exact Nat.mul_le_mul_left _ (by omega)
    omega
  have h3 : X * (4294967296 * (rm + 4294967296 * rn)) < X * (4294967296 * (4294967296 * (v1 + 1))) := by
    have : X * (4294967296 * (4294967296 * (v1 + 1))) = 4294967296 * (X * (4294967296 * (v1 + 1))) := Nat.mul_left_comm ..
    omega
  have h4 := Nat.lt_of_mul_lt_mul_left h3
  have h5 : T * v1 < 4294967296 * v1 := by omega
  have := Nat.lt_of_mul_lt_mul_right h5
  omega
end

/-- what one times too much makes -/
theorem take_out {R D T : Nat} (h1 : (T - 1) * D ≤ R) (h2 : R < (T + 1) * D) : (T * D ≤ R ∧ R / D = T ∧ R - T * D = R % D) ∨ (R < T * D ∧ R / D = T - 1 ∧ R + D - T * D = R % D ∧ 0 < T) := by
  have hD : 0 < D := by
    rcases Nat.eq_zero_or_pos D with h | h
    · subst h; simp at h2
    · exact h
  rcases Nat.lt_or_ge R (T * D) with h | h
  · have hT : 0 < T := by
      rcases Nat.eq_zero_or_pos T with h0 | h0
      · subst h0; simp at h
      · exact h0
    obtain ⟨t, rfl⟩ : ∃ t, T = t + 1 := ⟨T - 1, by omega⟩
    rw [Nat.add_sub_cancel] at h1 ⊢
    have e : (t + 1) * D = t * D + D := by rw [Nat.add_mul, Nat.one_mul]
    have hq : R / D = t := by
      rw [Nat.div_eq_iff hD]
      constructor <;> omega
    refine .inr ⟨h, hq, ?_, hT⟩
    have := Nat.div_add_mod R D
    rw [hq, Nat.mul_comm] at this
    omega
  · have e : (T + 1) * D = T * D + D := by rw [Nat.add_mul, Nat.one_mul]
    have hq : R / D = T := by
      rw [Nat.div_eq_iff hD]
      constructor <;> omega
    refine .inl ⟨h, hq, ?_⟩
    have := Nat.div_add_mod R D
    rw [hq, Nat.mul_comm] at this
    omega

/-- one part more of a number less another one so many times, in place -/
theorem ring_less (A P a b x t p c bo r c2 bo2 : Int) (h : A + x * b = a + P * (c + bo)) (hr : r - bo2 * 4294967296 = t - (c + p * x - c2 * 4294967296) - bo) :
    (A + P * r) + x * (b + P * p) = (a + P * t) + P * 4294967296 * (c2 + bo2) := by grind
end Go.Proofs.Ytbcipningfdgoaa.Nu
