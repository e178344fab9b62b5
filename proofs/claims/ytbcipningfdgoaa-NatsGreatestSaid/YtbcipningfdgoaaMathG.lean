/- Lehmer's way: what some divisions, one behind the other, make of two numbers, told by their heads. -/
import Derived.Test.YtbcipningfdgoaaMathB
namespace Go.Proofs.Ytbcipningfdgoaa.Nu

/-- what the loop knows of two heads ha, hb: what stands, and the factors by which it is made of both; `ev`: each the other way about -/
def LS (ha hb A B u1 u2 v1 v2 : Nat) (ev : Bool) : Prop :=
  (if ev then A + u1 * ha = v1 * hb ∧ B + v2 * hb = u2 * ha ∧ u2 * v1 = u1 * v2 + 1 else A + v1 * hb = u1 * ha ∧ B + u2 * ha = v2 * hb ∧ u1 * v2 = u2 * v1 + 1) ∧
  A * v2 + B * v1 = ha ∧ B ≤ A ∧ u2 ≤ v2 ∧ u1 + u2 ≤ v1 + v2 ∧ 1 ≤ v2 ∧ (v1 = 0 ∨ 1 ≤ u2)

theorem LS.start {ha hb : Nat} (h : hb ≤ ha) : LS ha hb ha hb 1 0 0 1 false :=
  ⟨by simp, by simp, h, by omega, by omega, by omega, .inl rfl⟩

theorem ls_ring1 (A B q r ha hb u1 u2 v1 v2 : Nat) (hA : A = B * q + r) (h1 : A + v1 * hb = u1 * ha) (h2 : B + u2 * ha = v2 * hb) : r + (v1 + q * v2) * hb = (u1 + q * u2) * ha := by
  subst hA
  have e : q * (B + u2 * ha) = q * (v2 * hb) := by rw [h2]
  grind
theorem ls_ring2 (A B q r v1 v2 : Nat) (hA : A = B * q + r) : B * (v1 + q * v2) + r * v2 = A * v2 + B * v1 := by
  subst hA; grind

theorem LS.step {ha hb A B u1 u2 v1 v2 : Nat} {ev : Bool} (h : LS ha hb A B u1 u2 v1 v2 ev) (hB : 1 ≤ B) : LS ha hb B (A % B) u2 (u1 + A / B * u2) v2 (v1 + A / B * v2) (!ev) := by
  obtain ⟨h1, h2, h3, h4, h5, h6, h7⟩ := h
  have hd := (Nat.div_add_mod A B).symm
  have hr := Nat.mod_lt A (show B > 0 by omega)
  have hq : 1 ≤ A / B := (Nat.one_le_div_iff (by omega)).2 h3
  generalize A / B = q at *
  generalize A % B = r at *
  obtain ⟨t, rfl⟩ : ∃ t, q = t + 1 := ⟨q - 1, by omega⟩
  have e1 : (t + 1) * u2 = t * u2 + u2 := by rw [Nat.add_mul, Nat.one_mul]
  have e2 : (t + 1) * v2 = t * v2 + v2 := by rw [Nat.add_mul, Nat.one_mul]
  have e3 : t * u2 ≤ t * v2 := Nat.mul_le_mul_left _ h4
  have hu : 1 ≤ u1 + u2 := by
    rcases Nat.eq_zero_or_pos (u1 + u2) with h | h
    · obtain rfl : u1 = 0 := by omega
      obtain rfl : u2 = 0 := by omega
      cases ev <;> simp at h1
    · exact h
  refine ⟨?_, (ls_ring2 A B (t + 1) r v1 v2 hd).trans h2, by omega, by omega, by omega, by omega, .inr (by omega)⟩
  cases ev
  · simp only [Bool.false_eq_true, if_false] at h1
    obtain ⟨g1, g2, g3⟩ := h1
    simp only [Bool.not_false, if_true]
    exact ⟨g2, ls_ring1 A B (t + 1) r ha hb u1 u2 v1 v2 hd g1 g2, by grind⟩
  · simp only [if_true] at h1
    obtain ⟨g1, g2, g3⟩ := h1
    simp only [Bool.not_true, Bool.false_eq_true, if_false]
    exact ⟨g2, ls_ring1 A B (t + 1) r hb ha v1 v2 u1 u2 hd g1 g2, by grind⟩

/-- what a row of factors makes of two numbers whose heads are ha and hb -/
def Made (ha hb u0 u1 v0 v1 : Nat) (ev : Bool) : Prop :=
  ∀ a b K, ha * K ≤ a → a < (ha + 1) * K → hb * K ≤ b → b < (hb + 1) * K →
    ∃ x y : Nat, (if ev then x + v0 * b = u0 * a ∧ y + u1 * a = v1 * b else x + u0 * a = v0 * b ∧ y + v1 * b = u1 * a) ∧ y < x ∧ x ≤ b ∧ Nat.gcd x y = Nat.gcd a b

theorem gcd_of {a b x y u1 u2 v1 v2 : Nat} (h1 : x + v1 * b = u1 * a) (h2 : y + u2 * a = v2 * b) (h3 : x * v2 + y * v1 = a) (h4 : x * u2 + y * u1 = b) : Nat.gcd x y = Nat.gcd a b := by
  refine Nat.dvd_antisymm ?_ ?_
  · refine Nat.dvd_gcd ?_ ?_
    · rw [← h3]; exact Nat.dvd_add (Nat.dvd_mul_right_of_dvd (Nat.gcd_dvd_left x y) _) (Nat.dvd_mul_right_of_dvd (Nat.gcd_dvd_right x y) _)
    · rw [← h4]; exact Nat.dvd_add (Nat.dvd_mul_right_of_dvd (Nat.gcd_dvd_left x y) _) (Nat.dvd_mul_right_of_dvd (Nat.gcd_dvd_right x y) _)
  · refine Nat.dvd_gcd ?_ ?_
    · refine (Nat.dvd_add_left (Nat.dvd_mul_left_of_dvd (Nat.gcd_dvd_right a b) v1)).1 ?_
      rw [h1]; exact Nat.dvd_mul_left_of_dvd (Nat.gcd_dvd_left a b) u1
    · refine (Nat.dvd_add_left (Nat.dvd_mul_left_of_dvd (Nat.gcd_dvd_left a b) u2)).1 ?_
      rw [h2]; exact Nat.dvd_mul_left_of_dvd (Nat.gcd_dvd_right a b) v2

theorem back_of {a b x y u1 u2 v1 v2 : Nat} (h1 : x + v1 * b = u1 * a) (h2 : y + u2 * a = v2 * b) (hd : u1 * v2 = u2 * v1 + 1) : x * v2 + y * v1 = a ∧ x * u2 + y * u1 = b := by
  have e1 : (x + v1 * b) * v2 = u1 * a * v2 := by rw [h1]
  have e2 : (y + u2 * a) * v1 = v2 * b * v1 := by rw [h2]
  have e3 : (x + v1 * b) * u2 = u1 * a * u2 := by rw [h1]
  have e4 : (y + u2 * a) * u1 = v2 * b * u1 := by rw [h2]
  have e5 : u1 * v2 * a = (u2 * v1 + 1) * a := by rw [hd]
  have e6 : u1 * v2 * b = (u2 * v1 + 1) * b := by rw [hd]
  constructor
  · grind
  · grind

/-- the numbers themselves go the way of their heads, as long as Collins's condition holds -/
theorem real_of {ha hb A B u1 u2 v1 v2 a b K : Nat} (g1 : A + v1 * hb = u1 * ha) (g2 : B + u2 * ha = v2 * hb) (c1 : v1 ≤ A) (c2 : u2 ≤ B) (c3 : B + (v1 + v2) ≤ A) (c4 : 1 ≤ v1 + v2)
    (a1 : ha * K ≤ a) (b1 : hb * K ≤ b) (a2 : a < (ha + 1) * K) (b2 : b < (hb + 1) * K) : ∃ x y, x + v1 * b = u1 * a ∧ y + u2 * a = v2 * b ∧ y < x := by
  obtain ⟨α, rfl⟩ : ∃ α, a = ha * K + α := ⟨a - ha * K, by omega⟩
  obtain ⟨β, rfl⟩ : ∃ β, b = hb * K + β := ⟨b - hb * K, by omega⟩
  rw [Nat.add_mul, Nat.one_mul] at a2 b2
  have ha' : α < K := by omega
  have hb' : β < K := by omega
  have e1 : v1 * β ≤ A * K := Nat.mul_le_mul c1 (by omega)
  have e2 : u2 * α ≤ B * K := Nat.mul_le_mul c2 (by omega)
  have e3 : (v1 + v2) * β < (v1 + v2) * K := Nat.mul_lt_mul_of_pos_left hb' (by omega)
  have e4 : (B + (v1 + v2)) * K ≤ A * K := Nat.mul_le_mul_right _ c3
  have p1 : u1 * (ha * K + α) = A * K + v1 * (hb * K) + u1 * α := by
    have : (A + v1 * hb) * K = u1 * ha * K := by rw [g1]
    grind
  have p2 : v2 * (hb * K + β) = B * K + u2 * (ha * K) + v2 * β := by
    have : (B + u2 * ha) * K = v2 * hb * K := by rw [g2]
    grind
  refine ⟨A * K + u1 * α - v1 * β, B * K + v2 * β - u2 * α, ?_, ?_, ?_⟩
  · rw [p1, Nat.mul_add v1]; omega
  · rw [p2, Nat.mul_add u2]; omega
  · rw [Nat.add_mul] at e3 e4
    rw [Nat.add_mul v1 v2 K] at e3 e4
    omega

theorem LS.made {ha hb A B u1 u2 v1 v2 : Nat} {ev : Bool} (h : LS ha hb A B u1 u2 v1 v2 ev) (c1 : v2 ≤ B) (c2 : v1 + v2 ≤ A - B) : v1 = 0 ∨ Made ha hb u1 u2 v1 v2 (!ev) := by
  obtain ⟨h1, h2, h3, h4, h5, h6, h7⟩ := h
  rcases h7 with h7 | h7
  · exact .inl h7
  refine .inr ?_
  intro a b K a1 a2 b1 b2
  cases ev
  · simp only [Bool.false_eq_true, if_false] at h1
    obtain ⟨g1, g2, g3⟩ := h1
    obtain ⟨x, y, e1, e2, e3⟩ := real_of g1 g2 (by omega) (by omega) (by omega) (by omega) a1 b1 a2 b2
    obtain ⟨f1, f2⟩ := back_of e1 e2 g3
    refine ⟨x, y, ?_, e3, ?_, gcd_of e1 e2 f1 f2⟩
    · simp only [Bool.not_false, if_true]; exact ⟨e1, e2⟩
    · rw [← f2]; exact Nat.le_trans (Nat.le_mul_of_pos_right x h7) (Nat.le_add_right _ _)
  · simp only [if_true] at h1
    obtain ⟨g1, g2, g3⟩ := h1
    obtain ⟨x, y, e1, e2, e3⟩ : ∃ x y, x + u1 * a = v1 * b ∧ y + v2 * b = u2 * a ∧ y < x := by
      obtain ⟨α, rfl⟩ : ∃ α, a = ha * K + α := ⟨a - ha * K, by omega⟩
      obtain ⟨β, rfl⟩ : ∃ β, b = hb * K + β := ⟨b - hb * K, by omega⟩
      rw [Nat.add_mul, Nat.one_mul] at a2 b2
      have ha' : α < K := by omega
      have hb' : β < K := by omega
      have k1 : u1 * α ≤ A * K := Nat.mul_le_mul (by omega) (by omega)
      have k2 : v2 * β ≤ B * K := Nat.mul_le_mul (by omega) (by omega)
      have k3 : (u1 + u2) * α ≤ (v1 + v2) * α := Nat.mul_le_mul_right _ h5
      have k5 : (v1 + v2) * α < (v1 + v2) * K := Nat.mul_lt_mul_of_pos_left ha' (by omega)
      have k4 : (B + (v1 + v2)) * K ≤ A * K := Nat.mul_le_mul_right _ (by omega)
      have p1 : v1 * (hb * K + β) = A * K + u1 * (ha * K) + v1 * β := by
        have : (A + u1 * ha) * K = v1 * hb * K := by rw [g1]
        grind
      have p2 : u2 * (ha * K + α) = B * K + v2 * (hb * K) + u2 * α := by
        have : (B + v2 * hb) * K = u2 * ha * K := by rw [g2]
        grind
      refine ⟨A * K + v1 * β - u1 * α, B * K + u2 * α - v2 * β, ?_, ?_, ?_⟩
      · rw [p1, Nat.mul_add u1]; omega
      · rw [p2, Nat.mul_add v2]; omega
      · rw [Nat.add_mul] at k3 k4
        rw [Nat.add_mul v1 v2 K] at k4 k5
        rw [Nat.add_mul v1 v2 α] at k3 k5
        omega
    obtain ⟨f1, f2⟩ := back_of (a := b) (b := a) (u1 := v1) (u2 := v2) (v1 := u1) (v2 := u2) e1 e2 (by rw [Nat.mul_comm v1, Nat.mul_comm v2]; exact g3)
    refine ⟨x, y, ?_, e3, ?_, ?_⟩
    · simp only [Bool.not_true, Bool.false_eq_true, if_false]; exact ⟨e1, e2⟩
    · rw [← f1]; exact Nat.le_trans (Nat.le_mul_of_pos_right x h7) (Nat.le_add_right _ _)
    · rw [gcd_of e1 e2 f1 f2, Nat.gcd_comm]

/-- the factors fit -/
theorem LS.small {ha hb A B u1 u2 v1 v2 : Nat} {ev : Bool} (h : LS ha hb A B u1 u2 v1 v2 ev) (hh : ha < 18446744073709551616) (c1 : v2 ≤ B) : u2 < 4294967296 ∧ v2 < 4294967296 := by
  obtain ⟨h1, h2, h3, h4, h5, h6, h7⟩ := h
  have e : v2 * v2 ≤ A * v2 := Nat.mul_le_mul_right _ (by omega)
  have hv : v2 < 4294967296 := by
    rcases Nat.lt_or_ge v2 4294967296 with h | h
    · exact h
    · have := Nat.mul_le_mul h h
      omega
  exact ⟨by omega, hv⟩
theorem LS.next_small {ha hb A B u1 u2 v1 v2 : Nat} {ev : Bool} (h : LS ha hb A B u1 u2 v1 v2 ev) (hB : 1 ≤ B) : v1 + A / B * v2 ≤ ha ∧ u1 + A / B * u2 ≤ ha ∧ A / B ≤ ha ∧ A / B * v2 ≤ ha ∧ A / B * u2 ≤ ha := by
  have hs := h.step hB
  obtain ⟨h1, h2, h3, h4, h5, h6, h7⟩ := h
  obtain ⟨k1, k2, k3, k4, k5, k6, k7⟩ := hs
  have e : 1 * (v1 + A / B * v2) ≤ B * (v1 + A / B * v2) := Nat.mul_le_mul_right _ hB
  have e2 : A / B ≤ A := Nat.div_le_self _ _
  have e3 : A * 1 ≤ A * v2 := Nat.mul_le_mul_left _ h6
  omega

end Go.Proofs.Ytbcipningfdgoaa.Nu
