/- Fractions: RatsSmall: its numbers. -/
import Derived.Deep.RegionHeld3
import Derived.IntWalk
import Derived.Test.YthloknddhfphnaaGreatDoorGRatAlive
import Derived.Test.YthloknddhfphnaaGreatDoorGRatCmp
import Derived.Test.YthloknddhfphnaaGreatDoorGRatLess
set_option linter.unusedSimpArgs false
set_option linter.unusedVariables false
namespace Go.Proofs.YthloknddhfphnaaGreatDoor
open Go Go.Proofs Go.RowKit Go.Shelf Nu

attribute [local go_sem] Oper.semAt_some

theorem small_floor {m p : Int} (hp : 1 ≤ p) : ((m : Rat) / (p : Rat)).floor = m / p := by
  have hp' : (0 : Rat) < (p : Rat) := by exact_mod_cast (show 0 < p by omega)
  obtain ⟨F, hF⟩ : ∃ F, ((m : Rat) / (p : Rat)).floor = F := ⟨_, rfl⟩
  have f1 : ((F : Int) : Rat) ≤ (m : Rat) / (p : Rat) := by rw [← hF]; exact Rat.floor_le _
  have f2 : (m : Rat) / (p : Rat) < ((F : Int) : Rat) + 1 := by rw [← hF]; have := Rat.lt_floor_add_one ((m : Rat) / (p : Rat)); rw [Rat.intCast_add] at this; simpa using this
  have e : (m : Rat) / (p : Rat) * (p : Rat) = (m : Rat) := by grind
  have g1 : ((F : Int) : Rat) * (p : Rat) ≤ (m : Rat) := by rw [← e]; exact Rat.mul_le_mul_of_nonneg_right f1 (by grind)
  have g2 : (m : Rat) < (((F : Int) : Rat) + 1) * (p : Rat) := by rw [← e]; exact Rat.mul_lt_mul_of_pos_right f2 hp'
  have h1 : F * p ≤ m := by exact_mod_cast g1
  have h2 : m < (F + 1) * p := by exact_mod_cast g2
  rw [hF]
  have k1 : F ≤ m / p := (Int.le_ediv_iff_mul_le (by omega)).2 h1
  have k2 : m / p < F + 1 := (Int.ediv_lt_iff_lt_mul (by omega)).2 h2
  omega
theorem small_whole {m p : Int} (hp : 1 ≤ p) : decide (((m : Rat) / (p : Rat)).den = 1) = (m.tmod p == 0) := by
  have hp0 : (p : Rat) ≠ 0 := by exact_mod_cast (show p ≠ 0 by omega)
  have key : ((m : Rat) / (p : Rat)).den = 1 ↔ m.tmod p = 0 := by
    constructor
    · intro h
      have hX := rat_den ((m : Rat) / (p : Rat))
      rw [h] at hX
      have e : (m : Rat) = ((((m : Rat) / (p : Rat)).num : Int) : Rat) * (p : Rat) := by grind
      have e2 : m = ((m : Rat) / (p : Rat)).num * p := by exact_mod_cast e
      exact Int.tmod_eq_zero_of_dvd ⟨_, by rw [Int.mul_comm]; exact e2⟩
    · intro h
      obtain ⟨k, hk⟩ := Int.dvd_of_tmod_eq_zero h
      have : (m : Rat) / (p : Rat) = ((k : Int) : Rat) := by rw [hk]; push_cast; grind
      rw [this]; rfl
  by_cases h : m.tmod p = 0
  · rw [decide_eq_true (key.2 h)]; simp [h]
  · rw [decide_eq_false (fun k => h (key.1 k))]; simp [h]
theorem small_quo {m p : Int} (hp : 1 ≤ p) : m / p = if m.tmod p < 0 then m.tdiv p - 1 else m.tdiv p := by
  have h1 := Int.tdiv_mul_add_tmod m p
  have h2 := Int.tmod_lt_of_pos m (show 0 < p by omega)
  have h3 : -p < m.tmod p := by
    have := Int.tmod_lt_of_pos (-m) (show 0 < p by omega)
    rw [Int.neg_tmod] at this
    omega
  split
  · rename_i h
    have k1 : m.tdiv p - 1 ≤ m / p := (Int.le_ediv_iff_mul_le (by omega)).2 (by rw [Int.sub_mul]; omega)
    have k2 : m / p < m.tdiv p - 1 + 1 := (Int.ediv_lt_iff_lt_mul (by omega)).2 (by rw [show m.tdiv p - 1 + 1 = m.tdiv p by omega]; omega)
    omega
  · rename_i h
    have k1 : m.tdiv p ≤ m / p := (Int.le_ediv_iff_mul_le (by omega)).2 (by omega)
    have k2 : m / p < m.tdiv p + 1 := (Int.ediv_lt_iff_lt_mul (by omega)).2 (by rw [Int.add_mul]; omega)
    omega
theorem small_cmp {m n p q z : Int} (hp : 1 ≤ p) (hq : 1 ≤ q) (hz : rsg ((m : Rat) / (p : Rat)) ((n : Rat) / (q : Rat)) = z) : decide (m * q < n * p) = (z == -1) := by
  have hp' : (0 : Rat) < (p : Rat) := by exact_mod_cast (show 0 < p by omega)
  have hq' : (0 : Rat) < (q : Rat) := by exact_mod_cast (show 0 < q by omega)
  have e1 : (m : Rat) / (p : Rat) * ((p : Rat) * (q : Rat)) = ((m * q : Int) : Rat) := by push_cast; grind
  have e2 : (n : Rat) / (q : Rat) * ((p : Rat) * (q : Rat)) = ((n * p : Int) : Rat) := by push_cast; grind
  have hpq := Rat.mul_pos hp' hq'
  have key : (m : Rat) / (p : Rat) < (n : Rat) / (q : Rat) ↔ m * q < n * p := by
    constructor
    · intro h
      have := Rat.mul_lt_mul_of_pos_right h hpq
      rw [e1, e2] at this
      exact_mod_cast this
    · intro h
      have h' : ((m * q : Int) : Rat) < ((n * p : Int) : Rat) := by exact_mod_cast h
      rw [← e1, ← e2] at h'
      exact Rat.lt_of_mul_lt_mul_right h' (by grind)
  unfold rsg at hz
  by_cases h : (m : Rat) / (p : Rat) < (n : Rat) / (q : Rat)
  · rw [if_pos h] at hz
    rw [decide_eq_true (key.1 h), ← hz]; rfl
  · rw [if_neg h] at hz
    rw [decide_eq_false (fun k => h (key.2 k))]
    split at hz <;> rw [← hz] <;> rfl
theorem small_sum {m n p q : Int} (hp : 1 ≤ p) (hq : 1 ≤ q) : ((m * q + n * p : Int) : Rat) / ((p * q : Int) : Rat) = (m : Rat) / (p : Rat) + (n : Rat) / (q : Rat) := by
  have hp0 : (p : Rat) ≠ 0 := by exact_mod_cast (show p ≠ 0 by omega)
  have hq0 : (q : Rat) ≠ 0 := by exact_mod_cast (show q ≠ 0 by omega)
  push_cast; grind
theorem small_mul {m n p q : Int} (hp : 1 ≤ p) (hq : 1 ≤ q) : ((m * n : Int) : Rat) / ((p * q : Int) : Rat) = (m : Rat) / (p : Rat) * ((n : Rat) / (q : Rat)) := by
  have hp0 : (p : Rat) ≠ 0 := by exact_mod_cast (show p ≠ 0 by omega)
  have hq0 : (q : Rat) ≠ 0 := by exact_mod_cast (show q ≠ 0 by omega)
  push_cast; grind
theorem small_div {m n p q : Int} (hp : 1 ≤ p) (hq : 1 ≤ q) (hn : n ≠ 0) : ((m * q : Int) : Rat) / ((p * n : Int) : Rat) = (m : Rat) / (p : Rat) / ((n : Rat) / (q : Rat)) := by
  have hp0 : (p : Rat) ≠ 0 := by exact_mod_cast (show p ≠ 0 by omega)
  have hq0 : (q : Rat) ≠ 0 := by exact_mod_cast (show q ≠ 0 by omega)
  have hn0 : (n : Rat) ≠ 0 := by exact_mod_cast hn
  push_cast; grind

theorem region_cut_0 {P : Program} {c : Code} {Q : Exit → Act → World → Prop} {a : Act} {w : World} (F : Act) (Fact : World → Prop)
    (first : c.wp P (fun e a' w' => e = .normal ∧ a' = F ∧ Fact w') a w) (rest : ∀ w' : World, Fact w' → Q .normal F w') : c.wp P Q a w :=
  Code.wp_mono (fun e a' w' h => by obtain ⟨rfl, rfl, hf⟩ := h; exact rest w' hf) first
theorem rl_quot {n d : Int} (h : d ≠ 0) (hn : n.natAbs < 18446744073709551616) (hd : d.natAbs < 18446744073709551616) : rl ((n : Rat) / (d : Rat)) ≤ 6 := by
  have h1 := rl_mul (X := (n : Rat)) (Y := ((d : Int) : Rat)⁻¹) (Z := (n : Rat) / (d : Rat)) (Rat.div_def _ _)
  have h2 := rl_inv (X := ((d : Int) : Rat)) (by intro e; exact h (by exact_mod_cast e))
  have h3 := rl_int n
  have h4 := rl_int d
  have h5 : (digs n.natAbs).length ≤ 2 := len64 hn
  have h6 : (digs d.natAbs).length ≤ 2 := len64 hd
  omega
theorem small_prod {x y a b : Int} (hx : -a ≤ x ∧ x ≤ a) (hy : -b ≤ y ∧ y ≤ b) : -(a * b) ≤ x * y ∧ x * y ≤ a * b := by
  have h1 : (x * y).natAbs ≤ (a * b).natAbs := by
    rw [Int.natAbs_mul, Int.natAbs_mul]
    exact Nat.mul_le_mul (by omega) (by omega)
  have h2 : 0 ≤ a * b := Int.mul_nonneg (by omega) (by omega)
  omega
theorem small_ne {n q : Int} (hq : 1 ≤ q) (hn : n ≠ 0) : (n : Rat) / (q : Rat) ≠ 0 := by
  have hq0 : (q : Rat) ≠ 0 := by exact_mod_cast (show q ≠ 0 by omega)
  have hn0 : (n : Rat) ≠ 0 := by exact_mod_cast hn
  grind

end Go.Proofs.YthloknddhfphnaaGreatDoor
