/- Fractions: RatsBetween: its numbers. -/
import Derived.Deep.RegionHeld3
import Derived.IntWalk
import Derived.Test.YthloknddhfphnaaGreatDoorGRatAlive
import Derived.Test.YthloknddhfphnaaGreatDoorGRatCmp
import Derived.Test.YthloknddhfphnaaGreatDoorGRatLess
set_option linter.unusedSimpArgs false
set_option linter.unusedVariables false
namespace Go.Proofs.YthloknddhfphnaaGreatDoor
open Go Go.Proofs Go.RowKit Go.Shelf Nu

attribute [local go_sem] Oper.semAt_some

theorem rl_quot {n d : Int} (h : d ≠ 0) (hn : n.natAbs < 18446744073709551616) (hd : d.natAbs < 18446744073709551616) : rl ((n : Rat) / (d : Rat)) ≤ 6 := by
  have h1 := rl_mul (X := (n : Rat)) (Y := ((d : Int) : Rat)⁻¹) (Z := (n : Rat) / (d : Rat)) (Rat.div_def _ _)
  have h2 := rl_inv (X := ((d : Int) : Rat)) (by intro e; exact h (by exact_mod_cast e))
  have h3 := rl_int n
  have h4 := rl_int d
  have h5 : (digs n.natAbs).length ≤ 2 := len64 hn
  have h6 : (digs d.natAbs).length ≤ 2 := len64 hd
  omega
theorem mixed {X Y s t : Rat} {z : Int} (hz : rsg X Y = z) (hs : 0 < s) (ht : 0 < t) (h : s + t = 1) : rsg X (X * s + Y * t) = z ∧ rsg (X * s + Y * t) Y = z := by
  have e1 : X * s + Y * t - X = (Y - X) * t := by grind
  have e2 : Y - (X * s + Y * t) = (Y - X) * s := by grind
  rcases (show X < Y ∨ X = Y ∨ Y < X by grind) with k | k | k
  · have p1 := Rat.mul_pos (show 0 < Y - X by grind) ht
    have p2 := Rat.mul_pos (show 0 < Y - X by grind) hs
    unfold rsg at hz ⊢
    rw [if_pos k] at hz
    rw [if_pos (by grind), if_pos (by grind)]
    exact ⟨hz, hz⟩
  · subst k
    have e3 : X * s + X * t = X := by grind
    rw [e3]
    exact ⟨hz, hz⟩
  · have p1 := Rat.mul_pos (show 0 < X - Y by grind) ht
    have p2 := Rat.mul_pos (show 0 < X - Y by grind) hs
    unfold rsg at hz ⊢
    rw [if_neg (by grind), if_pos k] at hz
    rw [if_neg (by grind), if_pos (by grind), if_neg (by grind), if_pos (by grind)]
    exact ⟨hz, hz⟩
theorem between_facts {X Y : Rat} {z p v r : Int} (hz : rsg X Y = z) (hp : 0 < p) (hv : 0 < v) (hr : r = p + v) :
    (rsg X ((X + Y) * (((1 : Int) : Rat) / ((2 : Int) : Rat))) = z ∧ rsg ((X + Y) * (((1 : Int) : Rat) / ((2 : Int) : Rat))) Y = z) ∧
    (rsg X (X * ((p : Rat) / (r : Rat)) + Y * ((v : Rat) / (r : Rat))) = z ∧ rsg (X * ((p : Rat) / (r : Rat)) + Y * ((v : Rat) / (r : Rat))) Y = z) := by
  have hp' : (0 : Rat) < (p : Rat) := by exact_mod_cast hp
  have hv' : (0 : Rat) < (v : Rat) := by exact_mod_cast hv
  have hr' : (r : Rat) = (p : Rat) + (v : Rat) := by rw [hr]; push_cast; rfl
  have hr0 : (0 : Rat) < (r : Rat) := by rw [hr']; grind
  refine ⟨?_, mixed hz ?_ ?_ ?_⟩
  · have := mixed (s := 1 / 2) (t := 1 / 2) hz (by grind) (by grind) (by grind)
    rwa [show X * (1 / 2 : Rat) + Y * (1 / 2) = (X + Y) * (((1 : Int) : Rat) / ((2 : Int) : Rat)) by grind] at this
  · rw [Rat.div_def]; exact Rat.mul_pos hp' (Rat.inv_pos.2 hr0)
  · rw [Rat.div_def]; exact Rat.mul_pos hv' (Rat.inv_pos.2 hr0)
  · rw [hr'] at hr0 ⊢
    grind

theorem region_cut_nssssssssss {P : Program} {c : Code} {Q : Exit → Act → World → Prop} {a : Act} {w : World} (F : Nat → Option Addr → Nat → Option Addr → Nat → Option Addr → Nat → Option Addr → Nat → Option Addr → Nat → Option Addr → Nat → Option Addr → Nat → Option Addr → Nat → Option Addr → Nat → Option Addr → Nat → Act) (Fact : Nat → Option Addr → Nat → Option Addr → Nat → Option Addr → Nat → Option Addr → Nat → Option Addr → Nat → Option Addr → Nat → Option Addr → Nat → Option Addr → Nat → Option Addr → Nat → Option Addr → Nat → World → Prop)
    (first : c.wp P (fun e a' w' => e = .normal ∧ ∃ (b0 : Nat) (a1 : Option Addr) (c1 : Nat) (a2 : Option Addr) (c2 : Nat) (a3 : Option Addr) (c3 : Nat) (a4 : Option Addr) (c4 : Nat) (a5 : Option Addr) (c5 : Nat) (a6 : Option Addr) (c6 : Nat) (a7 : Option Addr) (c7 : Nat) (a8 : Option Addr) (c8 : Nat) (a9 : Option Addr) (c9 : Nat) (a10 : Option Addr) (c10 : Nat), a' = F b0 a1 c1 a2 c2 a3 c3 a4 c4 a5 c5 a6 c6 a7 c7 a8 c8 a9 c9 a10 c10 ∧ Fact b0 a1 c1 a2 c2 a3 c3 a4 c4 a5 c5 a6 c6 a7 c7 a8 c8 a9 c9 a10 c10 w') a w) (rest : ∀ (b0 : Nat) (a1 : Option Addr) (c1 : Nat) (a2 : Option Addr) (c2 : Nat) (a3 : Option Addr) (c3 : Nat) (a4 : Option Addr) (c4 : Nat) (a5 : Option Addr) (c5 : Nat) (a6 : Option Addr) (c6 : Nat) (a7 : Option Addr) (c7 : Nat) (a8 : Option Addr) (c8 : Nat) (a9 : Option Addr) (c9 : Nat) (a10 : Option Addr) (c10 : Nat) (w' : World), Fact b0 a1 c1 a2 c2 a3 c3 a4 c4 a5 c5 a6 c6 a7 c7 a8 c8 a9 c9 a10 c10 w' → Q .normal (F b0 a1 c1 a2 c2 a3 c3 a4 c4 a5 c5 a6 c6 a7 c7 a8 c8 a9 c9 a10 c10) w') : c.wp P Q a w :=
  Code.wp_mono (fun e a' w' h => by obtain ⟨rfl, b0, a1, c1, a2, c2, a3, c3, a4, c4, a5, c5, a6, c6, a7, c7, a8, c8, a9, c9, a10, c10, rfl, hf⟩ := h; exact rest b0 a1 c1 a2 c2 a3 c3 a4 c4 a5 c5 a6 c6 a7 c7 a8 c8 a9 c9 a10 c10 w' hf) first
end Go.Proofs.YthloknddhfphnaaGreatDoor
