/- NatsRing: what the law's calls make. -/
import Derived.Test.YtcmfbokiemkjeaaAliveB
namespace Go.Proofs.Ytcmfbokiemkjeaa
open Go Go.Proofs Go.RowKit Go.Shelf Nu

theorem nv_digs (n : Nat) : nv (digs n) = n := by rw [nv_chk (chk_digs n), val_digs]
theorem nv_lt {l : List Nat} (hs : Sm l) : nv l < 4294967296 ^ l.length := by
  unfold nv
  split
  · exact val_lt hs
  · exact Nat.pow_pos (by decide)
theorem len_add {a b i j : Nat} (ha : a < 4294967296 ^ i) (hb : b < 4294967296 ^ j) : a + b < 4294967296 ^ (i + j + 1) := by
  have h1 : 4294967296 ^ i ≤ 4294967296 ^ (i + j) := Nat.pow_le_pow_right (by decide) (by omega)
  have h2 : 4294967296 ^ j ≤ 4294967296 ^ (i + j) := Nat.pow_le_pow_right (by decide) (by omega)
  rw [Nat.pow_succ]
  omega
theorem len_mul {a b i j : Nat} (ha : a < 4294967296 ^ i) (hb : b < 4294967296 ^ j) : a * b < 4294967296 ^ (i + j) := by
  rw [Nat.pow_add]
  exact Nat.mul_lt_mul'' ha hb

/-- Add, of two numbers' slices in their form -/
theorem add_form {w : World} {a1 a2 : Option Addr} {n1 n2 c1 c2 : Nat} {la lb : List Nat} (ha : Reads w (.slice a1 n1 c1) la) (hb : Reads w (.slice a2 n2 c2) lb) (hla : la.length ≤ 100000) (hlb : lb.length ≤ 100000) (hsa : Sm la) (hsb : Sm lb) (n : Nat) (hn : n = nv la + nv lb) :
    Calls Try.prog 12 #[.slice a1 n1 c1, .slice a2 n2 c2] w fun e w' => ∃ a c, e = .returned (.slice a (digs n).length c) ∧ Reads w' (.slice a (digs n).length c) (digs n) ∧ Below w.heap.size w w' := by
  subst hn
  refine (add_any ha hb hla hlb hsa hsb).mono ?_
  rintro e w' ⟨v, rfl, f, hb⟩
  obtain ⟨a, c, rfl⟩ := f.reads.form
  exact ⟨a, c, rfl, f.reads, hb⟩
theorem mul_form {w : World} {a1 a2 : Option Addr} {n1 n2 c1 c2 : Nat} {la lb : List Nat} (ha : Reads w (.slice a1 n1 c1) la) (hb : Reads w (.slice a2 n2 c2) lb) (hla : la.length ≤ 100000) (hlb : lb.length ≤ 100000) (hsa : Sm la) (hsb : Sm lb) (n : Nat) (hn : n = nv la * nv lb) :
    Calls Try.prog 13 #[.slice a1 n1 c1, .slice a2 n2 c2] w fun e w' => ∃ a c, e = .returned (.slice a (digs n).length c) ∧ Reads w' (.slice a (digs n).length c) (digs n) ∧ Below w.heap.size w w' := by
  subst hn
  refine (mul_any ha hb hla hlb hsa hsb).mono ?_
  rintro e w' ⟨v, rfl, f, hb⟩
  obtain ⟨a, c, rfl⟩ := f.reads.form
  exact ⟨a, c, rfl, f.reads, hb⟩
theorem same_form {w : World} {a1 a2 : Option Addr} {n1 n2 c1 c2 : Nat} {la lb : List Nat} (ha : Reads w (.slice a1 n1 c1) la) (hb : Reads w (.slice a2 n2 c2) lb) (hla : la.length ≤ 1000000) (e : la = lb) :
    Calls Try.prog 15 #[.slice a1 n1 c1, .slice a2 n2 c2] w fun e w' => e = .returned (.bool true) ∧ Below w.heap.size w w' := by
  subst e
  refine (sameNat_any ha hb hla hla).mono ?_
  rintro e w' ⟨rfl, n, rfl⟩
  exact ⟨by simp, ⟨rfl, rfl, rfl, Nat.le_refl _, fun k hk => rfl⟩⟩
theorem check_form {w : World} {a1 : Option Addr} {n1 c1 : Nat} {la : List Nat} (ha : Reads w (.slice a1 n1 c1) la) (hla : la.length ≤ 1000000) (hc : chk la = true) :
    Calls Try.prog 14 #[.slice a1 n1 c1] w fun e w' => e = .returned (.bool true) ∧ w = w' := by
  have := check_any ha hla
  rwa [hc] at this

set_option maxRecDepth 100000 in
set_option maxHeartbeats 600000 in
/-- where one has more than 100 parts -/
theorem ring_far {w : World} {a1 b1 d1 : Option Addr} {na nb nc ca cb cc : Nat} (h : 100 < na ∨ 100 < nb ∨ 100 < nc) :
    Calls Try.prog 3 #[.slice a1 na ca, .slice b1 nb cb, .slice d1 nc cc] w fun e w' => e = .returned (.bool true) ∧ Below w.heap.size w w' := by
  have hcases : (100 < (na : Int)) ∨ (¬ 100 < (na : Int) ∧ 100 < (nb : Int)) ∨ (¬ 100 < (na : Int) ∧ ¬ 100 < (nb : Int) ∧ 100 < (nc : Int)) := by omega
  clear h
  rcases hcases with h1 | ⟨h1, h2⟩ | ⟨h1, h2, h3⟩
  all_goals
    go_enter Try.func3, Try.ntmps3
    go_wp2_with (first
      | (go_at_call 11; with_reducible refine (alive_any w).mono ?_; rintro e w1 ⟨rfl, r1⟩)
      | (go_at_call 11; with_reducible refine (alive_any w1).mono ?_; rintro e w2 ⟨rfl, r2⟩))
    go_ret
    exact ⟨rfl, then_below r1 r2⟩

end Go.Proofs.Ytcmfbokiemkjeaa
