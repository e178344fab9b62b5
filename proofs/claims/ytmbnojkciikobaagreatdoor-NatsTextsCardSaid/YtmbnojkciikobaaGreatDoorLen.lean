/- Numbers' lengths; the contracts of Add, Mul, SameNat, Check with their slices in their form. -/
import Derived.Test.YtmbnojkciikobaaGreatDoorAdd
import Derived.Test.YtmbnojkciikobaaGreatDoorMul
import Derived.Test.YtmbnojkciikobaaGreatDoorSub
import Derived.Test.YtmbnojkciikobaaGreatDoorWord
import Derived.Test.YtmbnojkciikobaaGreatDoorTextC
import Derived.Test.YtmbnojkciikobaaGreatDoorParseB
namespace Go.Proofs.YtmbnojkciikobaaGreatDoor
open Go Go.Proofs Go.RowKit Go.Shelf Nu

theorem nv_digs (n : Nat) : nv (digs n) = n := by rw [nv_chk (chk_digs n), val_digs]
theorem nv_lt {l : List Nat} (hs : Sm l) : nv l < 4294967296 ^ l.length := by
  unfold nv
  split
  · exact val_lt hs
  · exact Nat.pow_pos (by decide)
theorem len_add {a b i j : Nat} (ha : a < 4294967296 ^ i) (hb : b < 4294967296 ^ j) : a + b < 4294967296 ^ (i + j + 1) := by
  have h1 : 4294967296 ^ i ≤ 4294967296 ^ (i + j) := Nat.pow_le_pow_right (by decide) (by omega)
  have h2 : 4294967296 ^ j ≤ 4294967296 ^ (i + j) := Nat.pow_le_pow_right (by decide) (by omega)
  rw [Nat.pow_succ]
  omega
theorem len_mul {a b i j : Nat} (ha : a < 4294967296 ^ i) (hb : b < 4294967296 ^ j) : a * b < 4294967296 ^ (i + j) := by
  rw [Nat.pow_add]
  exact Nat.mul_lt_mul'' ha hb

theorem of_chk {l : List Nat} (hs : Sm l) (hc : chk l = true) : ∃ A, l = digs A := ⟨val l, (digs_val hs hc).symm⟩
theorem digs_inj {a b : Nat} (h : digs a = digs b) : a = b := by rw [← val_digs a, h, val_digs]
theorem digs_le_iff {n k : Nat} : (digs n).length ≤ k ↔ n < 4294967296 ^ k := by
  refine ⟨fun h => ?_, digs_length_le⟩
  have := val_lt (sm_digs n)
  rw [val_digs] at this
  exact Nat.lt_of_lt_of_le this (Nat.pow_le_pow_right (by decide) h)
theorem digs_lt (n : Nat) : n < 4294967296 ^ (digs n).length := digs_le_iff.1 (Nat.le_refl _)
theorem digs_mono {a b : Nat} (h : a ≤ b) : (digs a).length ≤ (digs b).length := digs_le_iff.2 (Nat.lt_of_le_of_lt h (digs_lt b))
theorem digs_add_le (a b : Nat) : (digs (a + b)).length ≤ (digs a).length + (digs b).length + 1 := digs_le_iff.2 (len_add (digs_lt a) (digs_lt b))
theorem digs_mul_le (a b : Nat) : (digs (a * b)).length ≤ (digs a).length + (digs b).length := digs_le_iff.2 (len_mul (digs_lt a) (digs_lt b))
theorem digs_nil_iff {n : Nat} : (digs n).length = 0 ↔ n = 0 := by
  rw [List.length_eq_zero_iff]; exact digs_eq_nil
theorem digs_len_pos {n : Nat} (h : n ≠ 0) : 0 < (digs n).length := by
  rcases Nat.eq_zero_or_pos (digs n).length with h1 | h1
  · exact absurd (digs_nil_iff.1 h1) h
  · exact h1

theorem digs_nv_le {l : List Nat} (hs : Sm l) : (digs (nv l)).length ≤ l.length := digs_length_le (nv_lt hs)

/-- Add, of two numbers' slices in their form -/
theorem add_form {w : World} {a1 a2 : Option Addr} {n1 n2 c1 c2 : Nat} {la lb : List Nat} (ha : Reads w (.slice a1 n1 c1) la) (hb : Reads w (.slice a2 n2 c2) lb) (hla : la.length ≤ 100000) (hlb : lb.length ≤ 100000) (hsa : Sm la) (hsb : Sm lb) (n : Nat) (hn : n = nv la + nv lb) :
    Calls Tryz.prog 10 #[.slice a1 n1 c1, .slice a2 n2 c2] w fun e w' => ∃ a c, e = .returned (.slice a (digs n).length c) ∧ Reads w' (.slice a (digs n).length c) (digs n) ∧ Below w.heap.size w w' := by
  subst hn
  refine (add_any ha hb hla hlb hsa hsb).mono ?_
  rintro e w' ⟨v, rfl, f, hb⟩
  obtain ⟨a, c, rfl⟩ := f.reads.form
  exact ⟨a, c, rfl, f.reads, hb⟩
theorem mul_form {w : World} {a1 a2 : Option Addr} {n1 n2 c1 c2 : Nat} {la lb : List Nat} (ha : Reads w (.slice a1 n1 c1) la) (hb : Reads w (.slice a2 n2 c2) lb) (hla : la.length ≤ 100000) (hlb : lb.length ≤ 100000) (hsa : Sm la) (hsb : Sm lb) (n : Nat) (hn : n = nv la * nv lb) :
    Calls Tryz.prog 12 #[.slice a1 n1 c1, .slice a2 n2 c2] w fun e w' => ∃ a c, e = .returned (.slice a (digs n).length c) ∧ Reads w' (.slice a (digs n).length c) (digs n) ∧ Below w.heap.size w w' := by
  subst hn
  refine (mul_any ha hb hla hlb hsa hsb).mono ?_
  rintro e w' ⟨v, rfl, f, hb⟩
  obtain ⟨a, c, rfl⟩ := f.reads.form
  exact ⟨a, c, rfl, f.reads, hb⟩
theorem same_form {w : World} {a1 a2 : Option Addr} {n1 n2 c1 c2 : Nat} {la lb : List Nat} (ha : Reads w (.slice a1 n1 c1) la) (hb : Reads w (.slice a2 n2 c2) lb) (hla : la.length ≤ 1000000) (e : la = lb) :
    Calls Tryz.prog 16 #[.slice a1 n1 c1, .slice a2 n2 c2] w fun e w' => e = .returned (.bool true) ∧ Below w.heap.size w w' := by
  subst e
  refine (sameNat_any ha hb hla hla).mono ?_
  rintro e w' ⟨rfl, n, rfl⟩
  exact ⟨by simp, ⟨rfl, rfl, rfl, Nat.le_refl _, fun k hk => rfl⟩⟩
theorem check_form {w : World} {a1 : Option Addr} {n1 c1 : Nat} {la : List Nat} (ha : Reads w (.slice a1 n1 c1) la) (hla : la.length ≤ 1000000) (hc : chk la = true) :
    Calls Tryz.prog 32 #[.slice a1 n1 c1] w fun e w' => e = .returned (.bool true) ∧ w = w' := by
  have := check_any ha hla
  rwa [hc] at this

end Go.Proofs.YtmbnojkciikobaaGreatDoor
