/- The heads of two numbers. -/
import Derived.Test.YtbcipningfdgoaaKeep
import Derived.Test.YtbcipningfdgoaaBits
import Derived.Test.YtbcipningfdgoaaMathU
import Derived.Test.YtbcipningfdgoaaLz
namespace Go.Proofs.Ytbcipningfdgoaa
open Go Go.Proofs Go.RowKit Go.Shelf Nu

attribute [local go_sem] Oper.semAt_some

theorem head_facts {p1 p2 p3 s R : Nat} (h1 : p1 < 4294967296) (h2 : p2 < 4294967296) (h3 : p3 < 4294967296) (hs : s ≤ 31) (hR : R = (p1 * 4294967296 + p2) * 2 ^ s + p3 / 2 ^ (32 - s)) (hb : R < 18446744073709551616) :
    ∃ H M P : Nat, bits BinOp.or IntKind.u64 ((p1 : Int) * 4294967296) (p2 : Int) = (H : Int) ∧ IntKind.u64.wrap ((H : Int) * 2 ^ s) = (M : Int) ∧ (p3 : Int) / 2 ^ (32 - s) = (P : Int) ∧ bits BinOp.or IntKind.u64 (M : Int) (P : Int) = (R : Int) ∧ H < 18446744073709551616 ∧ P < 4294967296 := by
  have hlo := hd_low hs h3
  have hle : (p1 * 4294967296 + p2) * 2 ^ s ≤ R := hR ▸ Nat.le_add_right _ _
  refine ⟨p1 * 4294967296 + p2, 2 ^ s * (p1 * 4294967296 + p2), p3 / 2 ^ (32 - s), or_shl p1 p2 h1 h2, ?_, ?_, ?_, by omega, Nat.lt_of_le_of_lt (Nat.div_le_self _ _) h3⟩
  · have e : ((p1 * 4294967296 + p2 : Nat) : Int) * 2 ^ s = ((2 ^ s * (p1 * 4294967296 + p2) : Nat) : Int) := by
      rw [Int.natCast_mul, Int.natCast_pow, Int.mul_comm]; rfl
    rw [e]
    exact w64_of _ (by rw [Nat.mul_comm (2 ^ s)]; omega)
  · rw [Int.natCast_ediv, Int.natCast_pow]; rfl
  · have := or_side (p1 * 4294967296 + p2) (p3 / 2 ^ (32 - s)) s hlo (by rw [Nat.mul_comm (2 ^ s), ← hR]; exact hb)
    rw [this, hR, Nat.mul_comm (2 ^ s)]

set_option maxHeartbeats 1000000 in
theorem head_any {w : World} {v : Value} {l : List Nat} {n s M : Nat} (h : Reads w v l) (hl : l.length ≤ n + 3) (hn : n ≤ 100000) (hs : Sm l) (hsh : s ≤ 31) (hM : M = n + 3) (hb : hd (val l) n s < 18446744073709551616) :
    Calls Try.prog 60 #[v, .int .i64 M, .int .u64 s] w fun e w' => e = .returned (.int .u64 (hd (val l) n s : Nat)) ∧ w' = w := by
  have e := hd_eq hl hs hsh
  have k1 := part_any h (by omega) hs (n + 2) (by omega)
  have k2 := part_any h (by omega) hs (n + 1) (by omega)
  have k3 := part_any h (by omega) hs n (by omega)
  have b1 := hs.getD (n + 2)
  have b2 := hs.getD (n + 1)
  have b3 := hs.getD n
  generalize l.getD (n + 2) 0 = p1 at *
  generalize l.getD (n + 1) 0 = p2 at *
  generalize l.getD n 0 = p3 at *
  obtain ⟨R, hR⟩ : ∃ R, R = hd (val l) n s := ⟨_, rfl⟩
  rw [← hR] at e hb ⊢
  obtain ⟨H, M1, P, f1, f2, f3, f4, f5, f6⟩ := head_facts b1 b2 b3 hsh e hb
  obtain ⟨t, ht⟩ : ∃ t, t = 32 - s := ⟨_, rfl⟩
  rw [← ht] at f3
  have e1 : (M : Int) - 1 = ((n + 2 : Nat) : Int) := by omega
  have e2 : (M : Int) - 2 = ((n + 1 : Nat) : Int) := by omega
  have e3 : (M : Int) - 3 = (n : Int) := by omega
  have e4 : (32 : Int) - (s : Int) = (t : Int) := by omega
  have u1 := w64_of t (by omega)
  have bt : t ≤ 32 := by omega
  generalize n + 2 = N2 at *
  generalize n + 1 = N1 at *
  have bM : M ≤ 100003 := by omega
  have bM2 : 3 ≤ M := by omega
  obtain ⟨a1, c1, rfl⟩ := h.form
  clear h hl hs hM ht hR e
  go_enter Try.func60, Try.ntmps60
  go_wp2_with (first
    | (go_at_call 46; with_reducible refine k1.mono ?_; clear k1; rintro e w' ⟨rfl, rfl⟩)
    | (go_at_call 46; with_reducible refine k2.mono ?_; clear k2; rintro e w' ⟨rfl, rfl⟩)
    | (go_at_call 46; with_reducible refine k3.mono ?_; clear k3; rintro e w' ⟨rfl, rfl⟩))
  go_ret
  exact ⟨rfl, rfl⟩

set_option maxHeartbeats 1000000 in
theorem heads_any {w : World} {va vb : Value} {la lb : List Nat} {n : Nat} (ha : Reads w va la) (hb : Reads w vb lb) (hla : la.length = n + 3) (hlb : lb.length ≤ n + 3) (hn : n ≤ 90000) (hsa : Sm la) (hsb : Sm lb) (hca : chk la = true) (hle : val lb ≤ val la) :
    Calls Try.prog 54 #[va, vb] w fun e w' => ∃ s x y : Nat, e = .returned (.tuple #[.int .u64 x, .int .u64 y]) ∧ x = hd (val la) n s ∧ y = hd (val lb) n s ∧ y ≤ x ∧ x < 18446744073709551616 ∧ w' = w := by
  have ha0 := ha
  obtain ⟨a1, c1, rfl⟩ := ha.form
  obtain ⟨b, o, hbo, hcell⟩ := ha0.addr
  have ht := hcell (n + 2) (by omega)
  obtain ⟨T, hT⟩ : ∃ T, T = la.getD (n + 2) 0 := ⟨_, rfl⟩
  have hT0 : 0 < T := by
    rcases (chk_iff la).1 hca with h | h
    · rw [h] at hla; simp at hla
    · rw [hla, show n + 3 - 1 = n + 2 from rfl, ← hT] at h; omega
  have hT1 : T < 4294967296 := hT ▸ hsa.getD (n + 2)
  rw [← hT] at ht
  obtain ⟨s, hs, hs1, hs2, klz⟩ := lz_any T hT0 hT1
  rw [hT] at hs2
  have hx := hd_lt (n := n) (s := s) (by omega) hsa hs hs2
  have hyx : hd (val lb) n s ≤ hd (val la) n s := hd_mono hle
  have k1 := head_any (s := s) (M := la.length) ha (by omega) (by omega) hsa hs hla hx
  have k2 := head_any (s := s) (M := la.length) hb hlb (by omega) hsb hs hla (by omega)
  obtain ⟨x, hxe⟩ : ∃ x, x = hd (val la) n s := ⟨_, rfl⟩
  obtain ⟨y, hye⟩ : ∃ y, y = hd (val lb) n s := ⟨_, rfl⟩
  rw [← hxe] at k1 hx hyx
  rw [← hye] at k2 hyx
  have HX := Lib.hid hxe
  have HY := Lib.hid hye
  obtain ⟨b1, d1, rfl⟩ := hb.form
  obtain ⟨rfl, hbw⟩ : a1 = some ⟨b, o, none⟩ ∧ b < w.heap.size := hbo (by omega)
  generalize la.length = M at *
  have e1 : (M : Int) - 1 = ((n + 2 : Nat) : Int) := by omega
  have bM : n + 2 < M := by omega
  have bM2 : M ≤ 90003 := by omega
  generalize n + 2 = N2 at *
  have ush : IntKind.u64.wrap (s : Int) = (s : Int) := w64_of s (by omega)
  clear ha ha0 hb hcell hbo hT hT0 hla hlb hxe hye hsa hsb hca hle hs1 hs2
  go_enter Try.func54, Try.ntmps54
  go_wp2_with (first
    | (go_at_call 56; refine (klz _).mono ?_; clear klz; rintro e w' ⟨rfl, rfl⟩)
    | (go_at_call 60; with_reducible refine k1.mono ?_; clear k1; rintro e w' ⟨rfl, rfl⟩)
    | (go_at_call 60; with_reducible refine k2.mono ?_; clear k2; rintro e w' ⟨rfl, rfl⟩))
  go_ret2
  exact ⟨s, x, y, rfl, HX.out, HY.out, hyx, hx, rfl⟩

end Go.Proofs.Ytbcipningfdgoaa
