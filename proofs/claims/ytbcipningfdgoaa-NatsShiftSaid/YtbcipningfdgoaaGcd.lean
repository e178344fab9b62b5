/- The greatest common divisor of two numbers of two parts at most. -/
import Derived.Test.YtbcipningfdgoaaCmp
import Derived.Test.YtbcipningfdgoaaWord
import Derived.Test.YtbcipningfdgoaaPart
namespace Go.Proofs.Ytbcipningfdgoaa
open Go Go.Proofs Go.RowKit Go.Shelf Nu

set_option maxHeartbeats 1000000 in
/-- gcdOfWords -/
theorem gcdOfWords_any (w : World) (a b : Nat) (ha : a < 18446744073709551616) (hb : b < 18446744073709551616) :
    Calls Try.prog 39 #[.int .u64 a, .int .u64 b] w fun e w' => e = .returned (.int .u64 (Nat.gcd a b : Nat)) ∧ ∃ n, w' = w.drewN n := by
  obtain ⟨G, hG⟩ : ∃ G, G = Nat.gcd a b := ⟨_, rfl⟩
  rw [← hG]
  have HG := Lib.hid hG
  clear hG
  go_enter Try.func39, Try.ntmps39
  go_wp2
  go_loopw [0, 1] (fun x y wr => ∃ p q n : Nat, x = .int .u64 p ∧ y = .int .u64 q ∧ p < 18446744073709551616 ∧ q < 18446744073709551616 ∧ Hid (G = Nat.gcd p q) ∧ wr = w.drewN n) (fun _ y _ => (intOf y).toNat)
  case atStart => exact ⟨a, b, 0, rfl, rfl, ha, hb, HG, rfl⟩
  case round =>
    obtain ⟨p, q, n, rfl, rfl, hp, hq, hg, rfl⟩ := hrel
    by_cases h0 : q = 0
    · have ht : ((q : Int) != 0) = false := by simp [h0]
      have H0 := Lib.hid h0
      clear h0
      go_wp2
      go_ret
      exact ⟨ret_int (by rw [hg.out, H0.out]; simp), n, rfl⟩
    · have ht : ((q : Int) != 0) = true := by simp [h0]
      have hq1 : 1 ≤ q := by omega
      have H0 := Lib.hid h0
      clear h0
      go_wp2
      go_quiet (fail)
      go_wp2
      go_roundw
      case rel =>
        refine ⟨q, p % q, _, rfl, by rw [Int.natCast_emod], hq, Nat.lt_of_le_of_lt (Nat.mod_le _ _) hp, Lib.hid ?_, World.drewN_drewN ..⟩
        rw [hg.out, Nat.gcd_comm p q, Nat.gcd_rec q p, Nat.gcd_comm]
      case measure =>
        have := Nat.mod_lt p (show 0 < q by omega)
        simp [intOf]
        omega

set_option maxHeartbeats 2000000 in
theorem gcd_two {w : World} {va vb : Value} {la lb : List Nat} (ha : Reads w va la) (hb : Reads w vb lb) (hla : la.length ≤ 2) (hlb : lb.length ≤ 2) (hsa : Sm la) (hsb : Sm lb) (hca : chk la = true) (hcb : chk lb = true) (hna : la.length ≠ 0) (hnb : lb.length ≠ 0) :
    Calls Try.prog 20 #[va, vb] w fun e w' => ∃ v, e = .returned v ∧ Fresh w' w.heap.size v (digs (Nat.gcd (val la) (val lb))) ∧ Below w.heap.size w w' := by
  have k1 := flip (orZero_any ha (by omega))
  have k2 := flip (orZero_any hb (by omega))
  have e1 : orzV va la = va := by simp [orzV, hca]
  have e2 : orzV vb lb = vb := by simp [orzV, hcb]
  rw [e1] at k1
  rw [e2] at k2
  have kc := cmp_any ha hb (by omega) (by omega) hsa hsb
  obtain ⟨z, hz⟩ : ∃ z, z = sgn (val la) (val lb) := ⟨_, rfl⟩
  rw [nv_chk hca, nv_chk hcb, ← hz] at kc
  have kwa : ∀ W, Below w.heap.size w W → _ := fun W hW => word_any (ha.below hW) hla hsa
  have kwb : ∀ W, Below w.heap.size w W → _ := fun W hW => word_any (hb.below hW) hlb hsb
  have la64 : val la < 18446744073709551616 := Nat.lt_of_lt_of_le (val_lt hsa) (Nat.le_trans (Nat.pow_le_pow_right (by decide) hla) (by decide))
  have lb64 : val lb < 18446744073709551616 := Nat.lt_of_lt_of_le (val_lt hsb) (Nat.le_trans (Nat.pow_le_pow_right (by decide) hlb) (by decide))
  have hpos : 0 < val la := by
    rcases Nat.eq_zero_or_pos (val la) with h | h
    · have := digs_val hsa hca; rw [h, digs_zero] at this; rw [← this] at hna; exact absurd rfl hna
    · exact h
  have hg64 : Nat.gcd (val la) (val lb) < 18446744073709551616 := Nat.lt_of_le_of_lt (Nat.gcd_le_left _ hpos) la64
  obtain ⟨G, hG⟩ : ∃ G, G = Nat.gcd (val la) (val lb) := ⟨_, rfl⟩
  obtain ⟨A, hA⟩ : ∃ A, A = val la := ⟨_, rfl⟩
  obtain ⟨B, hB⟩ : ∃ B, B = val lb := ⟨_, rfl⟩
  rw [← hA] at kwa la64
  rw [← hB] at kwb lb64
  rw [← hG] at hg64 ⊢
  have kg1 := fun W => gcdOfWords_any W A B la64 lb64
  have kg2 := fun W => gcdOfWords_any W B A lb64 la64
  rw [Nat.gcd_comm B A] at kg2
  rw [hA, hB, ← hG, ← hA, ← hB] at kg1 kg2
  have ko := fun W => of_any G hg64 W
  obtain ⟨a1, c1, rfl⟩ := ha.form
  obtain ⟨b1, d1, rfl⟩ := hb.form
  have n1 : ¬ (2 : Int) < (la.length : Int) := by omega
  have n2 : ¬ (2 : Int) < (lb.length : Int) := by omega
  have n3 : ¬ (la.length : Int) = 0 := by omega
  have n4 : ¬ (lb.length : Int) = 0 := by omega
  clear ha hb hz hG hA hB e1 e2 hna hnb hpos hla hlb
  by_cases hz0 : z < 0
  · go_enter Try.func20, Try.ntmps20
    go_wp2_with (first
      | (go_at_call 27; with_reducible refine k1.mono ?_; clear k1; rintro e w' ⟨rfl, rfl⟩)
      | (go_at_call 27; with_reducible refine k2.mono ?_; clear k2; rintro e w' ⟨rfl, rfl⟩)
      | (go_at_call 17; refine kc.mono ?_; rintro e w1 ⟨rfl, hb1⟩))
    go_loop [0, 1] (fun x y => x = .slice b1 lb.length d1 ∧ y = .slice a1 la.length c1) (fun _ _ => 0)
    case atStart => exact ⟨rfl, rfl⟩
    case round =>
      obtain ⟨rfl, rfl⟩ := hrel
      go_wp2_with (first
        | (go_at_call 40; with_reducible refine (kwb _ (by first | assumption | exact hb1.drew)).mono ?_; rintro e w2 ⟨rfl, hb2⟩; have hb12 := hb1.trans (hb2.mono hb1.size))
        | (go_at_call 40; with_reducible refine (kwa _ (by assumption)).mono ?_; rintro e w3 ⟨rfl, hb3⟩; have hb13 := hb12.trans (hb3.mono hb12.size))
        | (go_at_call 39; refine (kg2 _).mono ?_; rintro e w4 ⟨rfl, n, rfl⟩)
        | (go_at_call 24; refine (ko _).mono ?_; rintro e w5 ⟨v, rfl, hF, hb5⟩))
      go_ret
      have h3 : Below w.heap.size w (w3.drewN n) := ⟨hb13.os, hb13.tape, hb13.output, hb13.size, hb13.block⟩
      exact ⟨v, rfl, hF.mono h3.size, h3.trans (hb5.mono h3.size)⟩
  · go_enter Try.func20, Try.ntmps20
    go_wp2_with (first
      | (go_at_call 27; with_reducible refine k1.mono ?_; clear k1; rintro e w' ⟨rfl, rfl⟩)
      | (go_at_call 27; with_reducible refine k2.mono ?_; clear k2; rintro e w' ⟨rfl, rfl⟩)
      | (go_at_call 17; refine kc.mono ?_; rintro e w1 ⟨rfl, hb1⟩))
    go_loop [0, 1] (fun x y => x = .slice a1 la.length c1 ∧ y = .slice b1 lb.length d1) (fun _ _ => 0)
    case atStart => exact ⟨rfl, rfl⟩
    case round =>
      obtain ⟨rfl, rfl⟩ := hrel
      go_wp2_with (first
        | (go_at_call 40; with_reducible refine (kwa _ (by first | assumption | exact hb1.drew)).mono ?_; rintro e w2 ⟨rfl, hb2⟩; have hb12 := hb1.trans (hb2.mono hb1.size))
        | (go_at_call 40; with_reducible refine (kwb _ (by assumption)).mono ?_; rintro e w3 ⟨rfl, hb3⟩; have hb13 := hb12.trans (hb3.mono hb12.size))
        | (go_at_call 39; refine (kg1 _).mono ?_; rintro e w4 ⟨rfl, n, rfl⟩)
        | (go_at_call 24; refine (ko _).mono ?_; rintro e w5 ⟨v, rfl, hF, hb5⟩))
      go_ret
      have h3 : Below w.heap.size w (w3.drewN n) := ⟨hb13.os, hb13.tape, hb13.output, hb13.size, hb13.block⟩
      exact ⟨v, rfl, hF.mono h3.size, h3.trans (hb5.mono h3.size)⟩

set_option maxHeartbeats 1000000 in
theorem gcd_nils (w : World) : Calls Try.prog 20 #[.slice none 0 0, .slice none 0 0] w fun e w' => ∃ v, e = .returned v ∧ Fresh w' w.heap.size v [] ∧ Below w.heap.size w w' := by
  have hR : Reads w (.slice none 0 0) [] := .inl ⟨rfl, rfl⟩
  have k1 := flip (orZero_any hR (by simp))
  rw [show orzV (.slice none 0 0) [] = .slice none 0 0 by simp [orzV]] at k1
  have kc := cmp_any hR hR (by simp) (by simp) Sm.nil Sm.nil
  rw [show sgn (nv []) (nv []) = 0 by simp [sgn]] at kc
  go_enter Try.func20, Try.ntmps20
  go_wp2_with (first
    | (go_at_call 27; with_reducible refine k1.mono ?_; rintro e w' ⟨rfl, rfl⟩)
    | (go_at_call 17; refine kc.mono ?_; rintro e w1 ⟨rfl, hb1⟩))
  go_loop [0, 1] (fun x y => x = .slice none 0 0 ∧ y = .slice none 0 0) (fun _ _ => 0)
  case atStart => exact ⟨rfl, rfl⟩
  case round =>
    obtain ⟨rfl, rfl⟩ := hrel
    go_wp2_with (first
      | (go_at_call 38; refine (clone_any (l := []) (.inl ⟨rfl, rfl⟩) (by simp)).mono ?_; rintro e w2 ⟨v', rfl, hF, hb2⟩; obtain ⟨ta, tc, v2, rfl, hR2, kt⟩ := trim_any hF (by simp) Sm.nil)
      | (go_at_call 29; refine kt.mono ?_; rintro e w' ⟨rfl, rfl⟩))
    go_ret
    rw [show val [] = 0 from rfl, digs_zero] at hR2
    exact ⟨v2, rfl, hR2.mono hb1.size, hb1.trans (hb2.mono hb1.size)⟩

end Go.Proofs.Ytbcipningfdgoaa
