/- The greatest common divisor of any two numbers. -/
import Derived.Test.YtbcipningfdgoaaLessen
import Derived.Test.YtbcipningfdgoaaGcd
import Derived.Deep.LoopGhost
namespace Go.Proofs.Ytbcipningfdgoaa
open Go Go.Proofs Go.RowKit Go.Shelf Nu

attribute [local go_sem] Oper.semAt_some

/-- between two rounds -/
def GcdInv (G : Nat) (w : World) (x y : Value) (wr : World) (k : Nat) : Prop :=
  ∃ (A B : Nat) (a : Option Addr) (c : Nat) (b : Option Addr) (d : Nat), x = .slice a (digs A).length c ∧ y = .slice b (digs B).length d ∧ Reads wr x (digs A) ∧ Reads wr y (digs B) ∧ B ≤ A ∧ (digs A).length ≤ 80000 ∧ Nat.gcd A B = G ∧ B ≤ k ∧ Below w.heap.size w wr

set_option maxRecDepth 100000 in
set_option maxHeartbeats 8000000 in
theorem gcd_any {w : World} {va vb : Value} {la lb : List Nat} (ha : Reads w va la) (hb : Reads w vb lb) (hla : la.length ≤ 80000) (hlb : lb.length ≤ 80000) (hsa : Sm la) (hsb : Sm lb) (G : Nat) (hG : G = Nat.gcd (nv la) (nv lb)) :
    Calls Try.prog 20 #[va, vb] w fun e w' => ∃ v, e = .returned v ∧ Fresh w' w.heap.size v (digs G) ∧ Below w.heap.size w w' := by
  have k1 := flip (orZero_any ha (by omega))
  have k2 := flip (orZero_any hb (by omega))
  have hA := orzV_reads ha
  have hB := orzV_reads hb
  have eA : orz la = digs (nv la) := by rw [← val_orz, digs_val (sm_orz hsa) (chk_orz la)]
  have eB : orz lb = digs (nv lb) := by rw [← val_orz, digs_val (sm_orz hsb) (chk_orz lb)]
  rw [eA] at hA
  rw [eB] at hB
  have lA : (digs (nv la)).length ≤ 80000 := eA ▸ Nat.le_trans (orz_length la) hla
  have lB : (digs (nv lb)).length ≤ 80000 := eB ▸ Nat.le_trans (orz_length lb) hlb
  generalize nv la = A at *
  generalize nv lb = B at *
  obtain ⟨a1, c1, e1⟩ := hA.form
  obtain ⟨b1, d1, e2⟩ := hB.form
  rw [e1] at k1 hA
  rw [e2] at k2 hB
  have kc := cmp_any hA hB (by omega) (by omega) (sm_digs _) (sm_digs _)
  rw [nv_digs, nv_digs] at kc
  obtain ⟨z, hz⟩ : ∃ z, z = sgn A B := ⟨_, rfl⟩
  rw [← hz] at kc
  have hlt : z < 0 ↔ A < B := by rw [hz]; simp only [sgn]; split <;> (try split) <;> omega
  obtain ⟨x1, x2, rfl⟩ := ha.form
  obtain ⟨y1, y2, rfl⟩ := hb.form
  have H0 := Lib.hid (show (A < B → GcdInv G w (.slice b1 (digs B).length d1) (.slice a1 (digs A).length c1) w A) ∧ (¬ A < B → GcdInv G w (.slice a1 (digs A).length c1) (.slice b1 (digs B).length d1) w B) from
    ⟨fun h => ⟨B, A, _, _, _, _, rfl, rfl, hB, hA, by omega, lB, by rw [hG, Nat.gcd_comm], Nat.le_refl _, Below.refl _ _⟩, fun h => ⟨A, B, _, _, _, _, rfl, rfl, hA, hB, by omega, lA, hG.symm, Nat.le_refl _, Below.refl _ _⟩⟩)
  have HG := Lib.hid hG
  clear ha hb e1 e2 eA eB hz hG hA hB
  by_cases hAB : A < B
  all_goals
    have S0 := H0.out
    first
      | (have S1 := Lib.hid (S0.1 hAB); have hz0 : z < 0 := hlt.2 hAB)
      | (have S1 := Lib.hid (S0.2 hAB); have hz0 : ¬ z < 0 := fun h => hAB (hlt.1 h))
    clear S0 H0 hlt hAB
    go_enter Try.func20, Try.ntmps20
    go_wp2_with (first
      | (go_at_call 27; with_reducible refine k1.mono ?_; clear k1; rintro e w' ⟨rfl, rfl⟩)
      | (go_at_call 27; with_reducible refine k2.mono ?_; clear k2; rintro e w' ⟨rfl, rfl⟩)
      | (go_at_call 17; refine kc.mono ?_; clear kc; rintro e w1 ⟨rfl, hb1⟩))
    go_loopg [0, 1] (A + B) (fun k x y wr => GcdInv G w x y wr k)
    case atStart =>
      obtain ⟨P, Q, a, c, b, d, f1, f2, f3, f4, f5, f6, f7, f8, f9⟩ := S1.out
      exact ⟨P, Q, a, c, b, d, f1, f2, f3.below hb1, f4.below hb1, f5, f6, f7, by omega, then_below f9 hb1⟩
    case round =>
      obtain ⟨P, Q, a, c, b, d, rfl, rfl, g1, g2, hle, hl, hg, hk, hbl⟩ := hrel
      have hlQ := digs_mono hle
      by_cases h2 : 2 < (digs Q).length
      · have i2 : (2 : Int) < ((digs Q).length : Int) := by omega
        have kl := lessen_any g1 g2 hl h2 hle
        have HF := Lib.hid (show Nat.gcd P Q = G ∧ Q ≤ gk from ⟨hg, hk⟩)
        clear hg hk hle hlQ h2 S1 g1 g2
        go_wp2_with (go_at_call 37; refine kl.mono ?_; clear kl; rintro e w2 ⟨X, Y, a2, c2, b2, d2, rfl, gX, gY, hY, hYX, hXP, hgc, rr⟩; have HG2 := Lib.hid hgc; clear hgc)
        go_roundg Y
        case measure => have := HF.out.2; omega
        case rel => exact ⟨X, Y, _, _, _, _, rfl, rfl, gX, gY, hYX, Nat.le_trans (digs_mono hXP) hl, HG2.out.trans HF.out.1, Nat.le_refl _, then_below hbl rr⟩
      · have i2 : ¬ (2 : Int) < ((digs Q).length : Int) := by omega
        have hQ64 : Q < 18446744073709551616 := by
          have := digs_le_iff.1 (show (digs Q).length ≤ 2 by omega)
          rwa [show (4294967296 : Nat) ^ 2 = 18446744073709551616 from by decide] at this
        by_cases h0 : Q = 0
        · have j0 : (((digs Q).length : Int) == 0) = true := by rw [h0, digs_zero]; rfl
          have eG : P = G := by rw [← hg, h0, Nat.gcd_zero_right]
          have HE := Lib.hid eG
          clear hg hk hle hlQ h2 S1 g2 h0 eG
          go_wp2_with (first
            | (go_at_call 38; refine (clone_any g1 (by omega)).mono ?_; rintro e w2 ⟨v', rfl, hF, hb2⟩; obtain ⟨ta, tc, v2, rfl, hR, kt⟩ := trim_any hF (by omega) (sm_digs _); rw [val_digs] at hR)
            | (go_at_call 29; refine kt.mono ?_; rintro e w' ⟨rfl, rfl⟩))
          go_ret
          rw [HE.out] at hR
          exact ⟨v2, rfl, hR.mono hbl.size, then_below hbl hb2⟩
        · have hpos := digs_len_pos h0
          have j0 : (((digs Q).length : Int) == 0) = false := beq_false_of_ne (by omega)
          have j0' : ¬ ((digs Q).length : Int) = 0 := by omega
          have hG64 : G < 18446744073709551616 := by
            rw [← hg]; exact Nat.lt_of_le_of_lt (Nat.gcd_le_right _ (Nat.pos_of_ne_zero h0)) hQ64
          have ko := fun W => of_any G hG64 W
          have kwQ := fun (W : World) (h : Reads W (.slice b (digs Q).length d) (digs Q)) => word_any h (by omega) (sm_digs _)
          rw [val_digs] at kwQ
          by_cases h3 : 2 < (digs P).length
          · have i3 : (2 : Int) < ((digs P).length : Int) := by omega
            obtain ⟨R, hR⟩ : ∃ R, R = P % Q := ⟨_, rfl⟩
            have hRQ : R < Q := hR ▸ Nat.mod_lt _ (Nat.pos_of_ne_zero h0)
            have hlR := digs_mono (Nat.le_of_lt hRQ)
            have kd := d_divide (P / Q) R g1 g2 hl (by omega) h0 rfl hR
            have kwR := fun (W : World) (p : Option Addr) (q : Nat) (h : Reads W (.slice p (digs R).length q) (digs R)) => word_any h (by omega) (sm_digs _)
            rw [val_digs] at kwR
            have eG : Nat.gcd Q R = G := by rw [hR, ← hg, Nat.gcd_comm Q, ← Nat.gcd_rec, Nat.gcd_comm]
            have kg := fun W => gcdOfWords_any W Q R hQ64 (by omega)
            rw [eG] at kg
            clear hg hk hle hlQ h2 S1 g1 eG hR hRQ hlR h3 h0 hpos
            go_wp2_with (first
              | (go_at_call 32; refine kd.mono ?_; clear kd; rintro e w2 ⟨x2, y2, x3, y3, rfl, gq, gr, rr⟩; replace g2 := g2.below rr; have hb2 := then_below hbl rr; clear rr gq)
              | (go_at_call 40; with_reducible refine (kwQ _ g2).mono ?_; rintro e w3 ⟨rfl, rr⟩; replace gr := gr.below rr; have hb3 := then_below hb2 rr; clear rr)
              | (go_at_call 40; with_reducible refine (kwR _ _ _ gr).mono ?_; rintro e w4 ⟨rfl, rr⟩; have hb4 := then_below hb3 rr; clear rr)
              | (go_at_call 39; refine (kg _).mono ?_; rintro e w5 ⟨rfl, n, rfl⟩; have hb5 : Below w.heap.size w (w4.drewN n) := ⟨hb4.os, hb4.tape, hb4.output, hb4.size, hb4.block⟩)
              | (go_at_call 24; refine (ko _).mono ?_; rintro e w6 ⟨v, rfl, hF, hb6⟩))
            go_ret
            exact ⟨v, rfl, hF.mono hb5.size, then_below hb5 hb6⟩
          · have i3 : ¬ (2 : Int) < ((digs P).length : Int) := by omega
            have hP64 : P < 18446744073709551616 := by
              have := digs_le_iff.1 (show (digs P).length ≤ 2 by omega)
              rwa [show (4294967296 : Nat) ^ 2 = 18446744073709551616 from by decide] at this
            have kwP := fun (W : World) (h : Reads W (.slice a (digs P).length c) (digs P)) => word_any h (by omega) (sm_digs _)
            rw [val_digs] at kwP
            have kg := fun W => gcdOfWords_any W P Q hP64 hQ64
            rw [hg] at kg
            clear hg hk hle hlQ h2 S1 h3 h0 hpos
            go_wp2_with (first
              | (go_at_call 40; with_reducible refine (kwP _ g1).mono ?_; rintro e w3 ⟨rfl, rr⟩; replace g2 := g2.below rr; have hb3 := then_below hbl rr; clear rr)
              | (go_at_call 40; with_reducible refine (kwQ _ g2).mono ?_; rintro e w4 ⟨rfl, rr⟩; have hb4 := then_below hb3 rr; clear rr)
              | (go_at_call 39; refine (kg _).mono ?_; rintro e w5 ⟨rfl, n, rfl⟩; have hb5 : Below w.heap.size w (w4.drewN n) := ⟨hb4.os, hb4.tape, hb4.output, hb4.size, hb4.block⟩)
              | (go_at_call 24; refine (ko _).mono ?_; rintro e w6 ⟨v, rfl, hF, hb6⟩))
            go_ret
            exact ⟨v, rfl, hF.mono hb5.size, then_below hb5 hb6⟩

section
variable {w : World} {p1 p2 : Option Addr} {q1 q2 A B : Nat}
theorem d_gcd (G : Nat) (h1 : Reads w (.slice p1 (digs A).length q1) (digs A)) (h2 : Reads w (.slice p2 (digs B).length q2) (digs B)) (l1 : (digs A).length ≤ 80000) (l2 : (digs B).length ≤ 80000) (e : G = Nat.gcd A B) :
    Calls Try.prog 20 #[.slice p1 (digs A).length q1, .slice p2 (digs B).length q2] w fun e w' => ∃ a c, e = .returned (.slice a (digs G).length c) ∧ Reads w' (.slice a (digs G).length c) (digs G) ∧ Below w.heap.size w w' := by
  refine (gcd_any h1 h2 l1 l2 (sm_digs _) (sm_digs _) G (by rw [nv_digs, nv_digs]; exact e)).mono ?_
  rintro e w' ⟨v, rfl, f, hb⟩
  obtain ⟨a, c, rfl⟩ := f.reads.form
  exact ⟨a, c, rfl, f.reads, hb⟩
end

end Go.Proofs.Ytbcipningfdgoaa
