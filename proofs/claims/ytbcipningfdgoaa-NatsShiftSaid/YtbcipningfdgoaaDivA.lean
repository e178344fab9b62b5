/- How often a number goes into another one, and what is left, of any two. -/
import Derived.Test.YtbcipningfdgoaaLong
import Derived.Test.YtbcipningfdgoaaDiv
import Derived.Test.YtbcipningfdgoaaForm
namespace Go.Proofs.Ytbcipningfdgoaa
open Go Go.Proofs Go.RowKit Go.Shelf Nu

set_option maxHeartbeats 1000000 in
theorem divide_long {w : World} {va vb : Value} {la lb : List Nat} (ha : Reads w va la) (hb : Reads w vb lb) (hla : la.length ≤ 80000) (hlb : lb.length ≤ 80000) (hsa : Sm la) (hsb : Sm lb) (hca : chk la = true) (hcb : chk lb = true) (h2 : 2 ≤ lb.length) (h : val lb ≤ val la) :
    Calls Try.prog 32 #[va, vb] w fun e w' => ∃ v1 v2, e = .returned (.tuple #[v1, v2]) ∧ Fresh w' w.heap.size v1 (digs (val la / val lb)) ∧ Fresh w' w.heap.size v2 (digs (val la % val lb)) ∧ Below w.heap.size w w' := by
  have hle : lb.length ≤ la.length := by
    rcases Nat.lt_or_ge la.length lb.length with h1 | h1
    · have := le_of_length_lt hsa hsb hcb h1; omega
    · exact h1
  have kc := cmp_any ha hb (by omega) (by omega) hsa hsb
  have hz : ¬ (sgn (val la) (val lb)) < 0 := by simp [sgn]; split <;> (try split) <;> omega
  rw [nv_chk hca, nv_chk hcb] at kc
  obtain ⟨z, hz1⟩ : ∃ z, z = sgn (val la) (val lb) := ⟨_, rfl⟩
  rw [← hz1] at kc hz
  have kd : ∀ W, Below w.heap.size w W → _ := fun W hW => divLong_any (ha.below hW) (hb.below hW) hla hlb hsa hsb hcb h2 hle
  obtain ⟨a1, c1, rfl⟩ := ha.form
  obtain ⟨b1, d1, rfl⟩ := hb.form
  have hm : ((lb.length : Int) == 1) = false := by simp; omega
  clear ha hb hz1 h hle h2 hca hcb
  go_enter Try.func32, Try.ntmps32
  go_wp2_with (first
    | (go_at_call 17; refine kc.mono ?_; rintro e w1 ⟨rfl, hb1⟩)
    | (go_at_call 49; refine (kd _ hb1).mono ?_; rintro e w2 ⟨v1, v2, rfl, f1, f2, hb2⟩))
  go_ret2
  exact ⟨v1, v2, rfl, f1.mono hb1.size, f2.mono hb1.size, then_below hb1 hb2⟩

/-- divide, of any two numbers, the second one not 0 -/
theorem divide_any {w : World} {va vb : Value} {la lb : List Nat} (ha : Reads w va la) (hb : Reads w vb lb) (hla : la.length ≤ 80000) (hlb : lb.length ≤ 80000) (hsa : Sm la) (hsb : Sm lb) (hca : chk la = true) (hcb : chk lb = true) (h0 : lb ≠ []) :
    Calls Try.prog 32 #[va, vb] w fun e w' => ∃ v1 v2, e = .returned (.tuple #[v1, v2]) ∧ Fresh w' w.heap.size v1 (digs (val la / val lb)) ∧ Fresh w' w.heap.size v2 (digs (val la % val lb)) ∧ Below w.heap.size w w' := by
  rcases Nat.lt_or_ge (val la) (val lb) with h | h
  · refine (divide_less ha hb (by omega) (by omega) hsa hsb hca hcb h).mono ?_
    rintro e w' ⟨v, rfl, f, hb⟩
    refine ⟨_, v, rfl, ?_, ?_, hb⟩
    · rw [Nat.div_eq_of_lt h, digs_zero]; exact Fresh.nil _ _
    · rw [Nat.mod_eq_of_lt h, digs_val hsa hca]; exact f
  · cases lb with
    | nil => exact absurd rfl h0
    | cons d t =>
      cases t with
      | nil =>
        have hd : 0 < d := by
          have : chk [d] = (d != 0) := by simp [chk]
          rw [this] at hcb; simp at hcb; omega
        have := divide_one ha hb (by omega) hsa hca hd hsb.head (by rw [val_one] at h; exact h)
        rw [val_one]; exact this
      | cons d2 t => exact divide_long ha hb hla hlb hsa hsb hca hcb (by simp) h

section
variable {w : World} {p1 p2 : Option Addr} {q1 q2 A B : Nat}
theorem d_divide (Q R : Nat) (h1 : Reads w (.slice p1 (digs A).length q1) (digs A)) (h2 : Reads w (.slice p2 (digs B).length q2) (digs B)) (l1 : (digs A).length ≤ 80000) (l2 : (digs B).length ≤ 80000) (h0 : B ≠ 0) (eQ : Q = A / B) (eR : R = A % B) :
    Calls Try.prog 32 #[.slice p1 (digs A).length q1, .slice p2 (digs B).length q2] w fun e w' => ∃ a c b d, e = .returned (.tuple #[.slice a (digs Q).length c, .slice b (digs R).length d]) ∧ Reads w' (.slice a (digs Q).length c) (digs Q) ∧ Reads w' (.slice b (digs R).length d) (digs R) ∧ Below w.heap.size w w' := by
  subst eQ eR
  have k := divide_any h1 h2 l1 l2 (sm_digs _) (sm_digs _) (chk_digs _) (chk_digs _) (fun e => h0 (digs_eq_nil.1 e))
  rw [val_digs, val_digs] at k
  refine k.mono ?_
  rintro e w' ⟨v1, v2, rfl, f, g, hb⟩
  obtain ⟨a, c, rfl⟩ := f.reads.form
  obtain ⟨b, d, rfl⟩ := g.reads.form
  exact ⟨a, c, b, d, rfl, f.reads, g.reads, hb⟩
theorem d_quo (Q R : Nat) (h1 : Reads w (.slice p1 (digs A).length q1) (digs A)) (h2 : Reads w (.slice p2 (digs B).length q2) (digs B)) (l1 : (digs A).length ≤ 80000) (l2 : (digs B).length ≤ 80000) (h0 : B ≠ 0) (eQ : Q = A / B) (eR : R = A % B) :
    Calls Try.prog 16 #[.slice p1 (digs A).length q1, .slice p2 (digs B).length q2] w fun e w' => ∃ a c b d, e = .returned (.tuple #[.slice a (digs Q).length c, .slice b (digs R).length d, .int .i64 0]) ∧ Reads w' (.slice a (digs Q).length c) (digs Q) ∧ Reads w' (.slice b (digs R).length d) (digs R) ∧ Below w.heap.size w w' := by
  subst eQ eR
  have k := divide_any h1 h2 l1 l2 (sm_digs _) (sm_digs _) (chk_digs _) (chk_digs _) (fun e => h0 (digs_eq_nil.1 e))
  rw [val_digs, val_digs] at k
  refine (div_of h1 h2 (by omega) (by omega) (chk_digs _) (chk_digs _) (fun e => h0 (digs_eq_nil.1 e)) k).mono ?_
  rintro e w' ⟨v1, v2, rfl, f, g, hb⟩
  obtain ⟨a, c, rfl⟩ := f.reads.form
  obtain ⟨b, d, rfl⟩ := g.reads.form
  exact ⟨a, c, b, d, rfl, f.reads, g.reads, hb⟩
end

end Go.Proofs.Ytbcipningfdgoaa
