/- Whole numbers of 64 bits, and back. -/
import Derived.Test.YtjcoaoacgcpooaaIntsMore
namespace Go.Proofs.Ytjcoaoacgcpooaa
open Go Go.Proofs Go.RowKit Go.Shelf Nu

attribute [local go_sem] Oper.semAt_some

theorem wrap_neg {n : Nat} (h0 : 0 < n) (h : n ≤ 9223372036854775808) : IntKind.u64.wrap (-(IntKind.u64.wrap (-(n : Int)))) = (n : Int) := by
  rw [IntKind.wrap_u64, IntKind.wrap_u64]; omega
theorem wrap_neg1 {n : Nat} (h0 : 0 < n) (h : n ≤ 9223372036854775808) : IntKind.u64.wrap (-(n : Int)) = ((18446744073709551616 - n : Nat) : Int) := by
  rw [IntKind.wrap_u64]; omega
theorem wrap_neg2 {n : Nat} (h0 : 0 < n) (h : n ≤ 9223372036854775808) : IntKind.u64.wrap (-((18446744073709551616 - n : Nat) : Int)) = (n : Int) := by
  rw [IntKind.wrap_u64]; omega
theorem wrap_back {n : Nat} (h0 : 0 < n) (h : n ≤ 9223372036854775808) : IntKind.i64.wrap ((18446744073709551616 - n : Nat) : Int) = -(n : Int) := by
  rw [IntKind.wrap_i64]; omega
theorem wrap_pos {n : Nat} (h : n ≤ 9223372036854775807) : IntKind.i64.wrap (n : Int) = (n : Int) := by
  rw [IntKind.wrap_i64]; omega
theorem wrap_pos_u {n : Nat} (h : n ≤ 9223372036854775807) : IntKind.u64.wrap (n : Int) = (n : Int) := by
  rw [IntKind.wrap_u64]; omega

set_option maxHeartbeats 2000000 in
theorem i_of (X : Int) (W : World) (h1 : -9223372036854775808 ≤ X) (h2 : X ≤ 9223372036854775807) :
    Calls Try.prog 19 #[.int .i64 X] W fun e w' => ∃ a c, e = .returned (.agg #[.bool (decide (X < 0)), .slice a (digs X.natAbs).length c]) ∧ Reads w' (.slice a (digs X.natAbs).length c) (digs X.natAbs) ∧ Below W.heap.size W w' := by
  obtain ⟨n, hn⟩ : ∃ n, n = X.natAbs := ⟨_, rfl⟩
  rw [← hn]
  have ko : ∀ V, _ := fun V => of_any n (by omega) V
  have B := Box2.new W 25 (.bool false) (.slice none 0 0)
  have h0 : Below W.heap.size W (W.alloc (.cells #[.bool false, .slice none 0 0] 25)) := (Below.refl _ _).alloc (Nat.le_refl _) _
  by_cases hx : X < 0
  · have e : X = -(n : Int) := by omega
    have hp : 0 < n := by omega
    have hle : n ≤ 9223372036854775808 := by omega
    have ks := fun V a c => signed_any true a (digs n).length c V
    rw [dec_digs, show (true && decide (0 < n)) = true by simp [hp]] at ks
    rw [show decide (X < 0) = true by simp [hx]]
    subst e
    have u1 := wrap_neg1 hp hle
    have u2 := wrap_neg2 hp hle
    obtain ⟨m, hm⟩ : ∃ m, m = 18446744073709551616 - n := ⟨_, rfl⟩
    rw [← hm] at u1 u2
    have hneg : -(n : Int) < 0 := hx
    clear hn h1 h2 hx hm
    go_enter Try.func19, Try.ntmps19
    go_wp2_with (first
      | (go_at_call 35; refine (ko _).mono ?_; clear ko; rintro e w1 ⟨v, rfl, f, r1⟩; have g := f.reads; obtain ⟨a, c, rfl⟩ := g.form; have B1 := B.below r1; have h3 := then_below h0 r1)
      | (go_at_call 32; refine (ks _ _ _).mono ?_; clear ks; rintro e w2 ⟨rfl, r2⟩; have B2 := B1.below r2; have z2 := B2.c0; have z3 := B2.c1; have z4 := B2.fr 0; have z5 := B2.fr 1; have h4 := then_below h3 r2))
    refine ret_box2 rfl rfl ((B2.set0 _).set1 _) Try.underlying25 size_int rfl ?_
    exact ⟨a, c, rfl, (g.below r2).sets B2, below_sets h4 (Nat.le_refl _) _ _⟩
  · have e : X = (n : Int) := by omega
    have hle : n ≤ 9223372036854775807 := by omega
    have ks := fun V a c => signed_any false a (digs n).length c V
    rw [show (false && decide (0 < (digs n).length)) = false by simp] at ks
    rw [show decide (X < 0) = false by simp [hx]]
    subst e
    have u1 := wrap_pos_u hle
    have hneg : ¬ (n : Int) < 0 := hx
    clear hn h1 h2 hx
    go_enter Try.func19, Try.ntmps19
    go_wp2_with (first
      | (go_at_call 35; refine (ko _).mono ?_; clear ko; rintro e w1 ⟨v, rfl, f, r1⟩; have g := f.reads; obtain ⟨a, c, rfl⟩ := g.form; have B1 := B.below r1; have h3 := then_below h0 r1)
      | (go_at_call 32; refine (ks _ _ _).mono ?_; clear ks; rintro e w2 ⟨rfl, r2⟩; have B2 := B1.below r2; have z2 := B2.c0; have z3 := B2.c1; have z4 := B2.fr 0; have z5 := B2.fr 1; have h4 := then_below h3 r2))
    refine ret_box2 rfl rfl ((B2.set0 _).set1 _) Try.underlying25 size_int rfl ?_
    exact ⟨a, c, rfl, (g.below r2).sets B2, below_sets h4 (Nat.le_refl _) _ _⟩

theorem backV_digs {n : Nat} (h : n < 18446744073709551616) : backV (digs n) = .tuple #[.int .u64 n, .int .i64 0] := by
  have hl : (digs n).length ≤ 2 := digs_length_le (Nat.lt_of_lt_of_le h (by decide))
  unfold backV
  rw [if_pos (chk_digs n), if_neg (by omega), val_digs]

set_option maxHeartbeats 2000000 in
/-- Back, and the law package's own small, of a number of 64 bits -/
theorem i_back (X : Int) {w : World} {a : Option Addr} {c : Nat} (h : Reads w (.slice a (digs X.natAbs).length c) (digs X.natAbs)) (h1 : -9223372036854775808 ≤ X) (h2 : X ≤ 9223372036854775807) :
    Calls Try.prog 29 #[.agg #[.bool (decide (X < 0)), .slice a (digs X.natAbs).length c]] w fun e w' => e = .returned (.tuple #[.int .i64 X, .int .i64 0]) ∧ Below w.heap.size w w' := by
  have hc : ichk (decide (X < 0)) (digs X.natAbs) = true := by
    unfold ichk
    rw [chk_digs, dec_digs]
    by_cases h : X < 0
    · simp [h]; omega
    · simp [h]
  obtain ⟨n, hn⟩ : ∃ n, n = X.natAbs := ⟨_, rfl⟩
  rw [← hn] at h hc ⊢
  have hl : (digs n).length ≤ 2 := digs_length_le (Nat.lt_of_le_of_lt (show n ≤ 9223372036854775808 by omega) (by decide))
  have kc : ∀ V, Below w.heap.size w V → _ := fun V hV => icheck_any (n := decide (X < 0)) (h.below hV) (by omega)
  rw [hc] at kc
  have kb : ∀ V, Below w.heap.size w V → _ := fun V hV => back_any' (h.below hV) (by omega) (sm_digs _)
  rw [backV_digs (n := n) (by omega)] at kb
  have B := Box2.new w 25 (.bool (decide (X < 0))) (.slice a (digs n).length c)
  have h0 : Below w.heap.size w (w.alloc (.cells #[.bool (decide (X < 0)), .slice a (digs n).length c] 25)) := (Below.refl _ _).alloc (Nat.le_refl _) _
  by_cases hx : X < 0
  · have e : X = -(n : Int) := by omega
    have hp : 0 < n := by omega
    have hle : n ≤ 9223372036854775808 := by omega
    have hd : decide (X < 0) = true := by simp [hx]
    rw [hd] at kc B h0 ⊢
    subst e
    have u1 := wrap_neg1 hp hle
    have u2 := wrap_back hp hle
    obtain ⟨m, hm⟩ : ∃ m, m = 18446744073709551616 - n := ⟨_, rfl⟩
    rw [← hm] at u1 u2
    have hi : (n : Int) ≤ 9223372036854775808 := by omega
    clear hn h1 h2 hx hm h hc hd
    go_enter Try.func29, Try.ntmps29
    go_wp2_with (first
      | (go_at_call 12; refine (kc _ h0).mono ?_; clear kc; rintro e w1 ⟨rfl, r1⟩; have B1 := B.below r1; have h3 := then_below h0 r1; have z1 := B1.c1)
      | (go_at_call 47; refine (kb _ h3).mono ?_; clear kb; rintro e w2 ⟨rfl, r2⟩; have B2 := B1.below r2; have z2 := B2.c0; have h4 := then_below h3 r2))
    go_ret2
    exact ⟨rfl, h4⟩
  · have e : X = (n : Int) := by omega
    have hle : n ≤ 9223372036854775807 := by omega
    have hd : decide (X < 0) = false := by simp [hx]
    rw [hd] at kc B h0 ⊢
    subst e
    have u1 := wrap_pos hle
    have hi : (n : Int) ≤ 9223372036854775807 := by omega
    clear hn h1 h2 hx h hc hd
    go_enter Try.func29, Try.ntmps29
    go_wp2_with (first
      | (go_at_call 12; refine (kc _ h0).mono ?_; clear kc; rintro e w1 ⟨rfl, r1⟩; have B1 := B.below r1; have h3 := then_below h0 r1; have z1 := B1.c1)
      | (go_at_call 47; refine (kb _ h3).mono ?_; clear kb; rintro e w2 ⟨rfl, r2⟩; have B2 := B1.below r2; have z2 := B2.c0; have h4 := then_below h3 r2))
    go_ret2
    exact ⟨rfl, h4⟩
set_option maxHeartbeats 1000000 in
theorem i_small (X : Int) {w : World} {a : Option Addr} {c : Nat} (h : Reads w (.slice a (digs X.natAbs).length c) (digs X.natAbs)) (h1 : -9223372036854775808 ≤ X) (h2 : X ≤ 9223372036854775807) :
    Calls Try.prog 20 #[.agg #[.bool (decide (X < 0)), .slice a (digs X.natAbs).length c]] w fun e w' => e = .returned (.int .i64 X) ∧ Below w.heap.size w w' := by
  have kb : ∀ V, Below w.heap.size w V → _ := fun V hV => i_back X (h.below hV) h1 h2
  have h0 : Below w.heap.size w (w.alloc (.cells #[.bool (decide (X < 0)), .slice a (digs X.natAbs).length c] 25)) := (Below.refl _ _).alloc (Nat.le_refl _) _
  have kd := kb _ h0
  obtain ⟨R, hR⟩ : ∃ R, R = decide (X < 0) := ⟨_, rfl⟩
  rw [← hR] at kd h0 ⊢
  clear h h1 h2 kb hR
  go_enter Try.func20, Try.ntmps20
  go_wp2_with (go_at_call 29; refine kd.mono ?_; clear kd; rintro e w1 ⟨rfl, r1⟩)
  go_ret
  exact ⟨rfl, then_below h0 r1⟩

end Go.Proofs.Ytjcoaoacgcpooaa
