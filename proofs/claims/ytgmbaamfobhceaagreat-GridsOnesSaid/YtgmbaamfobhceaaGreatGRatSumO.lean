/- Fractions: the small calls, whose answers are the call's own. Fractions: products, of the call's own. Fractions: sums and differences, of the .. -/
import Derived.Test.YtgmbaamfobhceaaGreatGRatB
import Derived.Test.YtgmbaamfobhceaaGreatGRTv
import Derived.Test.YtgmbaamfobhceaaGreatGRatMul
import Derived.Test.YtgmbaamfobhceaaGreatGRatSum
set_option linter.unusedSimpArgs false
set_option linter.unusedVariables false
set_option maxRecDepth 100000
set_option maxHeartbeats 8000000
namespace Go.Proofs.YtgmbaamfobhceaaGreat
open Go Go.Proofs Go.RowKit Go.Shelf Nu
attribute [local go_sem] Oper.semAt_some
section
variable {w : World} {p1 p2 : Option Addr} {q1 q2 A B : Nat}
theorem d_quo_own (Q R : Nat) (h1 : Reads w (.slice p1 (digs A).length q1) (digs A)) (h2 : Reads w (.slice p2 (digs B).length q2) (digs B)) (l1 : (digs A).length ≤ 80000) (l2 : (digs B).length ≤ 80000) (h0 : B ≠ 0) (eQ : Q = A / B) (eR : R = A % B) :
  Calls Tryz.prog 142 #[.slice p1 (digs A).length q1, .slice p2 (digs B).length q2] w fun e w' => ∃ a c b d, e = .returned (.tuple #[.slice a (digs Q).length c, .slice b (digs R).length d, .int .i64 0]) ∧ Fresh w' w.heap.size (.slice a (digs Q).length c) (digs Q) ∧ Reads w' (.slice b (digs R).length d) (digs R) ∧ Below w.heap.size w w' := by
 subst eQ eR
 have k := divide_any h1 h2 l1 l2 (sm_digs _) (sm_digs _) (chk_digs _) (chk_digs _) (fun e => h0 (digs_eq_nil.1 e))
 rw [val_digs, val_digs] at k
 refine (div_of h1 h2 (by omega) (by omega) (chk_digs _) (chk_digs _) (fun e => h0 (digs_eq_nil.1 e)) k).mono ?_
 rintro e w' ⟨v1, v2, rfl, f, g, hb⟩
 obtain ⟨a, c, rfl⟩ := f.reads.form
 obtain ⟨b, d, rfl⟩ := g.reads.form
 exact ⟨a, c, b, d, rfl, f, g.reads, hb⟩
theorem d_gcd_own (G : Nat) (h1 : Reads w (.slice p1 (digs A).length q1) (digs A)) (h2 : Reads w (.slice p2 (digs B).length q2) (digs B)) (l1 : (digs A).length ≤ 80000) (l2 : (digs B).length ≤ 80000) (e : G = Nat.gcd A B) :
  Calls Tryz.prog 63 #[.slice p1 (digs A).length q1, .slice p2 (digs B).length q2] w fun e w' => ∃ a c, e = .returned (.slice a (digs G).length c) ∧ Fresh w' w.heap.size (.slice a (digs G).length c) (digs G) ∧ Below w.heap.size w w' := by
 refine (gcd_any h1 h2 l1 l2 (sm_digs _) (sm_digs _) G (by rw [nv_digs, nv_digs]; exact e)).mono ?_
 rintro e w' ⟨v, rfl, f, hb⟩
 obtain ⟨a, c, rfl⟩ := f.reads.form
 exact ⟨a, c, rfl, f, hb⟩
end
theorem iof_own (X : Int) (W : World) (h1 : -9223372036854775808 ≤ X) (h2 : X ≤ 9223372036854775807) :
   Calls Tryz.prog 65 #[.int .i64 X] W fun e w' => ∃ a c, e = .returned (.agg #[.bool (decide (X < 0)), .slice a (digs X.natAbs).length c]) ∧ Fresh w' W.heap.size (.slice a (digs X.natAbs).length c) (digs X.natAbs) ∧ Below W.heap.size W w' := by
 obtain ⟨n, hn⟩ : ∃ n, n = X.natAbs := ⟨_, rfl⟩
 rw [← hn]
 have ko : ∀ V, _ := fun V => of_any n (by omega) V
 have B := Box2.new W 42 (.bool false) (.slice none 0 0)
 have h0 : Below W.heap.size W (W.alloc (.cells #[.bool false, .slice none 0 0] 42)) := (Below.refl _ _).alloc (Nat.le_refl _) _
 by_cases hx : X < 0
 · have e : X = -(n : Int) := by omega
   have hp : 0 < n := by omega
   have hle : n ≤ 9223372036854775808 := by omega
   have ks := fun V a c => signed_any true a (digs n).length c V
   rw [dec_digs, show (true && decide (0 < n)) = true by simp [hp]] at ks
   rw [show decide (X < 0) = true by simp [hx]]
   subst e
   have u1 := wrap_neg1 hp hle
   have u2 := wrap_neg2 hp hle
   obtain ⟨m, hm⟩ : ∃ m, m = 18446744073709551616 - n := ⟨_, rfl⟩
   rw [← hm] at u1 u2
   have hneg : -(n : Int) < 0 := hx
   clear hn h1 h2 hx hm
   go_enter Tryz.func65, Tryz.ntmps65
   go_wp2_with (first
    | (go_at_call 109; refine (ko _).mono ?_; clear ko; rintro e w1 ⟨v, rfl, f, r1⟩; have g := f.mono h0.size; obtain ⟨a, c, rfl⟩ := g.reads.form; have B1 := B.below r1; have h3 := then_below h0 r1)
    | (go_at_call 117; refine (ks _ _ _).mono ?_; clear ks; rintro e w2 ⟨rfl, r2⟩; have B2 := B1.below r2; have z2 := B2.c0; have z3 := B2.c1; have z4 := B2.fr 0; have z5 := B2.fr 1; have h4 := then_below h3 r2))
   refine ret_box2 rfl rfl ((B2.set0 _).set1 _) Tryz.underlying42 size_int rfl ?_
   exact ⟨a, c, rfl, (g.below r2).sets B2, below_sets h4 (Nat.le_refl _) _ _⟩
 · have e : X = (n : Int) := by omega
   have hle : n ≤ 9223372036854775807 := by omega
   have ks := fun V a c => signed_any false a (digs n).length c V
   rw [show (false && decide (0 < (digs n).length)) = false by simp] at ks
   rw [show decide (X < 0) = false by simp [hx]]
   subst e
   have u1 := wrap_pos_u hle
   have hneg : ¬ (n : Int) < 0 := hx
   clear hn h1 h2 hx
   go_enter Tryz.func65, Tryz.ntmps65
   go_wp2_with (first
    | (go_at_call 109; refine (ko _).mono ?_; clear ko; rintro e w1 ⟨v, rfl, f, r1⟩; have g := f.mono h0.size; obtain ⟨a, c, rfl⟩ := g.reads.form; have B1 := B.below r1; have h3 := then_below h0 r1)
    | (go_at_call 117; refine (ks _ _ _).mono ?_; clear ks; rintro e w2 ⟨rfl, r2⟩; have B2 := B1.below r2; have z2 := B2.c0; have z3 := B2.c1; have z4 := B2.fr 0; have z5 := B2.fr 1; have h4 := then_below h3 r2))
   refine ret_box2 rfl rfl ((B2.set0 _).set1 _) Tryz.underlying42 size_int rfl ?_
   exact ⟨a, c, rfl, (g.below r2).sets B2, below_sets h4 (Nat.le_refl _) _ _⟩
section
variable {W : World} {p1 p2 : Option Addr} {q1 q2 : Nat} {s1 s2 s3 : Bool} {L1 L2 L3 : List Nat} {X Y : Int}
theorem q_add_own (hX : Is s1 L1 X) (hY : Is s2 L2 Y) {Z : Int} (hZ : Can s3 L3 Z) (e : Z = X + Y) (l1 : L1.length ≤ 50000) (l2 : L2.length ≤ 50000) (h1 : Reads W (.slice p1 L1.length q1) L1) (h2 : Reads W (.slice p2 L2.length q2) L2) :
  Calls Tryz.prog 104 #[.agg #[.bool s1, .slice p1 L1.length q1], .agg #[.bool s2, .slice p2 L2.length q2]] W fun e w' => ∃ a c, e = .returned (.agg #[.bool s3, .slice a L3.length c]) ∧ Fresh w' W.heap.size (.slice a L3.length c) L3 ∧ Below W.heap.size W w' := by
 obtain ⟨rfl, rfl⟩ := hZ
 exact i_add_own Z h1 h2 l1 l2 hX.1 hY.1 (by rw [hX.2, hY.2, e])
theorem q_mul_own (hX : Is s1 L1 X) (hY : Is s2 L2 Y) {Z : Int} (hZ : Can s3 L3 Z) (e : Z = X * Y) (l1 : L1.length ≤ 50000) (l2 : L2.length ≤ 50000) (h1 : Reads W (.slice p1 L1.length q1) L1) (h2 : Reads W (.slice p2 L2.length q2) L2) :
  Calls Tryz.prog 93 #[.agg #[.bool s1, .slice p1 L1.length q1], .agg #[.bool s2, .slice p2 L2.length q2]] W fun e w' => ∃ a c, e = .returned (.agg #[.bool s3, .slice a L3.length c]) ∧ Fresh w' W.heap.size (.slice a L3.length c) L3 ∧ Below W.heap.size W w' := by
 obtain ⟨rfl, rfl⟩ := hZ
 exact i_mul_own Z h1 h2 l1 l2 hX.1 hY.1 (by rw [hX.2, hY.2, e])
theorem q_of_own (X : Int) (hX : Can s1 L1 X) (h1 : -9223372036854775808 ≤ X) (h2 : X ≤ 9223372036854775807) :
  Calls Tryz.prog 65 #[.int .i64 X] W fun e w' => ∃ a c, e = .returned (.agg #[.bool s1, .slice a L1.length c]) ∧ Fresh w' W.heap.size (.slice a L1.length c) L1 ∧ Below W.heap.size W w' := by
 obtain ⟨rfl, rfl⟩ := hX
 exact iof_own X W h1 h2
end
section
variable {w : World} {p1 p2 : Option Addr} {q1 q2 : Nat} {s1 s2 : Bool} {L1 L2 L3 : List Nat}
theorem common_own {A B : Nat} (hA : L1 = digs A) (hB : L2 = digs B) (hG : L3 = digs (Nat.gcd A B)) (l1 : L1.length ≤ 80000) (l2 : L2.length ≤ 80000) (h1 : Reads w (.slice p1 L1.length q1) L1) (h2 : Reads w (.slice p2 L2.length q2) L2) :
  Calls Tryz.prog 106 #[.agg #[.bool s1, .slice p1 L1.length q1], .agg #[.bool s2, .slice p2 L2.length q2]] w fun e w' => ∃ a c, e = .returned (.agg #[.bool false, .slice a L3.length c]) ∧ Fresh w' w.heap.size (.slice a L3.length c) L3 ∧ Below w.heap.size w w' := by
 have kg : ∀ W, Below w.heap.size w W → Calls Tryz.prog 63 #[.slice p1 L1.length q1, .slice p2 L2.length q2] W fun e w' => ∃ a c, e = .returned (.slice a L3.length c) ∧ Fresh w' W.heap.size (.slice a L3.length c) L3 ∧ Below W.heap.size W w' :=
  fun W hW => by subst hA hB hG; exact d_gcd_own _ (h1.below hW) (h2.below hW) l1 l2 rfl
 have M0 : Mem w [(w.heap.size + 1 + 1, 42, [.bool false, .slice none 0 0]), (w.heap.size + 1, 42, [.bool s2, .slice p2 L2.length q2]), (w.heap.size, 42, [.bool s1, .slice p1 L1.length q1])] []
   (((w.alloc (.cells #[.bool s1, .slice p1 L1.length q1] 42)).alloc (.cells #[.bool s2, .slice p2 L2.length q2] 42)).alloc (.cells #[.bool false, .slice none 0 0] 42)) := by
  have M := (((Mem.start w).new 42 [.bool s1, .slice p1 L1.length q1]).new 42 [.bool s2, .slice p2 L2.length q2]).new 42 [.bool false, .slice none 0 0]
  simpa only [World.size_alloc] using M
 have M0 := MemO.of (n := 0) M0
 clear h1 h2 hA hB hG l1 l2
 go_enter Tryz.func106, Tryz.ntmps106
 go_wp2_with (go_at_call 63; refine (kg _ M0.below).mono ?_; clear kg; rintro e w1 ⟨a, c, rfl, g, rr⟩; have M := M0.upadd rr g; clear M0 g rr; have z0 := M.cell 0 rfl 0 rfl; have z1 := M.cell 0 rfl 1 rfl; have z2 := M.fr 0 rfl 0; have z3 := M.fr 0 rfl 1)
 have M' := (M.put 0 rfl rfl 0 (.bool false)).put 0 rfl rfl 1 (.slice a L3.length c)
 refine ret_boxN rfl rfl (M'.box 0 rfl) Tryz.underlying42 size_int rfl ?_
 exact ⟨a, c, rfl, M'.own 0 rfl, M'.below⟩
theorem over_own {X T : Int} {G : Nat} (hX : Can s1 L1 X) (hG : L2 = digs G) (hT : Can s1 L3 T) (e : X = G * T) (h0 : G ≠ 0) (l1 : L1.length ≤ 80000) (l2 : L2.length ≤ 80000) (h1 : Reads w (.slice p1 L1.length q1) L1) (h2 : Reads w (.slice p2 L2.length q2) L2) :
  Calls Tryz.prog 107 #[.agg #[.bool s1, .slice p1 L1.length q1], .agg #[.bool s2, .slice p2 L2.length q2]] w fun e w' => ∃ a c, e = .returned (.agg #[.bool s1, .slice a L3.length c]) ∧ Fresh w' w.heap.size (.slice a L3.length c) L3 ∧ Below w.heap.size w w' := by
 have kg : ∀ W, Below w.heap.size w W → Calls Tryz.prog 142 #[.slice p1 L1.length q1, .slice p2 L2.length q2] W fun e w' => ∃ a c b d, e = .returned (.tuple #[.slice a L3.length c, .slice b 0 d, .int .i64 0]) ∧ Fresh w' W.heap.size (.slice a L3.length c) L3 ∧ Below W.heap.size W w' := by
  intro W hW
  have eA : X.natAbs = G * T.natAbs := by rw [e, Int.natAbs_mul]; rfl
  obtain ⟨_, rfl⟩ := hX
  obtain ⟨_, rfl⟩ := hT
  subst hG
  refine (d_quo_own T.natAbs 0 (h1.below hW) (h2.below hW) l1 l2 h0 (by rw [eA, Nat.mul_div_cancel_left _ (by omega)]) (by rw [eA, Nat.mul_mod_right])).mono ?_
  rintro e w' ⟨a, c, b, d, rfl, g, _, rr⟩
  exact ⟨a, c, b, d, by rw [digs_zero]; rfl, g, rr⟩
 have M0 : Mem w [(w.heap.size + 1 + 1, 42, [.bool false, .slice none 0 0]), (w.heap.size + 1, 42, [.bool s2, .slice p2 L2.length q2]), (w.heap.size, 42, [.bool s1, .slice p1 L1.length q1])] []
   (((w.alloc (.cells #[.bool s1, .slice p1 L1.length q1] 42)).alloc (.cells #[.bool s2, .slice p2 L2.length q2] 42)).alloc (.cells #[.bool false, .slice none 0 0] 42)) := by
  have M := (((Mem.start w).new 42 [.bool s1, .slice p1 L1.length q1]).new 42 [.bool s2, .slice p2 L2.length q2]).new 42 [.bool false, .slice none 0 0]
  simpa only [World.size_alloc] using M
 have M0 := MemO.of (n := 0) M0
 clear h1 h2 hX hT hG l1 l2 e h0
 go_enter Tryz.func107, Tryz.ntmps107
 go_wp2_with (go_at_call 142; refine (kg _ M0.below).mono ?_; clear kg; rintro e w1 ⟨a, c, b, d, rfl, g, rr⟩; have M := M0.upadd rr g; clear M0 g rr; have z0 := M.cell 0 rfl 0 rfl; have z1 := M.cell 0 rfl 1 rfl; have z2 := M.fr 0 rfl 0; have z3 := M.fr 0 rfl 1; have z4 := M.cell 2 rfl 0 rfl)
 have M' := (M.put 0 rfl rfl 0 (.bool s1)).put 0 rfl rfl 1 (.slice a L3.length c)
 refine ret_boxN rfl rfl (M'.box 0 rfl) Tryz.underlying42 size_int rfl ?_
 exact ⟨a, c, rfl, M'.own 0 rfl, M'.below⟩
end
section
variable {w : World} {s : Bool} {L D : List Nat}
theorem r_of_own (X : Int) (cX : RCan s L D (X : Rat)) (h1 : -9223372036854775808 ≤ X) (h2 : X ≤ 9223372036854775807) :
  Calls Tryz.prog 26 #[.int .i64 X] w fun e w' => ∃ a c a' c', e = .returned (.agg #[.bool s, .slice a L.length c, .slice a' D.length c']) ∧ Fresh w' w.heap.size (.slice a L.length c) L ∧ Fresh w' w.heap.size (.slice a' D.length c') D ∧ Below w.heap.size w w' ∧ Two (.slice a L.length c) (.slice a' D.length c') := by
 obtain ⟨cL, rfl⟩ := rcan_int cX
 have k1 := fun W => q_of_own (W := W) X cL h1 h2
 have k2 := fun W => q_of_own (W := W) 1 can_one (by omega) (by omega)
 have M0 : Mem w [(w.heap.size, 44, [.bool false, .slice none 0 0, .slice none 0 0])] [] (w.alloc (.cells #[.bool false, .slice none 0 0, .slice none 0 0] 44)) := (Mem.start w).new _ _
 have M0 := MemO.of (n := 0) M0
 clear cL cX h1 h2
 go_enter Tryz.func26, Tryz.ntmps26
 go_wp2_with (first
  | (go_at_call 65; with_reducible refine (k1 _).mono ?_; clear k1; rintro e w1 ⟨a, c, rfl, g, rr⟩; have M := M0.upadd rr g; clear M0 g rr)
  | (go_at_call 65; refine (k2 _).mono ?_; clear k2; rintro e w2 ⟨a', c', rfl, g, rr⟩; have M' := M.upadd rr g; clear M g rr)
  | (go_at_call 64; refine (fraction_any _ _ _ _ _ _ _ _ _).mono ?_; rintro e w3 ⟨rfl, rr⟩; have M := M'.up rr; clear M' rr; have z0 := M.cell 0 rfl 0 rfl; have z1 := M.cell 0 rfl 1 rfl; have z2 := M.cell 0 rfl 2 rfl; have f0 := M.fr 0 rfl 0; have f1 := M.fr 0 rfl 1; have f2 := M.fr 0 rfl 2))
 have M' := ((M.put 0 rfl rfl 0 (.bool s)).put 0 rfl rfl 1 (.slice a L.length c)).put 0 rfl rfl 2 (.slice a' (digs 1).length c')
 refine ret_boxN rfl rfl (M'.box 0 rfl) Tryz.underlying44 size_rat rfl ?_
 exact ⟨a, c, a', c', rfl, M'.own 1 rfl, M'.own 0 rfl, M'.below, (M'.two 0 1 rfl rfl).symm⟩
end
theorem mulFn_own {w : World} {aX oX aY oY : Option Addr} {cX rX cY rY : Nat} {sX sY sZ : Bool} {LX DX LY DY LZ DZ : List Nat} {X Y Z : Rat} (kX : RCan sX LX DX X) (kY : RCan sY LY DY Y) (kZ : RCan sZ LZ DZ Z) (eZ : Z = X * Y) (b1 : LX.length ≤ 20000) (b2 : DX.length ≤ 20000) (b3 : LY.length ≤ 20000) (b4 : DY.length ≤ 20000) (g1 : Reads w (.slice aX LX.length cX) LX) (g2 : Reads w (.slice oX DX.length rX) DX) (g3 : Reads w (.slice aY LY.length cY) LY) (g4 : Reads w (.slice oY DY.length rY) DY) :
  Calls Tryz.prog 105 #[.agg #[.bool sX, .slice aX LX.length cX, .bool false, .slice oX DX.length rX], .agg #[.bool sY, .slice aY LY.length cY, .bool false, .slice oY DY.length rY]] w fun e w' => ∃ a c a' c', e = .returned (.agg #[.bool sZ, .slice a LZ.length c, .slice a' DZ.length c']) ∧ Fresh w' w.heap.size (.slice a LZ.length c) LZ ∧ Fresh w' w.heap.size (.slice a' DZ.length c') DZ ∧ Below w.heap.size w w' ∧ Two (.slice a LZ.length c) (.slice a' DZ.length c') := by
 obtain ⟨d, u, a, b, p, q, hd, hu, d0, u0, e1, e2, e3, e4, e5, e6⟩ := rmul_parts X Y
 rw [← eZ] at e5 e6
 obtain ⟨Ld, hLd⟩ : ∃ L, L = digs d := ⟨_, rfl⟩
 obtain ⟨Lu, hLu⟩ : ∃ L, L = digs u := ⟨_, rfl⟩
 obtain ⟨Lp, hLp⟩ : ∃ L, L = digs p.natAbs := ⟨_, rfl⟩
 obtain ⟨Lq, hLq⟩ : ∃ L, L = digs q.natAbs := ⟨_, rfl⟩
 obtain ⟨La, hLa⟩ : ∃ L, L = digs a := ⟨_, rfl⟩
 obtain ⟨Lb, hLb⟩ : ∃ L, L = digs b := ⟨_, rfl⟩
 have cp := kX.1.div e1 d0
 have cq := kY.1.div e2 u0
 rw [← hLp] at cp
 rw [← hLq] at cq
 have ca := canL hLa
 have cb := canL hLb
 have lp : Lp.length ≤ 20000 := by rw [hLp]; have := len_le e1 d0; rw [← kX.1.2] at this; omega
 have lq : Lq.length ≤ 20000 := by rw [hLq]; have := len_le e2 u0; rw [← kY.1.2] at this; omega
 have la : La.length ≤ 20000 := by rw [hLa]; have := len_leN e3 u0; rw [← kX.2] at this; omega
 have lb : Lb.length ≤ 20000 := by rw [hLb]; have := len_leN e4 d0; rw [← kY.2] at this; omega
 have ld : Ld.length ≤ 20000 := by rw [hLd]; have := digs_mono (gcd_le (a := X.num.natAbs) Y.den_nz); rw [← hd, ← kY.2] at this; omega
 have lu : Lu.length ≤ 20000 := by rw [hLu]; have := digs_mono (gcd_le (a := Y.num.natAbs) X.den_nz); rw [← hu, ← kX.2] at this; omega
 have kd := fun (W : World) {p1 p2 : Option Addr} {q1 q2 : Nat} (h1 : Reads W (.slice p1 LX.length q1) LX) (h2 : Reads W (.slice p2 DY.length q2) DY) => common_own (s1 := sX) (s2 := false) (L3 := Ld) kX.1.2 kY.2 (by rw [hLd, hd]) (by omega) (by omega) h1 h2
 have ku := fun (W : World) {p1 p2 : Option Addr} {q1 q2 : Nat} (h1 : Reads W (.slice p1 LY.length q1) LY) (h2 : Reads W (.slice p2 DX.length q2) DX) => common_own (s1 := sY) (s2 := false) (L3 := Lu) kY.1.2 kX.2 (by rw [hLu, hu]) (by omega) (by omega) h1 h2
 have kp := fun (W : World) {p1 p2 : Option Addr} {q1 q2 : Nat} (h1 : Reads W (.slice p1 LX.length q1) LX) (h2 : Reads W (.slice p2 Ld.length q2) Ld) => over_own (s2 := false) kX.1 hLd cp e1 d0 (by omega) (by omega) h1 h2
 have kq := fun (W : World) {p1 p2 : Option Addr} {q1 q2 : Nat} (h1 : Reads W (.slice p1 LY.length q1) LY) (h2 : Reads W (.slice p2 Lu.length q2) Lu) => over_own (s2 := false) kY.1 hLu cq e2 u0 (by omega) (by omega) h1 h2
 have km := fun (W : World) {p1 p2 : Option Addr} {q1 q2 : Nat} (h1 : Reads W (.slice p1 Lp.length q1) Lp) (h2 : Reads W (.slice p2 Lq.length q2) Lq) => q_mul_own cp.is cq.is kZ.1 e5 (by omega) (by omega) h1 h2
 have ka := fun (W : World) {p1 p2 : Option Addr} {q1 q2 : Nat} (h1 : Reads W (.slice p1 DX.length q1) DX) (h2 : Reads W (.slice p2 Lu.length q2) Lu) => over_own (s2 := false) (canL kX.2) hLu ca (by rw [e3]; push_cast; rfl) u0 (by omega) (by omega) h1 h2
 have kb := fun (W : World) {p1 p2 : Option Addr} {q1 q2 : Nat} (h1 : Reads W (.slice p1 DY.length q1) DY) (h2 : Reads W (.slice p2 Ld.length q2) Ld) => over_own (s2 := false) (canL kY.2) hLd cb (by rw [e4]; push_cast; rfl) d0 (by omega) (by omega) h1 h2
 have kn := fun (W : World) {p1 p2 : Option Addr} {q1 q2 : Nat} (h1 : Reads W (.slice p1 La.length q1) La) (h2 : Reads W (.slice p2 Lb.length q2) Lb) => q_mul_own ca.is cb.is (canL kZ.2) (by rw [e6]; push_cast; rfl) (by omega) (by omega) h1 h2
 have M : Mem w [(w.heap.size + 1 + 1, 44, [.bool false, .slice none 0 0, .slice none 0 0]), (w.heap.size + 1, 93, [.bool sY, .slice aY LY.length cY, .bool false, .slice oY DY.length rY]), (w.heap.size, 93, [.bool sX, .slice aX LX.length cX, .bool false, .slice oX DX.length rX])] [(.slice oY DY.length rY, DY), (.slice aY LY.length cY, LY), (.slice oX DX.length rX, DX), (.slice aX LX.length cX, LX)] (((w.alloc (.cells #[.bool sX, .slice aX LX.length cX, .bool false, .slice oX DX.length rX] 93)).alloc (.cells #[.bool sY, .slice aY LY.length cY, .bool false, .slice oY DY.length rY] 93)).alloc (.cells #[.bool false, .slice none 0 0, .slice none 0 0] 44)) := by
  have M := ((((((((Mem.start w).add g1).add g2).add g3).add g4).new 93 [.bool sX, .slice aX LX.length cX, .bool false, .slice oX DX.length rX]).new 93 [.bool sY, .slice aY LY.length cY, .bool false, .slice oY DY.length rY]).new 44 [.bool false, .slice none 0 0, .slice none 0 0])
  simpa only [World.size_alloc] using M
 have M := MemO.of (n := 4) M
 clear g1 g2 g3 g4 b1 b2 b3 b4 kX kY kZ eZ hd hu d0 u0 e1 e2 e3 e4 e5 e6 hLd hLu hLp hLq hLa hLb cp cq ca cb lp lq la lb ld lu
 go_enter Tryz.func105, Tryz.ntmps105
 go_wp2
 apply region_cut_nnss (Fact := (fun b5 b6 a1 c1 a2 c2 W => MemO 4 w [(b6, 42, [.bool false, .slice a2 Lu.length c2]), (b5, 42, [.bool false, .slice a1 Ld.length c1]), (w.heap.size + 1 + 1, 44, [.bool false, .slice none 0 0, .slice none 0 0]), (w.heap.size + 1, 93, [.bool sY, .slice aY LY.length cY, .bool false, .slice oY DY.length rY]), (w.heap.size, 93, [.bool sX, .slice aX LX.length cX, .bool false, .slice oX DX.length rX])] [(.slice a2 Lu.length c2, Lu), (.slice a1 Ld.length c1, Ld), (.slice oY DY.length rY, DY), (.slice aY LY.length cY, LY), (.slice oX DX.length rX, DX), (.slice aX LX.length cX, LX)] W))
 case first =>
  refine region_memO (S := (fun W => BoxN W (w.heap.size) 93 #[.bool sX, .slice aX LX.length cX, .bool false, .slice oX DX.length rX] ∧ BoxN W (w.heap.size + 1) 93 #[.bool sY, .slice aY LY.length cY, .bool false, .slice oY DY.length rY])) M (by kernel_rfl) ?_
  intro V0 M
  have hS0 : (fun W => BoxN W (w.heap.size) 93 #[.bool sX, .slice aX LX.length cX, .bool false, .slice oX DX.length rX] ∧ BoxN W (w.heap.size + 1) 93 #[.bool sY, .slice aY LY.length cY, .bool false, .slice oY DY.length rY]) V0 := ⟨M.box 2 rfl, M.box 1 rfl⟩
  refine wtk 0 (.pointer (some ⟨w.heap.size, 0, none⟩)) rfl (fun _ _ _ h => nomatch h.1) (Or.inl ⟨by rfl, fun W3 hS => by obtain ⟨hS1, hS2⟩ := hS; go_simp⟩) hS0 ?_
  refine wtk 1 (.agg #[.bool sX, .slice aX LX.length cX]) rfl (fun _ _ _ h => nomatch h.1) (Or.inl ⟨by rfl, fun W3 hS => by obtain ⟨hS1, hS2⟩ := hS; have c1_0 := hS1.cell 0 _ rfl; have c1_1 := hS1.cell 1 _ rfl; have c1_2 := hS1.cell 2 _ rfl; have c1_3 := hS1.cell 3 _ rfl; go_simp⟩) hS0 ?_
  refine wtk 2 (.pointer (some ⟨w.heap.size + 1, 2, none⟩)) rfl (fun _ _ _ h => nomatch h.1) (Or.inl ⟨by rfl, fun W3 hS => by obtain ⟨hS1, hS2⟩ := hS; go_simp⟩) hS0 ?_
  refine wtk 3 (.agg #[.bool false, .slice oY DY.length rY]) rfl (fun _ _ _ h => nomatch h.1) (Or.inl ⟨by rfl, fun W3 hS => by obtain ⟨hS1, hS2⟩ := hS; have c2_0 := hS2.cell 0 _ rfl; have c2_1 := hS2.cell 1 _ rfl; have c2_2 := hS2.cell 2 _ rfl; have c2_3 := hS2.cell 3 _ rfl; go_simp⟩) hS0 ?_
  refine wtk 5 (.pointer (some ⟨w.heap.size + 1, 0, none⟩)) rfl (fun _ _ _ h => nomatch h.1) (Or.inl ⟨by rfl, fun W3 hS => by obtain ⟨hS1, hS2⟩ := hS; go_simp⟩) hS0 ?_
  refine wtk 6 (.agg #[.bool sY, .slice aY LY.length cY]) rfl (fun _ _ _ h => nomatch h.1) (Or.inl ⟨by rfl, fun W3 hS => by obtain ⟨hS1, hS2⟩ := hS; have c2_0 := hS2.cell 0 _ rfl; have c2_1 := hS2.cell 1 _ rfl; have c2_2 := hS2.cell 2 _ rfl; have c2_3 := hS2.cell 3 _ rfl; go_simp⟩) hS0 ?_
  refine wtk 7 (.pointer (some ⟨w.heap.size, 2, none⟩)) rfl (fun _ _ _ h => nomatch h.1) (Or.inl ⟨by rfl, fun W3 hS => by obtain ⟨hS1, hS2⟩ := hS; go_simp⟩) hS0 ?_
  refine wtk 8 (.agg #[.bool false, .slice oX DX.length rX]) rfl (fun _ _ _ h => nomatch h.1) (Or.inl ⟨by rfl, fun W3 hS => by obtain ⟨hS1, hS2⟩ := hS; have c1_0 := hS1.cell 0 _ rfl; have c1_1 := hS1.cell 1 _ rfl; have c1_2 := hS1.cell 2 _ rfl; have c1_3 := hS1.cell 3 _ rfl; go_simp⟩) hS0 ?_
  clear hS0
  try simp only [Act.put, List.setIfInBounds_toArray, List.set_cons_zero, List.set_cons_succ]
  refine three_op 4 10 11 ?_ ?_ ?_
  · refine wpOp_intro rfl (fun K1 hK => ?_)
    go_simp
    refine (kd _ (M.get 3 rfl) (M.get 0 rfl)).mono ?_
    rintro e V1_4 ⟨a1, c1, rfl, g, rr⟩
    have M' := M.upadd rr g
    clear M rr g
    have M := M'; clear M'
    refine hK _ _ ⟨⟨M.box 2 rfl, M.box 1 rfl⟩, ?_⟩
    clear hK K1
    refine three_op 9 10 11 ?_ ?_ ?_
    · refine wpOp_intro rfl (fun K2 hK => ?_)
      go_simp
      refine (ku _ (M.get 2 rfl) (M.get 3 rfl)).mono ?_
      rintro e V2_9 ⟨a2, c2, rfl, g, rr⟩
      have M' := M.upadd rr g
      clear M rr g
      have M := M'; clear M'
      refine hK _ _ ⟨⟨M.box 2 rfl, M.box 1 rfl⟩, ?_⟩
      clear hK K2
      refine two_op 10 11 ?_ ?_
      · refine wpOp_intro rfl (fun K3 hK => ?_)
        go_simp
        obtain ⟨b5, V3_10, hV, hb, M'⟩ := M.fresh 42 [.bool false, .slice none 0 0]
        rw [← hV, ← hb]
        clear M hV hb; have M := M'; clear M'
        refine hK _ _ ⟨⟨M.box 3 rfl, M.box 2 rfl⟩, ?_⟩
        clear hK K3
        refine one_op 11 rfl (fun K4 hK => ?_)
        go_simp
        obtain ⟨b6, V4_11, hV, hb, M'⟩ := M.fresh 42 [.bool false, .slice none 0 0]
        rw [← hV, ← hb]
        clear M hV hb; have M := M'; clear M'
        refine hK _ _ ⟨⟨M.box 4 rfl, M.box 3 rfl⟩, ?_⟩
        clear hK K4
        have f1_0 := M.fr 1 rfl 0; have f1_1 := M.fr 1 rfl 1
        have z1_0 := M.cell 1 rfl 0 rfl; have z1_1 := M.cell 1 rfl 1 rfl
        refine one_op 12 rfl (fun Ks5 hK => ?_)
        go_simp
        have M' := ((M.put 1 rfl rfl 0 (.bool false)).put 1 rfl rfl 1 (.slice a1 Ld.length c1))
        clear M f1_0 z1_0 f1_1 z1_1
        simp only [List.set_cons_zero, List.set_cons_succ] at M'
        have M := M'
        clear M'
        refine hK _ _ ⟨⟨M.box 4 rfl, M.box 3 rfl⟩, ?_⟩
        clear hK Ks5
        have f0_0 := M.fr 0 rfl 0; have f0_1 := M.fr 0 rfl 1
        have z0_0 := M.cell 0 rfl 0 rfl; have z0_1 := M.cell 0 rfl 1 rfl
        refine one_op 13 rfl (fun Ks6 hK => ?_)
        go_simp
        have M' := ((M.put 0 rfl rfl 0 (.bool false)).put 0 rfl rfl 1 (.slice a2 Lu.length c2))
        clear M f0_0 z0_0 f0_1 z0_1
        simp only [List.set_cons_zero, List.set_cons_succ] at M'
        have M := M'
        clear M'
        refine hK _ _ ⟨⟨M.box 4 rfl, M.box 3 rfl⟩, ?_⟩
        clear hK Ks6
        refine wdn ?_
        exact ⟨rfl, b5, b6, a1, c1, a2, c2, rfl, M⟩
      · refine wpOp_intro rfl (fun K3 hK => ?_)
        go_simp
        obtain ⟨b6, V3_11, hV, hb, M'⟩ := M.fresh 42 [.bool false, .slice none 0 0]
        rw [← hV, ← hb]
        clear M hV hb; have M := M'; clear M'
        refine hK _ _ ⟨⟨M.box 3 rfl, M.box 2 rfl⟩, ?_⟩
        clear hK K3
        refine one_op 10 rfl (fun K7 hK => ?_)
        go_simp
        obtain ⟨b5, V7_10, hV, hb, M'⟩ := M.fresh 42 [.bool false, .slice none 0 0]
        rw [← hV, ← hb]
        clear M hV hb; have M := M'; clear M'
        refine hK _ _ ⟨⟨M.box 4 rfl, M.box 3 rfl⟩, ?_⟩
        clear hK K7
        have f0_0 := M.fr 0 rfl 0; have f0_1 := M.fr 0 rfl 1
        have z0_0 := M.cell 0 rfl 0 rfl; have z0_1 := M.cell 0 rfl 1 rfl
        refine one_op 12 rfl (fun Ks8 hK => ?_)
        go_simp
        have M' := ((M.put 0 rfl rfl 0 (.bool false)).put 0 rfl rfl 1 (.slice a1 Ld.length c1))
        clear M f0_0 z0_0 f0_1 z0_1
        simp only [List.set_cons_zero, List.set_cons_succ] at M'
        have M := M'
        clear M'
        refine hK _ _ ⟨⟨M.box 4 rfl, M.box 3 rfl⟩, ?_⟩
        clear hK Ks8
        have f1_0 := M.fr 1 rfl 0; have f1_1 := M.fr 1 rfl 1
        have z1_0 := M.cell 1 rfl 0 rfl; have z1_1 := M.cell 1 rfl 1 rfl
        refine one_op 13 rfl (fun Ks9 hK => ?_)
        go_simp
        have M' := ((M.put 1 rfl rfl 0 (.bool false)).put 1 rfl rfl 1 (.slice a2 Lu.length c2))
        clear M f1_0 z1_0 f1_1 z1_1
        simp only [List.set_cons_zero, List.set_cons_succ] at M'
        have M := M'
        clear M'
        refine hK _ _ ⟨⟨M.box 4 rfl, M.box 3 rfl⟩, ?_⟩
        clear hK Ks9
        refine wdn ?_
        have M' := M.swap; clear M; have M := M'; clear M'
        exact ⟨rfl, b5, b6, a1, c1, a2, c2, rfl, M⟩
    · refine wpOp_intro rfl (fun K2 hK => ?_)
      go_simp
      obtain ⟨b5, V2_10, hV, hb, M'⟩ := M.fresh 42 [.bool false, .slice none 0 0]
      rw [← hV, ← hb]
      clear M hV hb; have M := M'; clear M'
      refine hK _ _ ⟨⟨M.box 3 rfl, M.box 2 rfl⟩, ?_⟩
      clear hK K2
      refine two_op 9 11 ?_ ?_
      · refine wpOp_intro rfl (fun K10 hK => ?_)
        go_simp
        refine (ku _ (M.get 2 rfl) (M.get 3 rfl)).mono ?_
        rintro e V10_9 ⟨a2, c2, rfl, g, rr⟩
        have M' := M.upadd rr g
        clear M rr g
        have M := M'; clear M'
        refine hK _ _ ⟨⟨M.box 3 rfl, M.box 2 rfl⟩, ?_⟩
        clear hK K10
        refine one_op 11 rfl (fun K11 hK => ?_)
        go_simp
        obtain ⟨b6, V11_11, hV, hb, M'⟩ := M.fresh 42 [.bool false, .slice none 0 0]
        rw [← hV, ← hb]
        clear M hV hb; have M := M'; clear M'
        refine hK _ _ ⟨⟨M.box 4 rfl, M.box 3 rfl⟩, ?_⟩
        clear hK K11
        have f1_0 := M.fr 1 rfl 0; have f1_1 := M.fr 1 rfl 1
        have z1_0 := M.cell 1 rfl 0 rfl; have z1_1 := M.cell 1 rfl 1 rfl
        refine one_op 12 rfl (fun Ks12 hK => ?_)
        go_simp
        have M' := ((M.put 1 rfl rfl 0 (.bool false)).put 1 rfl rfl 1 (.slice a1 Ld.length c1))
        clear M f1_0 z1_0 f1_1 z1_1
        simp only [List.set_cons_zero, List.set_cons_succ] at M'
        have M := M'
        clear M'
        refine hK _ _ ⟨⟨M.box 4 rfl, M.box 3 rfl⟩, ?_⟩
        clear hK Ks12
        have f0_0 := M.fr 0 rfl 0; have f0_1 := M.fr 0 rfl 1
        have z0_0 := M.cell 0 rfl 0 rfl; have z0_1 := M.cell 0 rfl 1 rfl
        refine one_op 13 rfl (fun Ks13 hK => ?_)
        go_simp
        have M' := ((M.put 0 rfl rfl 0 (.bool false)).put 0 rfl rfl 1 (.slice a2 Lu.length c2))
        clear M f0_0 z0_0 f0_1 z0_1
        simp only [List.set_cons_zero, List.set_cons_succ] at M'
        have M := M'
        clear M'
        refine hK _ _ ⟨⟨M.box 4 rfl, M.box 3 rfl⟩, ?_⟩
        clear hK Ks13
        refine wdn ?_
        exact ⟨rfl, b5, b6, a1, c1, a2, c2, rfl, M⟩
      · refine wpOp_intro rfl (fun K10 hK => ?_)
        go_simp
        obtain ⟨b6, V10_11, hV, hb, M'⟩ := M.fresh 42 [.bool false, .slice none 0 0]
        rw [← hV, ← hb]
        clear M hV hb; have M := M'; clear M'
        refine hK _ _ ⟨⟨M.box 4 rfl, M.box 3 rfl⟩, ?_⟩
        clear hK K10
        refine one_op 9 rfl (fun K14 hK => ?_)
        go_simp
        refine (ku _ (M.get 2 rfl) (M.get 3 rfl)).mono ?_
        rintro e V14_9 ⟨a2, c2, rfl, g, rr⟩
        have M' := M.upadd rr g
        clear M rr g
        have M := M'; clear M'
        refine hK _ _ ⟨⟨M.box 4 rfl, M.box 3 rfl⟩, ?_⟩
        clear hK K14
        have f1_0 := M.fr 1 rfl 0; have f1_1 := M.fr 1 rfl 1
        have z1_0 := M.cell 1 rfl 0 rfl; have z1_1 := M.cell 1 rfl 1 rfl
        refine one_op 12 rfl (fun Ks15 hK => ?_)
        go_simp
        have M' := ((M.put 1 rfl rfl 0 (.bool false)).put 1 rfl rfl 1 (.slice a1 Ld.length c1))
        clear M f1_0 z1_0 f1_1 z1_1
        simp only [List.set_cons_zero, List.set_cons_succ] at M'
        have M := M'
        clear M'
        refine hK _ _ ⟨⟨M.box 4 rfl, M.box 3 rfl⟩, ?_⟩
        clear hK Ks15
        have f0_0 := M.fr 0 rfl 0; have f0_1 := M.fr 0 rfl 1
        have z0_0 := M.cell 0 rfl 0 rfl; have z0_1 := M.cell 0 rfl 1 rfl
        refine one_op 13 rfl (fun Ks16 hK => ?_)
        go_simp
        have M' := ((M.put 0 rfl rfl 0 (.bool false)).put 0 rfl rfl 1 (.slice a2 Lu.length c2))
        clear M f0_0 z0_0 f0_1 z0_1
        simp only [List.set_cons_zero, List.set_cons_succ] at M'
        have M := M'
        clear M'
        refine hK _ _ ⟨⟨M.box 4 rfl, M.box 3 rfl⟩, ?_⟩
        clear hK Ks16
        refine wdn ?_
        exact ⟨rfl, b5, b6, a1, c1, a2, c2, rfl, M⟩
    · refine wpOp_intro rfl (fun K2 hK => ?_)
      go_simp
      obtain ⟨b6, V2_11, hV, hb, M'⟩ := M.fresh 42 [.bool false, .slice none 0 0]
      rw [← hV, ← hb]
      clear M hV hb; have M := M'; clear M'
      refine hK _ _ ⟨⟨M.box 3 rfl, M.box 2 rfl⟩, ?_⟩
      clear hK K2
      refine two_op 9 10 ?_ ?_
      · refine wpOp_intro rfl (fun K17 hK => ?_)
        go_simp
        refine (ku _ (M.get 2 rfl) (M.get 3 rfl)).mono ?_
        rintro e V17_9 ⟨a2, c2, rfl, g, rr⟩
        have M' := M.upadd rr g
        clear M rr g
        have M := M'; clear M'
        refine hK _ _ ⟨⟨M.box 3 rfl, M.box 2 rfl⟩, ?_⟩
        clear hK K17
        refine one_op 10 rfl (fun K18 hK => ?_)
        go_simp
        obtain ⟨b5, V18_10, hV, hb, M'⟩ := M.fresh 42 [.bool false, .slice none 0 0]
        rw [← hV, ← hb]
        clear M hV hb; have M := M'; clear M'
        refine hK _ _ ⟨⟨M.box 4 rfl, M.box 3 rfl⟩, ?_⟩
        clear hK K18
        have f0_0 := M.fr 0 rfl 0; have f0_1 := M.fr 0 rfl 1
        have z0_0 := M.cell 0 rfl 0 rfl; have z0_1 := M.cell 0 rfl 1 rfl
        refine one_op 12 rfl (fun Ks19 hK => ?_)
        go_simp
        have M' := ((M.put 0 rfl rfl 0 (.bool false)).put 0 rfl rfl 1 (.slice a1 Ld.length c1))
        clear M f0_0 z0_0 f0_1 z0_1
        simp only [List.set_cons_zero, List.set_cons_succ] at M'
        have M := M'
        clear M'
        refine hK _ _ ⟨⟨M.box 4 rfl, M.box 3 rfl⟩, ?_⟩
        clear hK Ks19
        have f1_0 := M.fr 1 rfl 0; have f1_1 := M.fr 1 rfl 1
        have z1_0 := M.cell 1 rfl 0 rfl; have z1_1 := M.cell 1 rfl 1 rfl
        refine one_op 13 rfl (fun Ks20 hK => ?_)
        go_simp
        have M' := ((M.put 1 rfl rfl 0 (.bool false)).put 1 rfl rfl 1 (.slice a2 Lu.length c2))
        clear M f1_0 z1_0 f1_1 z1_1
        simp only [List.set_cons_zero, List.set_cons_succ] at M'
        have M := M'
        clear M'
        refine hK _ _ ⟨⟨M.box 4 rfl, M.box 3 rfl⟩, ?_⟩
        clear hK Ks20
        refine wdn ?_
        have M' := M.swap; clear M; have M := M'; clear M'
        exact ⟨rfl, b5, b6, a1, c1, a2, c2, rfl, M⟩
      · refine wpOp_intro rfl (fun K17 hK => ?_)
        go_simp
        obtain ⟨b5, V17_10, hV, hb, M'⟩ := M.fresh 42 [.bool false, .slice none 0 0]
        rw [← hV, ← hb]
        clear M hV hb; have M := M'; clear M'
        refine hK _ _ ⟨⟨M.box 4 rfl, M.box 3 rfl⟩, ?_⟩
        clear hK K17
        refine one_op 9 rfl (fun K21 hK => ?_)
        go_simp
        refine (ku _ (M.get 2 rfl) (M.get 3 rfl)).mono ?_
        rintro e V21_9 ⟨a2, c2, rfl, g, rr⟩
        have M' := M.upadd rr g
        clear M rr g
        have M := M'; clear M'
        refine hK _ _ ⟨⟨M.box 4 rfl, M.box 3 rfl⟩, ?_⟩
        clear hK K21
        have f0_0 := M.fr 0 rfl 0; have f0_1 := M.fr 0 rfl 1
        have z0_0 := M.cell 0 rfl 0 rfl; have z0_1 := M.cell 0 rfl 1 rfl
        refine one_op 12 rfl (fun Ks22 hK => ?_)
        go_simp
        have M' := ((M.put 0 rfl rfl 0 (.bool false)).put 0 rfl rfl 1 (.slice a1 Ld.length c1))
        clear M f0_0 z0_0 f0_1 z0_1
        simp only [List.set_cons_zero, List.set_cons_succ] at M'
        have M := M'
        clear M'
        refine hK _ _ ⟨⟨M.box 4 rfl, M.box 3 rfl⟩, ?_⟩
        clear hK Ks22
        have f1_0 := M.fr 1 rfl 0; have f1_1 := M.fr 1 rfl 1
        have z1_0 := M.cell 1 rfl 0 rfl; have z1_1 := M.cell 1 rfl 1 rfl
        refine one_op 13 rfl (fun Ks23 hK => ?_)
        go_simp
        have M' := ((M.put 1 rfl rfl 0 (.bool false)).put 1 rfl rfl 1 (.slice a2 Lu.length c2))
        clear M f1_0 z1_0 f1_1 z1_1
        simp only [List.set_cons_zero, List.set_cons_succ] at M'
        have M := M'
        clear M'
        refine hK _ _ ⟨⟨M.box 4 rfl, M.box 3 rfl⟩, ?_⟩
        clear hK Ks23
        refine wdn ?_
        have M' := M.swap; clear M; have M := M'; clear M'
        exact ⟨rfl, b5, b6, a1, c1, a2, c2, rfl, M⟩
  · refine wpOp_intro rfl (fun K1 hK => ?_)
    go_simp
    obtain ⟨b5, V1_10, hV, hb, M'⟩ := M.fresh 42 [.bool false, .slice none 0 0]
    rw [← hV, ← hb]
    clear M hV hb; have M := M'; clear M'
    refine hK _ _ ⟨⟨M.box 3 rfl, M.box 2 rfl⟩, ?_⟩
    clear hK K1
    refine two_op 4 11 ?_ ?_
    · refine wpOp_intro rfl (fun K24 hK => ?_)
      go_simp
      refine (kd _ (M.get 3 rfl) (M.get 0 rfl)).mono ?_
      rintro e V24_4 ⟨a1, c1, rfl, g, rr⟩
      have M' := M.upadd rr g
      clear M rr g
      have M := M'; clear M'
      refine hK _ _ ⟨⟨M.box 3 rfl, M.box 2 rfl⟩, ?_⟩
      clear hK K24
      refine two_op 9 11 ?_ ?_
      · refine wpOp_intro rfl (fun K25 hK => ?_)
        go_simp
        refine (ku _ (M.get 2 rfl) (M.get 3 rfl)).mono ?_
        rintro e V25_9 ⟨a2, c2, rfl, g, rr⟩
        have M' := M.upadd rr g
        clear M rr g
        have M := M'; clear M'
        refine hK _ _ ⟨⟨M.box 3 rfl, M.box 2 rfl⟩, ?_⟩
        clear hK K25
        refine one_op 11 rfl (fun K26 hK => ?_)
        go_simp
        obtain ⟨b6, V26_11, hV, hb, M'⟩ := M.fresh 42 [.bool false, .slice none 0 0]
        rw [← hV, ← hb]
        clear M hV hb; have M := M'; clear M'
        refine hK _ _ ⟨⟨M.box 4 rfl, M.box 3 rfl⟩, ?_⟩
        clear hK K26
        have f1_0 := M.fr 1 rfl 0; have f1_1 := M.fr 1 rfl 1
        have z1_0 := M.cell 1 rfl 0 rfl; have z1_1 := M.cell 1 rfl 1 rfl
        refine one_op 12 rfl (fun Ks27 hK => ?_)
        go_simp
        have M' := ((M.put 1 rfl rfl 0 (.bool false)).put 1 rfl rfl 1 (.slice a1 Ld.length c1))
        clear M f1_0 z1_0 f1_1 z1_1
        simp only [List.set_cons_zero, List.set_cons_succ] at M'
        have M := M'
        clear M'
        refine hK _ _ ⟨⟨M.box 4 rfl, M.box 3 rfl⟩, ?_⟩
        clear hK Ks27
        have f0_0 := M.fr 0 rfl 0; have f0_1 := M.fr 0 rfl 1
        have z0_0 := M.cell 0 rfl 0 rfl; have z0_1 := M.cell 0 rfl 1 rfl
        refine one_op 13 rfl (fun Ks28 hK => ?_)
        go_simp
        have M' := ((M.put 0 rfl rfl 0 (.bool false)).put 0 rfl rfl 1 (.slice a2 Lu.length c2))
        clear M f0_0 z0_0 f0_1 z0_1
        simp only [List.set_cons_zero, List.set_cons_succ] at M'
        have M := M'
        clear M'
        refine hK _ _ ⟨⟨M.box 4 rfl, M.box 3 rfl⟩, ?_⟩
        clear hK Ks28
        refine wdn ?_
        exact ⟨rfl, b5, b6, a1, c1, a2, c2, rfl, M⟩
      · refine wpOp_intro rfl (fun K25 hK => ?_)
        go_simp
        obtain ⟨b6, V25_11, hV, hb, M'⟩ := M.fresh 42 [.bool false, .slice none 0 0]
        rw [← hV, ← hb]
        clear M hV hb; have M := M'; clear M'
        refine hK _ _ ⟨⟨M.box 4 rfl, M.box 3 rfl⟩, ?_⟩
        clear hK K25
        refine one_op 9 rfl (fun K29 hK => ?_)
        go_simp
        refine (ku _ (M.get 2 rfl) (M.get 3 rfl)).mono ?_
        rintro e V29_9 ⟨a2, c2, rfl, g, rr⟩
        have M' := M.upadd rr g
        clear M rr g
        have M := M'; clear M'
        refine hK _ _ ⟨⟨M.box 4 rfl, M.box 3 rfl⟩, ?_⟩
        clear hK K29
        have f1_0 := M.fr 1 rfl 0; have f1_1 := M.fr 1 rfl 1
        have z1_0 := M.cell 1 rfl 0 rfl; have z1_1 := M.cell 1 rfl 1 rfl
        refine one_op 12 rfl (fun Ks30 hK => ?_)
        go_simp
        have M' := ((M.put 1 rfl rfl 0 (.bool false)).put 1 rfl rfl 1 (.slice a1 Ld.length c1))
        clear M f1_0 z1_0 f1_1 z1_1
        simp only [List.set_cons_zero, List.set_cons_succ] at M'
        have M := M'
        clear M'
        refine hK _ _ ⟨⟨M.box 4 rfl, M.box 3 rfl⟩, ?_⟩
        clear hK Ks30
        have f0_0 := M.fr 0 rfl 0; have f0_1 := M.fr 0 rfl 1
        have z0_0 := M.cell 0 rfl 0 rfl; have z0_1 := M.cell 0 rfl 1 rfl
        refine one_op 13 rfl (fun Ks31 hK => ?_)
        go_simp
        have M' := ((M.put 0 rfl rfl 0 (.bool false)).put 0 rfl rfl 1 (.slice a2 Lu.length c2))
        clear M f0_0 z0_0 f0_1 z0_1
        simp only [List.set_cons_zero, List.set_cons_succ] at M'
        have M := M'
        clear M'
        refine hK _ _ ⟨⟨M.box 4 rfl, M.box 3 rfl⟩, ?_⟩
        clear hK Ks31
        refine wdn ?_
        exact ⟨rfl, b5, b6, a1, c1, a2, c2, rfl, M⟩
    · refine wpOp_intro rfl (fun K24 hK => ?_)
      go_simp
      obtain ⟨b6, V24_11, hV, hb, M'⟩ := M.fresh 42 [.bool false, .slice none 0 0]
      rw [← hV, ← hb]
      clear M hV hb; have M := M'; clear M'
      refine hK _ _ ⟨⟨M.box 4 rfl, M.box 3 rfl⟩, ?_⟩
      clear hK K24
      refine one_op 4 rfl (fun K32 hK => ?_)
      go_simp
      refine (kd _ (M.get 3 rfl) (M.get 0 rfl)).mono ?_
      rintro e V32_4 ⟨a1, c1, rfl, g, rr⟩
      have M' := M.upadd rr g
      clear M rr g
      have M := M'; clear M'
      refine hK _ _ ⟨⟨M.box 4 rfl, M.box 3 rfl⟩, ?_⟩
      clear hK K32
      refine one_op 9 rfl (fun K33 hK => ?_)
      go_simp
      refine (ku _ (M.get 2 rfl) (M.get 3 rfl)).mono ?_
      rintro e V33_9 ⟨a2, c2, rfl, g, rr⟩
      have M' := M.upadd rr g
      clear M rr g
      have M := M'; clear M'
      refine hK _ _ ⟨⟨M.box 4 rfl, M.box 3 rfl⟩, ?_⟩
      clear hK K33
      have f1_0 := M.fr 1 rfl 0; have f1_1 := M.fr 1 rfl 1
      have z1_0 := M.cell 1 rfl 0 rfl; have z1_1 := M.cell 1 rfl 1 rfl
      refine one_op 12 rfl (fun Ks34 hK => ?_)
      go_simp
      have M' := ((M.put 1 rfl rfl 0 (.bool false)).put 1 rfl rfl 1 (.slice a1 Ld.length c1))
      clear M f1_0 z1_0 f1_1 z1_1
      simp only [List.set_cons_zero, List.set_cons_succ] at M'
      have M := M'
      clear M'
      refine hK _ _ ⟨⟨M.box 4 rfl, M.box 3 rfl⟩, ?_⟩
      clear hK Ks34
      have f0_0 := M.fr 0 rfl 0; have f0_1 := M.fr 0 rfl 1
      have z0_0 := M.cell 0 rfl 0 rfl; have z0_1 := M.cell 0 rfl 1 rfl
      refine one_op 13 rfl (fun Ks35 hK => ?_)
      go_simp
      have M' := ((M.put 0 rfl rfl 0 (.bool false)).put 0 rfl rfl 1 (.slice a2 Lu.length c2))
      clear M f0_0 z0_0 f0_1 z0_1
      simp only [List.set_cons_zero, List.set_cons_succ] at M'
      have M := M'
      clear M'
      refine hK _ _ ⟨⟨M.box 4 rfl, M.box 3 rfl⟩, ?_⟩
      clear hK Ks35
      refine wdn ?_
      exact ⟨rfl, b5, b6, a1, c1, a2, c2, rfl, M⟩
  · refine wpOp_intro rfl (fun K1 hK => ?_)
    go_simp
    obtain ⟨b6, V1_11, hV, hb, M'⟩ := M.fresh 42 [.bool false, .slice none 0 0]
    rw [← hV, ← hb]
    clear M hV hb; have M := M'; clear M'
    refine hK _ _ ⟨⟨M.box 3 rfl, M.box 2 rfl⟩, ?_⟩
    clear hK K1
    refine two_op 4 10 ?_ ?_
    · refine wpOp_intro rfl (fun K36 hK => ?_)
      go_simp
      refine (kd _ (M.get 3 rfl) (M.get 0 rfl)).mono ?_
      rintro e V36_4 ⟨a1, c1, rfl, g, rr⟩
      have M' := M.upadd rr g
      clear M rr g
      have M := M'; clear M'
      refine hK _ _ ⟨⟨M.box 3 rfl, M.box 2 rfl⟩, ?_⟩
      clear hK K36
      refine two_op 9 10 ?_ ?_
      · refine wpOp_intro rfl (fun K37 hK => ?_)
        go_simp
        refine (ku _ (M.get 2 rfl) (M.get 3 rfl)).mono ?_
        rintro e V37_9 ⟨a2, c2, rfl, g, rr⟩
        have M' := M.upadd rr g
        clear M rr g
        have M := M'; clear M'
        refine hK _ _ ⟨⟨M.box 3 rfl, M.box 2 rfl⟩, ?_⟩
        clear hK K37
        refine one_op 10 rfl (fun K38 hK => ?_)
        go_simp
        obtain ⟨b5, V38_10, hV, hb, M'⟩ := M.fresh 42 [.bool false, .slice none 0 0]
        rw [← hV, ← hb]
        clear M hV hb; have M := M'; clear M'
        refine hK _ _ ⟨⟨M.box 4 rfl, M.box 3 rfl⟩, ?_⟩
        clear hK K38
        have f0_0 := M.fr 0 rfl 0; have f0_1 := M.fr 0 rfl 1
        have z0_0 := M.cell 0 rfl 0 rfl; have z0_1 := M.cell 0 rfl 1 rfl
        refine one_op 12 rfl (fun Ks39 hK => ?_)
        go_simp
        have M' := ((M.put 0 rfl rfl 0 (.bool false)).put 0 rfl rfl 1 (.slice a1 Ld.length c1))
        clear M f0_0 z0_0 f0_1 z0_1
        simp only [List.set_cons_zero, List.set_cons_succ] at M'
        have M := M'
        clear M'
        refine hK _ _ ⟨⟨M.box 4 rfl, M.box 3 rfl⟩, ?_⟩
        clear hK Ks39
        have f1_0 := M.fr 1 rfl 0; have f1_1 := M.fr 1 rfl 1
        have z1_0 := M.cell 1 rfl 0 rfl; have z1_1 := M.cell 1 rfl 1 rfl
        refine one_op 13 rfl (fun Ks40 hK => ?_)
        go_simp
        have M' := ((M.put 1 rfl rfl 0 (.bool false)).put 1 rfl rfl 1 (.slice a2 Lu.length c2))
        clear M f1_0 z1_0 f1_1 z1_1
        simp only [List.set_cons_zero, List.set_cons_succ] at M'
        have M := M'
        clear M'
        refine hK _ _ ⟨⟨M.box 4 rfl, M.box 3 rfl⟩, ?_⟩
        clear hK Ks40
        refine wdn ?_
        have M' := M.swap; clear M; have M := M'; clear M'
        exact ⟨rfl, b5, b6, a1, c1, a2, c2, rfl, M⟩
      · refine wpOp_intro rfl (fun K37 hK => ?_)
        go_simp
        obtain ⟨b5, V37_10, hV, hb, M'⟩ := M.fresh 42 [.bool false, .slice none 0 0]
        rw [← hV, ← hb]
        clear M hV hb; have M := M'; clear M'
        refine hK _ _ ⟨⟨M.box 4 rfl, M.box 3 rfl⟩, ?_⟩
        clear hK K37
        refine one_op 9 rfl (fun K41 hK => ?_)
        go_simp
        refine (ku _ (M.get 2 rfl) (M.get 3 rfl)).mono ?_
        rintro e V41_9 ⟨a2, c2, rfl, g, rr⟩
        have M' := M.upadd rr g
        clear M rr g
        have M := M'; clear M'
        refine hK _ _ ⟨⟨M.box 4 rfl, M.box 3 rfl⟩, ?_⟩
        clear hK K41
        have f0_0 := M.fr 0 rfl 0; have f0_1 := M.fr 0 rfl 1
        have z0_0 := M.cell 0 rfl 0 rfl; have z0_1 := M.cell 0 rfl 1 rfl
        refine one_op 12 rfl (fun Ks42 hK => ?_)
        go_simp
        have M' := ((M.put 0 rfl rfl 0 (.bool false)).put 0 rfl rfl 1 (.slice a1 Ld.length c1))
        clear M f0_0 z0_0 f0_1 z0_1
        simp only [List.set_cons_zero, List.set_cons_succ] at M'
        have M := M'
        clear M'
        refine hK _ _ ⟨⟨M.box 4 rfl, M.box 3 rfl⟩, ?_⟩
        clear hK Ks42
        have f1_0 := M.fr 1 rfl 0; have f1_1 := M.fr 1 rfl 1
        have z1_0 := M.cell 1 rfl 0 rfl; have z1_1 := M.cell 1 rfl 1 rfl
        refine one_op 13 rfl (fun Ks43 hK => ?_)
        go_simp
        have M' := ((M.put 1 rfl rfl 0 (.bool false)).put 1 rfl rfl 1 (.slice a2 Lu.length c2))
        clear M f1_0 z1_0 f1_1 z1_1
        simp only [List.set_cons_zero, List.set_cons_succ] at M'
        have M := M'
        clear M'
        refine hK _ _ ⟨⟨M.box 4 rfl, M.box 3 rfl⟩, ?_⟩
        clear hK Ks43
        refine wdn ?_
        have M' := M.swap; clear M; have M := M'; clear M'
        exact ⟨rfl, b5, b6, a1, c1, a2, c2, rfl, M⟩
    · refine wpOp_intro rfl (fun K36 hK => ?_)
      go_simp
      obtain ⟨b5, V36_10, hV, hb, M'⟩ := M.fresh 42 [.bool false, .slice none 0 0]
      rw [← hV, ← hb]
      clear M hV hb; have M := M'; clear M'
      refine hK _ _ ⟨⟨M.box 4 rfl, M.box 3 rfl⟩, ?_⟩
      clear hK K36
      refine one_op 4 rfl (fun K44 hK => ?_)
      go_simp
      refine (kd _ (M.get 3 rfl) (M.get 0 rfl)).mono ?_
      rintro e V44_4 ⟨a1, c1, rfl, g, rr⟩
      have M' := M.upadd rr g
      clear M rr g
      have M := M'; clear M'
      refine hK _ _ ⟨⟨M.box 4 rfl, M.box 3 rfl⟩, ?_⟩
      clear hK K44
      refine one_op 9 rfl (fun K45 hK => ?_)
      go_simp
      refine (ku _ (M.get 2 rfl) (M.get 3 rfl)).mono ?_
      rintro e V45_9 ⟨a2, c2, rfl, g, rr⟩
      have M' := M.upadd rr g
      clear M rr g
      have M := M'; clear M'
      refine hK _ _ ⟨⟨M.box 4 rfl, M.box 3 rfl⟩, ?_⟩
      clear hK K45
      have f0_0 := M.fr 0 rfl 0; have f0_1 := M.fr 0 rfl 1
      have z0_0 := M.cell 0 rfl 0 rfl; have z0_1 := M.cell 0 rfl 1 rfl
      refine one_op 12 rfl (fun Ks46 hK => ?_)
      go_simp
      have M' := ((M.put 0 rfl rfl 0 (.bool false)).put 0 rfl rfl 1 (.slice a1 Ld.length c1))
      clear M f0_0 z0_0 f0_1 z0_1
      simp only [List.set_cons_zero, List.set_cons_succ] at M'
      have M := M'
      clear M'
      refine hK _ _ ⟨⟨M.box 4 rfl, M.box 3 rfl⟩, ?_⟩
      clear hK Ks46
      have f1_0 := M.fr 1 rfl 0; have f1_1 := M.fr 1 rfl 1
      have z1_0 := M.cell 1 rfl 0 rfl; have z1_1 := M.cell 1 rfl 1 rfl
      refine one_op 13 rfl (fun Ks47 hK => ?_)
      go_simp
      have M' := ((M.put 1 rfl rfl 0 (.bool false)).put 1 rfl rfl 1 (.slice a2 Lu.length c2))
      clear M f1_0 z1_0 f1_1 z1_1
      simp only [List.set_cons_zero, List.set_cons_succ] at M'
      have M := M'
      clear M'
      refine hK _ _ ⟨⟨M.box 4 rfl, M.box 3 rfl⟩, ?_⟩
      clear hK Ks47
      refine wdn ?_
      have M' := M.swap; clear M; have M := M'; clear M'
      exact ⟨rfl, b5, b6, a1, c1, a2, c2, rfl, M⟩
 intro b5 b6 a1 c1 a2 c2 V M
 go_wp2
 apply region_cut_nsss (Fact := (fun b7 a3 c3 a4 c4 a5 c5 W => MemO 4 w [(b7, 42, [.bool sZ, .slice a5 LZ.length c5]), (b6, 42, [.bool false, .slice a2 Lu.length c2]), (b5, 42, [.bool false, .slice a1 Ld.length c1]), (w.heap.size + 1 + 1, 44, [.bool false, .slice none 0 0, .slice none 0 0]), (w.heap.size + 1, 93, [.bool sY, .slice aY LY.length cY, .bool false, .slice oY DY.length rY]), (w.heap.size, 93, [.bool sX, .slice aX LX.length cX, .bool false, .slice oX DX.length rX])] [(.slice a5 LZ.length c5, LZ), (.slice a4 Lq.length c4, Lq), (.slice a3 Lp.length c3, Lp), (.slice a2 Lu.length c2, Lu), (.slice a1 Ld.length c1, Ld), (.slice oY DY.length rY, DY), (.slice aY LY.length cY, LY), (.slice oX DX.length rX, DX), (.slice aX LX.length cX, LX)] W))
 case first =>
  refine region_memO (S := (fun W => BoxN W (w.heap.size) 93 #[.bool sX, .slice aX LX.length cX, .bool false, .slice oX DX.length rX] ∧ BoxN W (w.heap.size + 1) 93 #[.bool sY, .slice aY LY.length cY, .bool false, .slice oY DY.length rY] ∧ BoxN W (b5) 42 #[.bool false, .slice a1 Ld.length c1] ∧ BoxN W (b6) 42 #[.bool false, .slice a2 Lu.length c2])) M (by kernel_rfl) ?_
  intro V0 M
  have hS0 : (fun W => BoxN W (w.heap.size) 93 #[.bool sX, .slice aX LX.length cX, .bool false, .slice oX DX.length rX] ∧ BoxN W (w.heap.size + 1) 93 #[.bool sY, .slice aY LY.length cY, .bool false, .slice oY DY.length rY] ∧ BoxN W (b5) 42 #[.bool false, .slice a1 Ld.length c1] ∧ BoxN W (b6) 42 #[.bool false, .slice a2 Lu.length c2]) V0 := ⟨M.box 4 rfl, M.box 3 rfl, M.box 1 rfl, M.box 0 rfl⟩
  refine wtk 0 (.pointer (some ⟨w.heap.size, 0, none⟩)) rfl (fun _ _ _ h => nomatch h.1) (Or.inl ⟨by rfl, fun W3 hS => by obtain ⟨hS1, hS2, hS3, hS4⟩ := hS; go_simp⟩) hS0 ?_
  refine wtk 1 (.agg #[.bool sX, .slice aX LX.length cX]) rfl (fun _ _ _ h => nomatch h.1) (Or.inl ⟨by rfl, fun W3 hS => by obtain ⟨hS1, hS2, hS3, hS4⟩ := hS; have c1_0 := hS1.cell 0 _ rfl; have c1_1 := hS1.cell 1 _ rfl; have c1_2 := hS1.cell 2 _ rfl; have c1_3 := hS1.cell 3 _ rfl; go_simp⟩) hS0 ?_
  refine wtk 2 (.agg #[.bool false, .slice a1 Ld.length c1]) rfl (fun _ _ _ h => nomatch h.1) (Or.inl ⟨by rfl, fun W3 hS => by obtain ⟨hS1, hS2, hS3, hS4⟩ := hS; have c3_0 := hS3.cell 0 _ rfl; have c3_1 := hS3.cell 1 _ rfl; go_simp⟩) hS0 ?_
  refine wtk 4 (.pointer (some ⟨w.heap.size + 1, 0, none⟩)) rfl (fun _ _ _ h => nomatch h.1) (Or.inl ⟨by rfl, fun W3 hS => by obtain ⟨hS1, hS2, hS3, hS4⟩ := hS; go_simp⟩) hS0 ?_
  refine wtk 5 (.agg #[.bool sY, .slice aY LY.length cY]) rfl (fun _ _ _ h => nomatch h.1) (Or.inl ⟨by rfl, fun W3 hS => by obtain ⟨hS1, hS2, hS3, hS4⟩ := hS; have c2_0 := hS2.cell 0 _ rfl; have c2_1 := hS2.cell 1 _ rfl; have c2_2 := hS2.cell 2 _ rfl; have c2_3 := hS2.cell 3 _ rfl; go_simp⟩) hS0 ?_
  refine wtk 6 (.agg #[.bool false, .slice a2 Lu.length c2]) rfl (fun _ _ _ h => nomatch h.1) (Or.inl ⟨by rfl, fun W3 hS => by obtain ⟨hS1, hS2, hS3, hS4⟩ := hS; have c4_0 := hS4.cell 0 _ rfl; have c4_1 := hS4.cell 1 _ rfl; go_simp⟩) hS0 ?_
  clear hS0
  try simp only [Act.put, List.setIfInBounds_toArray, List.set_cons_zero, List.set_cons_succ]
  refine two_op 3 9 ?_ ?_
  · refine wpOp_intro rfl (fun K1 hK => ?_)
    go_simp
    refine (kp _ (M.get 5 rfl) (M.get 1 rfl)).mono ?_
    rintro e V1_3 ⟨a3, c3, rfl, g, rr⟩
    have M' := M.upadd rr g
    clear M rr g
    have M := M'; clear M'
    refine hK _ _ ⟨⟨M.box 4 rfl, M.box 3 rfl, M.box 1 rfl, M.box 0 rfl⟩, ?_⟩
    clear hK K1
    refine two_op 7 9 ?_ ?_
    · refine wpOp_intro rfl (fun K2 hK => ?_)
      go_simp
      refine (kq _ (M.get 4 rfl) (M.get 1 rfl)).mono ?_
      rintro e V2_7 ⟨a4, c4, rfl, g, rr⟩
      have M' := M.upadd rr g
      clear M rr g
      have M := M'; clear M'
      refine hK _ _ ⟨⟨M.box 4 rfl, M.box 3 rfl, M.box 1 rfl, M.box 0 rfl⟩, ?_⟩
      clear hK K2
      refine two_op 8 9 ?_ ?_
      · refine wpOp_intro rfl (fun K3 hK => ?_)
        go_simp
        refine (km _ (M.get 1 rfl) (M.get 0 rfl)).mono ?_
        rintro e V3_8 ⟨a5, c5, rfl, g, rr⟩
        have M' := M.upadd rr g
        clear M rr g
        have M := M'; clear M'
        refine hK _ _ ⟨⟨M.box 4 rfl, M.box 3 rfl, M.box 1 rfl, M.box 0 rfl⟩, ?_⟩
        clear hK K3
        refine one_op 9 rfl (fun K4 hK => ?_)
        go_simp
        obtain ⟨b7, V4_9, hV, hb, M'⟩ := M.fresh 42 [.bool false, .slice none 0 0]
        rw [← hV, ← hb]
        clear M hV hb; have M := M'; clear M'
        refine hK _ _ ⟨⟨M.box 5 rfl, M.box 4 rfl, M.box 2 rfl, M.box 1 rfl⟩, ?_⟩
        clear hK K4
        have f0_0 := M.fr 0 rfl 0; have f0_1 := M.fr 0 rfl 1
        have z0_0 := M.cell 0 rfl 0 rfl; have z0_1 := M.cell 0 rfl 1 rfl
        refine one_op 10 rfl (fun Ks5 hK => ?_)
        go_simp
        have M' := ((M.put 0 rfl rfl 0 (.bool sZ)).put 0 rfl rfl 1 (.slice a5 LZ.length c5))
        clear M f0_0 z0_0 f0_1 z0_1
        simp only [List.set_cons_zero, List.set_cons_succ] at M'
        have M := M'
        clear M'
        refine hK _ _ ⟨⟨M.box 5 rfl, M.box 4 rfl, M.box 2 rfl, M.box 1 rfl⟩, ?_⟩
        clear hK Ks5
        refine wdn ?_
        exact ⟨rfl, b7, a3, c3, a4, c4, a5, c5, rfl, M⟩
      · refine wpOp_intro rfl (fun K3 hK => ?_)
        go_simp
        obtain ⟨b7, V3_9, hV, hb, M'⟩ := M.fresh 42 [.bool false, .slice none 0 0]
        rw [← hV, ← hb]
        clear M hV hb; have M := M'; clear M'
        refine hK _ _ ⟨⟨M.box 5 rfl, M.box 4 rfl, M.box 2 rfl, M.box 1 rfl⟩, ?_⟩
        clear hK K3
        refine one_op 8 rfl (fun K6 hK => ?_)
        go_simp
        refine (km _ (M.get 1 rfl) (M.get 0 rfl)).mono ?_
        rintro e V6_8 ⟨a5, c5, rfl, g, rr⟩
        have M' := M.upadd rr g
        clear M rr g
        have M := M'; clear M'
        refine hK _ _ ⟨⟨M.box 5 rfl, M.box 4 rfl, M.box 2 rfl, M.box 1 rfl⟩, ?_⟩
        clear hK K6
        have f0_0 := M.fr 0 rfl 0; have f0_1 := M.fr 0 rfl 1
        have z0_0 := M.cell 0 rfl 0 rfl; have z0_1 := M.cell 0 rfl 1 rfl
        refine one_op 10 rfl (fun Ks7 hK => ?_)
        go_simp
        have M' := ((M.put 0 rfl rfl 0 (.bool sZ)).put 0 rfl rfl 1 (.slice a5 LZ.length c5))
        clear M f0_0 z0_0 f0_1 z0_1
        simp only [List.set_cons_zero, List.set_cons_succ] at M'
        have M := M'
        clear M'
        refine hK _ _ ⟨⟨M.box 5 rfl, M.box 4 rfl, M.box 2 rfl, M.box 1 rfl⟩, ?_⟩
        clear hK Ks7
        refine wdn ?_
        exact ⟨rfl, b7, a3, c3, a4, c4, a5, c5, rfl, M⟩
    · refine wpOp_intro rfl (fun K2 hK => ?_)
      go_simp
      obtain ⟨b7, V2_9, hV, hb, M'⟩ := M.fresh 42 [.bool false, .slice none 0 0]
      rw [← hV, ← hb]
      clear M hV hb; have M := M'; clear M'
      refine hK _ _ ⟨⟨M.box 5 rfl, M.box 4 rfl, M.box 2 rfl, M.box 1 rfl⟩, ?_⟩
      clear hK K2
      refine one_op 7 rfl (fun K8 hK => ?_)
      go_simp
      refine (kq _ (M.get 4 rfl) (M.get 1 rfl)).mono ?_
      rintro e V8_7 ⟨a4, c4, rfl, g, rr⟩
      have M' := M.upadd rr g
      clear M rr g
      have M := M'; clear M'
      refine hK _ _ ⟨⟨M.box 5 rfl, M.box 4 rfl, M.box 2 rfl, M.box 1 rfl⟩, ?_⟩
      clear hK K8
      refine one_op 8 rfl (fun K9 hK => ?_)
      go_simp
      refine (km _ (M.get 1 rfl) (M.get 0 rfl)).mono ?_
      rintro e V9_8 ⟨a5, c5, rfl, g, rr⟩
      have M' := M.upadd rr g
      clear M rr g
      have M := M'; clear M'
      refine hK _ _ ⟨⟨M.box 5 rfl, M.box 4 rfl, M.box 2 rfl, M.box 1 rfl⟩, ?_⟩
      clear hK K9
      have f0_0 := M.fr 0 rfl 0; have f0_1 := M.fr 0 rfl 1
      have z0_0 := M.cell 0 rfl 0 rfl; have z0_1 := M.cell 0 rfl 1 rfl
      refine one_op 10 rfl (fun Ks10 hK => ?_)
      go_simp
      have M' := ((M.put 0 rfl rfl 0 (.bool sZ)).put 0 rfl rfl 1 (.slice a5 LZ.length c5))
      clear M f0_0 z0_0 f0_1 z0_1
      simp only [List.set_cons_zero, List.set_cons_succ] at M'
      have M := M'
      clear M'
      refine hK _ _ ⟨⟨M.box 5 rfl, M.box 4 rfl, M.box 2 rfl, M.box 1 rfl⟩, ?_⟩
      clear hK Ks10
      refine wdn ?_
      exact ⟨rfl, b7, a3, c3, a4, c4, a5, c5, rfl, M⟩
  · refine wpOp_intro rfl (fun K1 hK => ?_)
    go_simp
    obtain ⟨b7, V1_9, hV, hb, M'⟩ := M.fresh 42 [.bool false, .slice none 0 0]
    rw [← hV, ← hb]
    clear M hV hb; have M := M'; clear M'
    refine hK _ _ ⟨⟨M.box 5 rfl, M.box 4 rfl, M.box 2 rfl, M.box 1 rfl⟩, ?_⟩
    clear hK K1
    refine one_op 3 rfl (fun K11 hK => ?_)
    go_simp
    refine (kp _ (M.get 5 rfl) (M.get 1 rfl)).mono ?_
    rintro e V11_3 ⟨a3, c3, rfl, g, rr⟩
    have M' := M.upadd rr g
    clear M rr g
    have M := M'; clear M'
    refine hK _ _ ⟨⟨M.box 5 rfl, M.box 4 rfl, M.box 2 rfl, M.box 1 rfl⟩, ?_⟩
    clear hK K11
    refine one_op 7 rfl (fun K12 hK => ?_)
    go_simp
    refine (kq _ (M.get 4 rfl) (M.get 1 rfl)).mono ?_
    rintro e V12_7 ⟨a4, c4, rfl, g, rr⟩
    have M' := M.upadd rr g
    clear M rr g
    have M := M'; clear M'
    refine hK _ _ ⟨⟨M.box 5 rfl, M.box 4 rfl, M.box 2 rfl, M.box 1 rfl⟩, ?_⟩
    clear hK K12
    refine one_op 8 rfl (fun K13 hK => ?_)
    go_simp
    refine (km _ (M.get 1 rfl) (M.get 0 rfl)).mono ?_
    rintro e V13_8 ⟨a5, c5, rfl, g, rr⟩
    have M' := M.upadd rr g
    clear M rr g
    have M := M'; clear M'
    refine hK _ _ ⟨⟨M.box 5 rfl, M.box 4 rfl, M.box 2 rfl, M.box 1 rfl⟩, ?_⟩
    clear hK K13
    have f0_0 := M.fr 0 rfl 0; have f0_1 := M.fr 0 rfl 1
    have z0_0 := M.cell 0 rfl 0 rfl; have z0_1 := M.cell 0 rfl 1 rfl
    refine one_op 10 rfl (fun Ks14 hK => ?_)
    go_simp
    have M' := ((M.put 0 rfl rfl 0 (.bool sZ)).put 0 rfl rfl 1 (.slice a5 LZ.length c5))
    clear M f0_0 z0_0 f0_1 z0_1
    simp only [List.set_cons_zero, List.set_cons_succ] at M'
    have M := M'
    clear M'
    refine hK _ _ ⟨⟨M.box 5 rfl, M.box 4 rfl, M.box 2 rfl, M.box 1 rfl⟩, ?_⟩
    clear hK Ks14
    refine wdn ?_
    exact ⟨rfl, b7, a3, c3, a4, c4, a5, c5, rfl, M⟩
 intro b7 a3 c3 a4 c4 a5 c5 V M
 go_wp2
 apply region_cut_nsss (Fact := (fun b8 a6 c6 a7 c7 a8 c8 W => MemO 4 w [(b8, 42, [.bool false, .slice a8 DZ.length c8]), (b7, 42, [.bool sZ, .slice a5 LZ.length c5]), (b6, 42, [.bool false, .slice a2 Lu.length c2]), (b5, 42, [.bool false, .slice a1 Ld.length c1]), (w.heap.size + 1 + 1, 44, [.bool false, .slice none 0 0, .slice none 0 0]), (w.heap.size + 1, 93, [.bool sY, .slice aY LY.length cY, .bool false, .slice oY DY.length rY]), (w.heap.size, 93, [.bool sX, .slice aX LX.length cX, .bool false, .slice oX DX.length rX])] [(.slice a8 DZ.length c8, DZ), (.slice a7 Lb.length c7, Lb), (.slice a6 La.length c6, La), (.slice a5 LZ.length c5, LZ), (.slice a4 Lq.length c4, Lq), (.slice a3 Lp.length c3, Lp), (.slice a2 Lu.length c2, Lu), (.slice a1 Ld.length c1, Ld), (.slice oY DY.length rY, DY), (.slice aY LY.length cY, LY), (.slice oX DX.length rX, DX), (.slice aX LX.length cX, LX)] W))
 case first =>
  refine region_memO (S := (fun W => BoxN W (w.heap.size) 93 #[.bool sX, .slice aX LX.length cX, .bool false, .slice oX DX.length rX] ∧ BoxN W (w.heap.size + 1) 93 #[.bool sY, .slice aY LY.length cY, .bool false, .slice oY DY.length rY] ∧ BoxN W (b5) 42 #[.bool false, .slice a1 Ld.length c1] ∧ BoxN W (b6) 42 #[.bool false, .slice a2 Lu.length c2])) M (by kernel_rfl) ?_
  intro V0 M
  have hS0 : (fun W => BoxN W (w.heap.size) 93 #[.bool sX, .slice aX LX.length cX, .bool false, .slice oX DX.length rX] ∧ BoxN W (w.heap.size + 1) 93 #[.bool sY, .slice aY LY.length cY, .bool false, .slice oY DY.length rY] ∧ BoxN W (b5) 42 #[.bool false, .slice a1 Ld.length c1] ∧ BoxN W (b6) 42 #[.bool false, .slice a2 Lu.length c2]) V0 := ⟨M.box 5 rfl, M.box 4 rfl, M.box 2 rfl, M.box 1 rfl⟩
  refine wtk 0 (.pointer (some ⟨w.heap.size, 2, none⟩)) rfl (fun _ _ _ h => nomatch h.1) (Or.inl ⟨by rfl, fun W3 hS => by obtain ⟨hS1, hS2, hS3, hS4⟩ := hS; go_simp⟩) hS0 ?_
  refine wtk 1 (.agg #[.bool false, .slice oX DX.length rX]) rfl (fun _ _ _ h => nomatch h.1) (Or.inl ⟨by rfl, fun W3 hS => by obtain ⟨hS1, hS2, hS3, hS4⟩ := hS; have c1_0 := hS1.cell 0 _ rfl; have c1_1 := hS1.cell 1 _ rfl; have c1_2 := hS1.cell 2 _ rfl; have c1_3 := hS1.cell 3 _ rfl; go_simp⟩) hS0 ?_
  refine wtk 2 (.agg #[.bool false, .slice a2 Lu.length c2]) rfl (fun _ _ _ h => nomatch h.1) (Or.inl ⟨by rfl, fun W3 hS => by obtain ⟨hS1, hS2, hS3, hS4⟩ := hS; have c4_0 := hS4.cell 0 _ rfl; have c4_1 := hS4.cell 1 _ rfl; go_simp⟩) hS0 ?_
  refine wtk 4 (.pointer (some ⟨w.heap.size + 1, 2, none⟩)) rfl (fun _ _ _ h => nomatch h.1) (Or.inl ⟨by rfl, fun W3 hS => by obtain ⟨hS1, hS2, hS3, hS4⟩ := hS; go_simp⟩) hS0 ?_
  refine wtk 5 (.agg #[.bool false, .slice oY DY.length rY]) rfl (fun _ _ _ h => nomatch h.1) (Or.inl ⟨by rfl, fun W3 hS => by obtain ⟨hS1, hS2, hS3, hS4⟩ := hS; have c2_0 := hS2.cell 0 _ rfl; have c2_1 := hS2.cell 1 _ rfl; have c2_2 := hS2.cell 2 _ rfl; have c2_3 := hS2.cell 3 _ rfl; go_simp⟩) hS0 ?_
  refine wtk 6 (.agg #[.bool false, .slice a1 Ld.length c1]) rfl (fun _ _ _ h => nomatch h.1) (Or.inl ⟨by rfl, fun W3 hS => by obtain ⟨hS1, hS2, hS3, hS4⟩ := hS; have c3_0 := hS3.cell 0 _ rfl; have c3_1 := hS3.cell 1 _ rfl; go_simp⟩) hS0 ?_
  clear hS0
  try simp only [Act.put, List.setIfInBounds_toArray, List.set_cons_zero, List.set_cons_succ]
  refine two_op 3 9 ?_ ?_
  · refine wpOp_intro rfl (fun K1 hK => ?_)
    go_simp
    refine (ka _ (M.get 7 rfl) (M.get 3 rfl)).mono ?_
    rintro e V1_3 ⟨a6, c6, rfl, g, rr⟩
    have M' := M.upadd rr g
    clear M rr g
    have M := M'; clear M'
    refine hK _ _ ⟨⟨M.box 5 rfl, M.box 4 rfl, M.box 2 rfl, M.box 1 rfl⟩, ?_⟩
    clear hK K1
    refine two_op 7 9 ?_ ?_
    · refine wpOp_intro rfl (fun K2 hK => ?_)
      go_simp
      refine (kb _ (M.get 6 rfl) (M.get 5 rfl)).mono ?_
      rintro e V2_7 ⟨a7, c7, rfl, g, rr⟩
      have M' := M.upadd rr g
      clear M rr g
      have M := M'; clear M'
      refine hK _ _ ⟨⟨M.box 5 rfl, M.box 4 rfl, M.box 2 rfl, M.box 1 rfl⟩, ?_⟩
      clear hK K2
      refine two_op 8 9 ?_ ?_
      · refine wpOp_intro rfl (fun K3 hK => ?_)
        go_simp
        refine (kn _ (M.get 1 rfl) (M.get 0 rfl)).mono ?_
        rintro e V3_8 ⟨a8, c8, rfl, g, rr⟩
        have M' := M.upadd rr g
        clear M rr g
        have M := M'; clear M'
        refine hK _ _ ⟨⟨M.box 5 rfl, M.box 4 rfl, M.box 2 rfl, M.box 1 rfl⟩, ?_⟩
        clear hK K3
        refine one_op 9 rfl (fun K4 hK => ?_)
        go_simp
        obtain ⟨b8, V4_9, hV, hb, M'⟩ := M.fresh 42 [.bool false, .slice none 0 0]
        rw [← hV, ← hb]
        clear M hV hb; have M := M'; clear M'
        refine hK _ _ ⟨⟨M.box 6 rfl, M.box 5 rfl, M.box 3 rfl, M.box 2 rfl⟩, ?_⟩
        clear hK K4
        have f0_0 := M.fr 0 rfl 0; have f0_1 := M.fr 0 rfl 1
        have z0_0 := M.cell 0 rfl 0 rfl; have z0_1 := M.cell 0 rfl 1 rfl
        refine one_op 10 rfl (fun Ks5 hK => ?_)
        go_simp
        have M' := ((M.put 0 rfl rfl 0 (.bool false)).put 0 rfl rfl 1 (.slice a8 DZ.length c8))
        clear M f0_0 z0_0 f0_1 z0_1
        simp only [List.set_cons_zero, List.set_cons_succ] at M'
        have M := M'
        clear M'
        refine hK _ _ ⟨⟨M.box 6 rfl, M.box 5 rfl, M.box 3 rfl, M.box 2 rfl⟩, ?_⟩
        clear hK Ks5
        refine wdn ?_
        exact ⟨rfl, b8, a6, c6, a7, c7, a8, c8, rfl, M⟩
      · refine wpOp_intro rfl (fun K3 hK => ?_)
        go_simp
        obtain ⟨b8, V3_9, hV, hb, M'⟩ := M.fresh 42 [.bool false, .slice none 0 0]
        rw [← hV, ← hb]
        clear M hV hb; have M := M'; clear M'
        refine hK _ _ ⟨⟨M.box 6 rfl, M.box 5 rfl, M.box 3 rfl, M.box 2 rfl⟩, ?_⟩
        clear hK K3
        refine one_op 8 rfl (fun K6 hK => ?_)
        go_simp
        refine (kn _ (M.get 1 rfl) (M.get 0 rfl)).mono ?_
        rintro e V6_8 ⟨a8, c8, rfl, g, rr⟩
        have M' := M.upadd rr g
        clear M rr g
        have M := M'; clear M'
        refine hK _ _ ⟨⟨M.box 6 rfl, M.box 5 rfl, M.box 3 rfl, M.box 2 rfl⟩, ?_⟩
        clear hK K6
        have f0_0 := M.fr 0 rfl 0; have f0_1 := M.fr 0 rfl 1
        have z0_0 := M.cell 0 rfl 0 rfl; have z0_1 := M.cell 0 rfl 1 rfl
        refine one_op 10 rfl (fun Ks7 hK => ?_)
        go_simp
        have M' := ((M.put 0 rfl rfl 0 (.bool false)).put 0 rfl rfl 1 (.slice a8 DZ.length c8))
        clear M f0_0 z0_0 f0_1 z0_1
        simp only [List.set_cons_zero, List.set_cons_succ] at M'
        have M := M'
        clear M'
        refine hK _ _ ⟨⟨M.box 6 rfl, M.box 5 rfl, M.box 3 rfl, M.box 2 rfl⟩, ?_⟩
        clear hK Ks7
        refine wdn ?_
        exact ⟨rfl, b8, a6, c6, a7, c7, a8, c8, rfl, M⟩
    · refine wpOp_intro rfl (fun K2 hK => ?_)
      go_simp
      obtain ⟨b8, V2_9, hV, hb, M'⟩ := M.fresh 42 [.bool false, .slice none 0 0]
      rw [← hV, ← hb]
      clear M hV hb; have M := M'; clear M'
      refine hK _ _ ⟨⟨M.box 6 rfl, M.box 5 rfl, M.box 3 rfl, M.box 2 rfl⟩, ?_⟩
      clear hK K2
      refine one_op 7 rfl (fun K8 hK => ?_)
      go_simp
      refine (kb _ (M.get 6 rfl) (M.get 5 rfl)).mono ?_
      rintro e V8_7 ⟨a7, c7, rfl, g, rr⟩
      have M' := M.upadd rr g
      clear M rr g
      have M := M'; clear M'
      refine hK _ _ ⟨⟨M.box 6 rfl, M.box 5 rfl, M.box 3 rfl, M.box 2 rfl⟩, ?_⟩
      clear hK K8
      refine one_op 8 rfl (fun K9 hK => ?_)
      go_simp
      refine (kn _ (M.get 1 rfl) (M.get 0 rfl)).mono ?_
      rintro e V9_8 ⟨a8, c8, rfl, g, rr⟩
      have M' := M.upadd rr g
      clear M rr g
      have M := M'; clear M'
      refine hK _ _ ⟨⟨M.box 6 rfl, M.box 5 rfl, M.box 3 rfl, M.box 2 rfl⟩, ?_⟩
      clear hK K9
      have f0_0 := M.fr 0 rfl 0; have f0_1 := M.fr 0 rfl 1
      have z0_0 := M.cell 0 rfl 0 rfl; have z0_1 := M.cell 0 rfl 1 rfl
      refine one_op 10 rfl (fun Ks10 hK => ?_)
      go_simp
      have M' := ((M.put 0 rfl rfl 0 (.bool false)).put 0 rfl rfl 1 (.slice a8 DZ.length c8))
      clear M f0_0 z0_0 f0_1 z0_1
      simp only [List.set_cons_zero, List.set_cons_succ] at M'
      have M := M'
      clear M'
      refine hK _ _ ⟨⟨M.box 6 rfl, M.box 5 rfl, M.box 3 rfl, M.box 2 rfl⟩, ?_⟩
      clear hK Ks10
      refine wdn ?_
      exact ⟨rfl, b8, a6, c6, a7, c7, a8, c8, rfl, M⟩
  · refine wpOp_intro rfl (fun K1 hK => ?_)
    go_simp
    obtain ⟨b8, V1_9, hV, hb, M'⟩ := M.fresh 42 [.bool false, .slice none 0 0]
    rw [← hV, ← hb]
    clear M hV hb; have M := M'; clear M'
    refine hK _ _ ⟨⟨M.box 6 rfl, M.box 5 rfl, M.box 3 rfl, M.box 2 rfl⟩, ?_⟩
    clear hK K1
    refine one_op 3 rfl (fun K11 hK => ?_)
    go_simp
    refine (ka _ (M.get 7 rfl) (M.get 3 rfl)).mono ?_
    rintro e V11_3 ⟨a6, c6, rfl, g, rr⟩
    have M' := M.upadd rr g
    clear M rr g
    have M := M'; clear M'
    refine hK _ _ ⟨⟨M.box 6 rfl, M.box 5 rfl, M.box 3 rfl, M.box 2 rfl⟩, ?_⟩
    clear hK K11
    refine one_op 7 rfl (fun K12 hK => ?_)
    go_simp
    refine (kb _ (M.get 6 rfl) (M.get 5 rfl)).mono ?_
    rintro e V12_7 ⟨a7, c7, rfl, g, rr⟩
    have M' := M.upadd rr g
    clear M rr g
    have M := M'; clear M'
    refine hK _ _ ⟨⟨M.box 6 rfl, M.box 5 rfl, M.box 3 rfl, M.box 2 rfl⟩, ?_⟩
    clear hK K12
    refine one_op 8 rfl (fun K13 hK => ?_)
    go_simp
    refine (kn _ (M.get 1 rfl) (M.get 0 rfl)).mono ?_
    rintro e V13_8 ⟨a8, c8, rfl, g, rr⟩
    have M' := M.upadd rr g
    clear M rr g
    have M := M'; clear M'
    refine hK _ _ ⟨⟨M.box 6 rfl, M.box 5 rfl, M.box 3 rfl, M.box 2 rfl⟩, ?_⟩
    clear hK K13
    have f0_0 := M.fr 0 rfl 0; have f0_1 := M.fr 0 rfl 1
    have z0_0 := M.cell 0 rfl 0 rfl; have z0_1 := M.cell 0 rfl 1 rfl
    refine one_op 10 rfl (fun Ks14 hK => ?_)
    go_simp
    have M' := ((M.put 0 rfl rfl 0 (.bool false)).put 0 rfl rfl 1 (.slice a8 DZ.length c8))
    clear M f0_0 z0_0 f0_1 z0_1
    simp only [List.set_cons_zero, List.set_cons_succ] at M'
    have M := M'
    clear M'
    refine hK _ _ ⟨⟨M.box 6 rfl, M.box 5 rfl, M.box 3 rfl, M.box 2 rfl⟩, ?_⟩
    clear hK Ks14
    refine wdn ?_
    exact ⟨rfl, b8, a6, c6, a7, c7, a8, c8, rfl, M⟩
 intro b8 a6 c6 a7 c7 a8 c8 V M
 have z0_0 := M.cell 0 rfl 0 rfl; have z0_1 := M.cell 0 rfl 1 rfl; have z1_0 := M.cell 1 rfl 0 rfl; have z1_1 := M.cell 1 rfl 1 rfl
 go_wp2_with (go_at_call 64; refine (fraction_any _ _ _ _ _ _ _ _ _).mono ?_; rintro e V2 ⟨rfl, rr⟩; have M' := M.up rr; clear M rr; have M := M'; clear M'; have z4_0 := M.cell 4 rfl 0 rfl; have z4_1 := M.cell 4 rfl 1 rfl; have z4_2 := M.cell 4 rfl 2 rfl; have f4_0 := M.fr 4 rfl 0; have f4_1 := M.fr 4 rfl 1; have f4_2 := M.fr 4 rfl 2)
 have M' := ((M.put 4 rfl rfl 0 (.bool sZ)).put 4 rfl rfl 1 (.slice a5 LZ.length c5)).put 4 rfl rfl 2 (.slice a8 DZ.length c8)
 refine ret_boxN rfl rfl (M'.box 4 rfl) Tryz.underlying44 size_rat rfl ?_
 exact ⟨a5, c5, a8, c8, rfl, M'.own 3 rfl, M'.own 0 rfl, M'.below, (M'.two 0 3 rfl rfl).symm⟩
theorem joinFn_own {w : World} {aX oX aY oY : Option Addr} {cX rX cY rY : Nat} {sX sY sZ : Bool} {LX DX LY DY LZ DZ : List Nat} {X Y Z : Rat} {J cb : Nat} (join : Int → Int → Int) (hj : (join = (fun a b => a + b) ∧ Z = X + Y) ∨ (join = (fun a b => a - b) ∧ Z = X - Y))
  (kj : ∀ (W : World) {s1 s2 s3 : Bool} {L1 L2 L3 : List Nat} {p1 p2 : Option Addr} {q1 q2 : Nat} {A B C : Int} (hA : Is s1 L1 A) (hB : Is s2 L2 B) (hC : Can s3 L3 C) (e : C = join A B) (l1 : L1.length ≤ 50000) (l2 : L2.length ≤ 50000) (h1 : Reads W (.slice p1 L1.length q1) L1) (h2 : Reads W (.slice p2 L2.length q2) L2),
    Calls Tryz.prog J #[.agg #[.bool s1, .slice p1 L1.length q1], .agg #[.bool s2, .slice p2 L2.length q2]] W fun e w' => ∃ a c, e = .returned (.agg #[.bool s3, .slice a L3.length c]) ∧ Fresh w' W.heap.size (.slice a L3.length c) L3 ∧ Below W.heap.size W w')
  (hE : ∀ (args : Array Value) (w : World), (callFunc J args).run Tryz.prog w = .ok (.enter J args) w)
  (hcb : BoxN w cb 114 #[.func (.func J) #[] #[]])
  (kX : RCan sX LX DX X) (kY : RCan sY LY DY Y) (kZ : RCan sZ LZ DZ Z) (b1 : LX.length ≤ 18000) (b2 : DX.length ≤ 18000) (b3 : LY.length ≤ 18000) (b4 : DY.length ≤ 18000) (g1 : Reads w (.slice aX LX.length cX) LX) (g2 : Reads w (.slice oX DX.length rX) DX) (g3 : Reads w (.slice aY LY.length cY) LY) (g4 : Reads w (.slice oY DY.length rY) DY) :
  Calls Tryz.prog 140 #[.agg #[.bool sX, .slice aX LX.length cX, .bool false, .slice oX DX.length rX], .agg #[.bool sY, .slice aY LY.length cY, .bool false, .slice oY DY.length rY], .pointer (some ⟨cb, 0, none⟩)] w fun e w' => ∃ a c a' c', e = .returned (.agg #[.bool sZ, .slice a LZ.length c, .slice a' DZ.length c']) ∧ Fresh w' w.heap.size (.slice a LZ.length c) LZ ∧ Fresh w' w.heap.size (.slice a' DZ.length c') DZ ∧ Below w.heap.size w w' ∧ Two (.slice a LZ.length c) (.slice a' DZ.length c') := by
 obtain ⟨g, xr, yr, tt, g', s, s', hg, g0, ex, ey, es, ht, t0, es', ey', e5, e6⟩ := rsum_parts X Y Z join hj
 obtain ⟨P, hP⟩ : ∃ P, P = X.num * (yr : Int) := ⟨_, rfl⟩
 obtain ⟨Q, hQ⟩ : ∃ Q, Q = Y.num * (xr : Int) := ⟨_, rfl⟩
 rw [← hP, ← hQ] at es
 obtain ⟨Lg, hLg⟩ : ∃ L, L = digs g := ⟨_, rfl⟩
 obtain ⟨Lx, hLx⟩ : ∃ L, L = digs xr := ⟨_, rfl⟩
 obtain ⟨Ly, hLy⟩ : ∃ L, L = digs yr := ⟨_, rfl⟩
 obtain ⟨Lt, hLt⟩ : ∃ L, L = digs tt := ⟨_, rfl⟩
 obtain ⟨Lr, hLr⟩ : ∃ L, L = digs (yr * g') := ⟨_, rfl⟩
 obtain ⟨sP, LP, cP⟩ := Can.ex P
 obtain ⟨sQ, LQ, cQ⟩ := Can.ex Q
 obtain ⟨sS, LS, cS⟩ := Can.ex s
 have hs : sS = sZ := by rw [(cS.div es' t0).1, kZ.1.1, e5]
 have hl : digs s'.natAbs = LZ := by rw [kZ.1.2, e5]
 rw [hs] at cS
 have cN := cS.div es' t0
 rw [hl] at cN
 have cg := canL hLg
 have cx := canL hLx
 have cy := canL hLy
 have ct := canL hLt
 have cr := canL hLr
 have lg : Lg.length ≤ 18000 := by rw [hLg]; have := digs_mono (gcd_le (a := X.den) Y.den_nz); rw [← hg, ← kY.2] at this; omega
 have lx : Lx.length ≤ 18000 := by rw [hLx]; have := len_leN ex g0; rw [← kX.2] at this; omega
 have ly : Ly.length ≤ 18000 := by rw [hLy]; have := len_leN ey g0; rw [← kY.2] at this; omega
 have lt : Lt.length ≤ 18000 := by rw [hLt]; have h1 := digs_mono (gcd_le (a := s.natAbs) g0); rw [← ht, ← hLg] at h1; omega
 have lr : Lr.length ≤ 18000 := by rw [hLr]; have := len_leN ey' t0; rw [← kY.2] at this; omega
 have lP : LP.length ≤ 36000 := by have := Can.len_mul kX.1.is cy.is cP hP; omega
 have lQ : LQ.length ≤ 36000 := by have := Can.len_mul kY.1.is cx.is cQ hQ; omega
 have lS : LS.length ≤ 72001 := by
  have e' : s = P + Q ∨ s = P - Q := by
    rcases hj with ⟨rfl, _⟩ | ⟨rfl, _⟩
    · exact .inl es
    · exact .inr es
  have := Can.len_add cP.is cQ.is cS e'; omega
 have kg := fun (W : World) {p1 p2 : Option Addr} {q1 q2 : Nat} (h1 : Reads W (.slice p1 DX.length q1) DX) (h2 : Reads W (.slice p2 DY.length q2) DY) => common_own (s1 := false) (s2 := false) (L3 := Lg) kX.2 kY.2 (by rw [hLg, hg]) (by omega) (by omega) h1 h2
 have kx := fun (W : World) {p1 p2 : Option Addr} {q1 q2 : Nat} (h1 : Reads W (.slice p1 DX.length q1) DX) (h2 : Reads W (.slice p2 Lg.length q2) Lg) => over_own (s2 := false) (canL kX.2) hLg cx (by rw [ex]; push_cast; rfl) g0 (by omega) (by omega) h1 h2
 have ky := fun (W : World) {p1 p2 : Option Addr} {q1 q2 : Nat} (h1 : Reads W (.slice p1 DY.length q1) DY) (h2 : Reads W (.slice p2 Lg.length q2) Lg) => over_own (s2 := false) (canL kY.2) hLg cy (by rw [ey]; push_cast; rfl) g0 (by omega) (by omega) h1 h2
 have kp := fun (W : World) {p1 p2 : Option Addr} {q1 q2 : Nat} (h1 : Reads W (.slice p1 LX.length q1) LX) (h2 : Reads W (.slice p2 Ly.length q2) Ly) => q_mul_own kX.1.is cy.is cP hP (by omega) (by omega) h1 h2
 have kq := fun (W : World) {p1 p2 : Option Addr} {q1 q2 : Nat} (h1 : Reads W (.slice p1 LY.length q1) LY) (h2 : Reads W (.slice p2 Lx.length q2) Lx) => q_mul_own kY.1.is cx.is cQ hQ (by omega) (by omega) h1 h2
 have ks := fun (W : World) {p1 p2 : Option Addr} {q1 q2 : Nat} (h1 : Reads W (.slice p1 LP.length q1) LP) (h2 : Reads W (.slice p2 LQ.length q2) LQ) => kj W cP.is cQ.is cS es (by omega) (by omega) h1 h2
 have kt := fun (W : World) {p1 p2 : Option Addr} {q1 q2 : Nat} (h1 : Reads W (.slice p1 LS.length q1) LS) (h2 : Reads W (.slice p2 Lg.length q2) Lg) => common_own (s1 := sZ) (s2 := false) (L3 := Lt) cS.2 hLg (by rw [hLt, ht]) (by omega) (by omega) h1 h2
 have kn := fun (W : World) {p1 p2 : Option Addr} {q1 q2 : Nat} (h1 : Reads W (.slice p1 LS.length q1) LS) (h2 : Reads W (.slice p2 Lt.length q2) Lt) => over_own (s2 := false) cS hLt cN es' t0 (by omega) (by omega) h1 h2
 have kr := fun (W : World) {p1 p2 : Option Addr} {q1 q2 : Nat} (h1 : Reads W (.slice p1 DY.length q1) DY) (h2 : Reads W (.slice p2 Lt.length q2) Lt) => over_own (s2 := false) (canL kY.2) hLt cr (by rw [ey']; push_cast; rfl) t0 (by omega) (by omega) h1 h2
 have kd := fun (W : World) {p1 p2 : Option Addr} {q1 q2 : Nat} (h1 : Reads W (.slice p1 Lx.length q1) Lx) (h2 : Reads W (.slice p2 Lr.length q2) Lr) => q_mul_own cx.is cr.is (canL kZ.2) (by rw [e6]; push_cast; rfl) (by omega) (by omega) h1 h2
 have M : Mem w [(w.heap.size + 1 + 1, 44, [.bool false, .slice none 0 0, .slice none 0 0]), (w.heap.size + 1, 93, [.bool sY, .slice aY LY.length cY, .bool false, .slice oY DY.length rY]), (w.heap.size, 93, [.bool sX, .slice aX LX.length cX, .bool false, .slice oX DX.length rX])] [(.slice oY DY.length rY, DY), (.slice aY LY.length cY, LY), (.slice oX DX.length rX, DX), (.slice aX LX.length cX, LX)] (((w.alloc (.cells #[.bool sX, .slice aX LX.length cX, .bool false, .slice oX DX.length rX] 93)).alloc (.cells #[.bool sY, .slice aY LY.length cY, .bool false, .slice oY DY.length rY] 93)).alloc (.cells #[.bool false, .slice none 0 0, .slice none 0 0] 44)) := by
  have M := ((((((((Mem.start w).add g1).add g2).add g3).add g4).new 93 [.bool sX, .slice aX LX.length cX, .bool false, .slice oX DX.length rX]).new 93 [.bool sY, .slice aY LY.length cY, .bool false, .slice oY DY.length rY]).new 44 [.bool false, .slice none 0 0, .slice none 0 0])
  simpa only [World.size_alloc] using M
 have M := MemO.of (n := 4) M
 clear g1 g2 g3 g4 b1 b2 b3 b4 kX kY kZ hj hg g0 ex ey es ht t0 es' ey' e5 e6 hP hQ hLg hLx hLy hLt hLr cP cQ cS cN cg cx cy ct cr hl hs lg lx ly lt lr lP lQ lS kj
 go_enter Tryz.func140, Tryz.ntmps140
 go_wp2_with (go_at_call 106; refine (kg _ (M.get 2 rfl) (M.get 0 rfl)).mono ?_; rintro e w1 ⟨a1, c1, rfl, g, rr⟩; have M' := (M.upadd rr g).new 42 [.bool false, .slice a1 Lg.length c1]; clear M rr g; have M := M'; clear M')
 obtain ⟨b6, W1, hb6, hW1⟩ : ∃ b V, b = w1.heap.size ∧ V = w1.alloc (.cells #[.bool false, .slice a1 Lg.length c1] 42) := ⟨_, _, rfl, rfl⟩
 rw [← hb6, ← hW1] at M ⊢
 clear hb6 hW1
 apply region_cut_nnss (Fact := (fun b7 b8 a2 c2 a3 c3 W => MemO 4 w [(b8, 42, [.bool false, .slice a3 Ly.length c3]), (b7, 42, [.bool false, .slice a2 Lx.length c2]), (b6, 42, [.bool false, .slice a1 Lg.length c1]), (w.heap.size + 1 + 1, 44, [.bool false, .slice none 0 0, .slice none 0 0]), (w.heap.size + 1, 93, [.bool sY, .slice aY LY.length cY, .bool false, .slice oY DY.length rY]), (w.heap.size, 93, [.bool sX, .slice aX LX.length cX, .bool false, .slice oX DX.length rX])] [(.slice a3 Ly.length c3, Ly), (.slice a2 Lx.length c2, Lx), (.slice a1 Lg.length c1, Lg), (.slice oY DY.length rY, DY), (.slice aY LY.length cY, LY), (.slice oX DX.length rX, DX), (.slice aX LX.length cX, LX)] W))
 case first =>
  refine region_memO (S := (fun W => BoxN W (w.heap.size) 93 #[.bool sX, .slice aX LX.length cX, .bool false, .slice oX DX.length rX] ∧ BoxN W (w.heap.size + 1) 93 #[.bool sY, .slice aY LY.length cY, .bool false, .slice oY DY.length rY] ∧ BoxN W (b6) 42 #[.bool false, .slice a1 Lg.length c1])) M (by kernel_rfl) ?_
  intro V0 M
  have hS0 : (fun W => BoxN W (w.heap.size) 93 #[.bool sX, .slice aX LX.length cX, .bool false, .slice oX DX.length rX] ∧ BoxN W (w.heap.size + 1) 93 #[.bool sY, .slice aY LY.length cY, .bool false, .slice oY DY.length rY] ∧ BoxN W (b6) 42 #[.bool false, .slice a1 Lg.length c1]) V0 := ⟨M.box 3 rfl, M.box 2 rfl, M.box 0 rfl⟩
  refine wtk 0 (.pointer (some ⟨w.heap.size, 2, none⟩)) rfl (fun _ _ _ h => nomatch h.1) (Or.inl ⟨by rfl, fun W3 hS => by obtain ⟨hS1, hS2, hS3⟩ := hS; go_simp⟩) hS0 ?_
  refine wtk 1 (.agg #[.bool false, .slice oX DX.length rX]) rfl (fun _ _ _ h => nomatch h.1) (Or.inl ⟨by rfl, fun W3 hS => by obtain ⟨hS1, hS2, hS3⟩ := hS; have c1_0 := hS1.cell 0 _ rfl; have c1_1 := hS1.cell 1 _ rfl; have c1_2 := hS1.cell 2 _ rfl; have c1_3 := hS1.cell 3 _ rfl; go_simp⟩) hS0 ?_
  refine wtk 2 (.agg #[.bool false, .slice a1 Lg.length c1]) rfl (fun _ _ _ h => nomatch h.1) (Or.inl ⟨by rfl, fun W3 hS => by obtain ⟨hS1, hS2, hS3⟩ := hS; have c3_0 := hS3.cell 0 _ rfl; have c3_1 := hS3.cell 1 _ rfl; go_simp⟩) hS0 ?_
  refine wtk 4 (.pointer (some ⟨w.heap.size + 1, 2, none⟩)) rfl (fun _ _ _ h => nomatch h.1) (Or.inl ⟨by rfl, fun W3 hS => by obtain ⟨hS1, hS2, hS3⟩ := hS; go_simp⟩) hS0 ?_
  refine wtk 5 (.agg #[.bool false, .slice oY DY.length rY]) rfl (fun _ _ _ h => nomatch h.1) (Or.inl ⟨by rfl, fun W3 hS => by obtain ⟨hS1, hS2, hS3⟩ := hS; have c2_0 := hS2.cell 0 _ rfl; have c2_1 := hS2.cell 1 _ rfl; have c2_2 := hS2.cell 2 _ rfl; have c2_3 := hS2.cell 3 _ rfl; go_simp⟩) hS0 ?_
  refine wtk 6 (.agg #[.bool false, .slice a1 Lg.length c1]) rfl (fun _ _ _ h => nomatch h.1) (Or.inl ⟨by rfl, fun W3 hS => by obtain ⟨hS1, hS2, hS3⟩ := hS; have c3_0 := hS3.cell 0 _ rfl; have c3_1 := hS3.cell 1 _ rfl; go_simp⟩) hS0 ?_
  clear hS0
  try simp only [Act.put, List.setIfInBounds_toArray, List.set_cons_zero, List.set_cons_succ]
  refine three_op 3 8 9 ?_ ?_ ?_
  · refine wpOp_intro rfl (fun K1 hK => ?_)
    go_simp
    refine (kx _ (M.get 3 rfl) (M.get 0 rfl)).mono ?_
    rintro e V1_3 ⟨a2, c2, rfl, g, rr⟩
    have M' := M.upadd rr g
    clear M rr g
    have M := M'; clear M'
    refine hK _ _ ⟨⟨M.box 3 rfl, M.box 2 rfl, M.box 0 rfl⟩, ?_⟩
    clear hK K1
    refine three_op 7 8 9 ?_ ?_ ?_
    · refine wpOp_intro rfl (fun K2 hK => ?_)
      go_simp
      refine (ky _ (M.get 2 rfl) (M.get 1 rfl)).mono ?_
      rintro e V2_7 ⟨a3, c3, rfl, g, rr⟩
      have M' := M.upadd rr g
      clear M rr g
      have M := M'; clear M'
      refine hK _ _ ⟨⟨M.box 3 rfl, M.box 2 rfl, M.box 0 rfl⟩, ?_⟩
      clear hK K2
      refine two_op 8 9 ?_ ?_
      · refine wpOp_intro rfl (fun K3 hK => ?_)
        go_simp
        obtain ⟨b7, V3_8, hV, hb, M'⟩ := M.fresh 42 [.bool false, .slice none 0 0]
        rw [← hV, ← hb]
        clear M hV hb; have M := M'; clear M'
        refine hK _ _ ⟨⟨M.box 4 rfl, M.box 3 rfl, M.box 1 rfl⟩, ?_⟩
        clear hK K3
        refine one_op 9 rfl (fun K4 hK => ?_)
        go_simp
        obtain ⟨b8, V4_9, hV, hb, M'⟩ := M.fresh 42 [.bool false, .slice none 0 0]
        rw [← hV, ← hb]
        clear M hV hb; have M := M'; clear M'
        refine hK _ _ ⟨⟨M.box 5 rfl, M.box 4 rfl, M.box 2 rfl⟩, ?_⟩
        clear hK K4
        have f1_0 := M.fr 1 rfl 0; have f1_1 := M.fr 1 rfl 1
        have z1_0 := M.cell 1 rfl 0 rfl; have z1_1 := M.cell 1 rfl 1 rfl
        refine one_op 10 rfl (fun Ks5 hK => ?_)
        go_simp
        have M' := ((M.put 1 rfl rfl 0 (.bool false)).put 1 rfl rfl 1 (.slice a2 Lx.length c2))
        clear M f1_0 z1_0 f1_1 z1_1
        simp only [List.set_cons_zero, List.set_cons_succ] at M'
        have M := M'
        clear M'
        refine hK _ _ ⟨⟨M.box 5 rfl, M.box 4 rfl, M.box 2 rfl⟩, ?_⟩
        clear hK Ks5
        have f0_0 := M.fr 0 rfl 0; have f0_1 := M.fr 0 rfl 1
        have z0_0 := M.cell 0 rfl 0 rfl; have z0_1 := M.cell 0 rfl 1 rfl
        refine one_op 11 rfl (fun Ks6 hK => ?_)
        go_simp
        have M' := ((M.put 0 rfl rfl 0 (.bool false)).put 0 rfl rfl 1 (.slice a3 Ly.length c3))
        clear M f0_0 z0_0 f0_1 z0_1
        simp only [List.set_cons_zero, List.set_cons_succ] at M'
        have M := M'
        clear M'
        refine hK _ _ ⟨⟨M.box 5 rfl, M.box 4 rfl, M.box 2 rfl⟩, ?_⟩
        clear hK Ks6
        refine wdn ?_
        exact ⟨rfl, b7, b8, a2, c2, a3, c3, rfl, M⟩
      · refine wpOp_intro rfl (fun K3 hK => ?_)
        go_simp
        obtain ⟨b8, V3_9, hV, hb, M'⟩ := M.fresh 42 [.bool false, .slice none 0 0]
        rw [← hV, ← hb]
        clear M hV hb; have M := M'; clear M'
        refine hK _ _ ⟨⟨M.box 4 rfl, M.box 3 rfl, M.box 1 rfl⟩, ?_⟩
        clear hK K3
        refine one_op 8 rfl (fun K7 hK => ?_)
        go_simp
        obtain ⟨b7, V7_8, hV, hb, M'⟩ := M.fresh 42 [.bool false, .slice none 0 0]
        rw [← hV, ← hb]
        clear M hV hb; have M := M'; clear M'
        refine hK _ _ ⟨⟨M.box 5 rfl, M.box 4 rfl, M.box 2 rfl⟩, ?_⟩
        clear hK K7
        have f0_0 := M.fr 0 rfl 0; have f0_1 := M.fr 0 rfl 1
        have z0_0 := M.cell 0 rfl 0 rfl; have z0_1 := M.cell 0 rfl 1 rfl
        refine one_op 10 rfl (fun Ks8 hK => ?_)
        go_simp
        have M' := ((M.put 0 rfl rfl 0 (.bool false)).put 0 rfl rfl 1 (.slice a2 Lx.length c2))
        clear M f0_0 z0_0 f0_1 z0_1
        simp only [List.set_cons_zero, List.set_cons_succ] at M'
        have M := M'
        clear M'
        refine hK _ _ ⟨⟨M.box 5 rfl, M.box 4 rfl, M.box 2 rfl⟩, ?_⟩
        clear hK Ks8
        have f1_0 := M.fr 1 rfl 0; have f1_1 := M.fr 1 rfl 1
        have z1_0 := M.cell 1 rfl 0 rfl; have z1_1 := M.cell 1 rfl 1 rfl
        refine one_op 11 rfl (fun Ks9 hK => ?_)
        go_simp
        have M' := ((M.put 1 rfl rfl 0 (.bool false)).put 1 rfl rfl 1 (.slice a3 Ly.length c3))
        clear M f1_0 z1_0 f1_1 z1_1
        simp only [List.set_cons_zero, List.set_cons_succ] at M'
        have M := M'
        clear M'
        refine hK _ _ ⟨⟨M.box 5 rfl, M.box 4 rfl, M.box 2 rfl⟩, ?_⟩
        clear hK Ks9
        refine wdn ?_
        have M' := M.swap; clear M; have M := M'; clear M'
        exact ⟨rfl, b7, b8, a2, c2, a3, c3, rfl, M⟩
    · refine wpOp_intro rfl (fun K2 hK => ?_)
      go_simp
      obtain ⟨b7, V2_8, hV, hb, M'⟩ := M.fresh 42 [.bool false, .slice none 0 0]
      rw [← hV, ← hb]
      clear M hV hb; have M := M'; clear M'
      refine hK _ _ ⟨⟨M.box 4 rfl, M.box 3 rfl, M.box 1 rfl⟩, ?_⟩
      clear hK K2
      refine two_op 7 9 ?_ ?_
      · refine wpOp_intro rfl (fun K10 hK => ?_)
        go_simp
        refine (ky _ (M.get 2 rfl) (M.get 1 rfl)).mono ?_
        rintro e V10_7 ⟨a3, c3, rfl, g, rr⟩
        have M' := M.upadd rr g
        clear M rr g
        have M := M'; clear M'
        refine hK _ _ ⟨⟨M.box 4 rfl, M.box 3 rfl, M.box 1 rfl⟩, ?_⟩
        clear hK K10
        refine one_op 9 rfl (fun K11 hK => ?_)
        go_simp
        obtain ⟨b8, V11_9, hV, hb, M'⟩ := M.fresh 42 [.bool false, .slice none 0 0]
        rw [← hV, ← hb]
        clear M hV hb; have M := M'; clear M'
        refine hK _ _ ⟨⟨M.box 5 rfl, M.box 4 rfl, M.box 2 rfl⟩, ?_⟩
        clear hK K11
        have f1_0 := M.fr 1 rfl 0; have f1_1 := M.fr 1 rfl 1
        have z1_0 := M.cell 1 rfl 0 rfl; have z1_1 := M.cell 1 rfl 1 rfl
        refine one_op 10 rfl (fun Ks12 hK => ?_)
        go_simp
        have M' := ((M.put 1 rfl rfl 0 (.bool false)).put 1 rfl rfl 1 (.slice a2 Lx.length c2))
        clear M f1_0 z1_0 f1_1 z1_1
        simp only [List.set_cons_zero, List.set_cons_succ] at M'
        have M := M'
        clear M'
        refine hK _ _ ⟨⟨M.box 5 rfl, M.box 4 rfl, M.box 2 rfl⟩, ?_⟩
        clear hK Ks12
        have f0_0 := M.fr 0 rfl 0; have f0_1 := M.fr 0 rfl 1
        have z0_0 := M.cell 0 rfl 0 rfl; have z0_1 := M.cell 0 rfl 1 rfl
        refine one_op 11 rfl (fun Ks13 hK => ?_)
        go_simp
        have M' := ((M.put 0 rfl rfl 0 (.bool false)).put 0 rfl rfl 1 (.slice a3 Ly.length c3))
        clear M f0_0 z0_0 f0_1 z0_1
        simp only [List.set_cons_zero, List.set_cons_succ] at M'
        have M := M'
        clear M'
        refine hK _ _ ⟨⟨M.box 5 rfl, M.box 4 rfl, M.box 2 rfl⟩, ?_⟩
        clear hK Ks13
        refine wdn ?_
        exact ⟨rfl, b7, b8, a2, c2, a3, c3, rfl, M⟩
      · refine wpOp_intro rfl (fun K10 hK => ?_)
        go_simp
        obtain ⟨b8, V10_9, hV, hb, M'⟩ := M.fresh 42 [.bool false, .slice none 0 0]
        rw [← hV, ← hb]
        clear M hV hb; have M := M'; clear M'
        refine hK _ _ ⟨⟨M.box 5 rfl, M.box 4 rfl, M.box 2 rfl⟩, ?_⟩
        clear hK K10
        refine one_op 7 rfl (fun K14 hK => ?_)
        go_simp
        refine (ky _ (M.get 2 rfl) (M.get 1 rfl)).mono ?_
        rintro e V14_7 ⟨a3, c3, rfl, g, rr⟩
        have M' := M.upadd rr g
        clear M rr g
        have M := M'; clear M'
        refine hK _ _ ⟨⟨M.box 5 rfl, M.box 4 rfl, M.box 2 rfl⟩, ?_⟩
        clear hK K14
        have f1_0 := M.fr 1 rfl 0; have f1_1 := M.fr 1 rfl 1
        have z1_0 := M.cell 1 rfl 0 rfl; have z1_1 := M.cell 1 rfl 1 rfl
        refine one_op 10 rfl (fun Ks15 hK => ?_)
        go_simp
        have M' := ((M.put 1 rfl rfl 0 (.bool false)).put 1 rfl rfl 1 (.slice a2 Lx.length c2))
        clear M f1_0 z1_0 f1_1 z1_1
        simp only [List.set_cons_zero, List.set_cons_succ] at M'
        have M := M'
        clear M'
        refine hK _ _ ⟨⟨M.box 5 rfl, M.box 4 rfl, M.box 2 rfl⟩, ?_⟩
        clear hK Ks15
        have f0_0 := M.fr 0 rfl 0; have f0_1 := M.fr 0 rfl 1
        have z0_0 := M.cell 0 rfl 0 rfl; have z0_1 := M.cell 0 rfl 1 rfl
        refine one_op 11 rfl (fun Ks16 hK => ?_)
        go_simp
        have M' := ((M.put 0 rfl rfl 0 (.bool false)).put 0 rfl rfl 1 (.slice a3 Ly.length c3))
        clear M f0_0 z0_0 f0_1 z0_1
        simp only [List.set_cons_zero, List.set_cons_succ] at M'
        have M := M'
        clear M'
        refine hK _ _ ⟨⟨M.box 5 rfl, M.box 4 rfl, M.box 2 rfl⟩, ?_⟩
        clear hK Ks16
        refine wdn ?_
        exact ⟨rfl, b7, b8, a2, c2, a3, c3, rfl, M⟩
    · refine wpOp_intro rfl (fun K2 hK => ?_)
      go_simp
      obtain ⟨b8, V2_9, hV, hb, M'⟩ := M.fresh 42 [.bool false, .slice none 0 0]
      rw [← hV, ← hb]
      clear M hV hb; have M := M'; clear M'
      refine hK _ _ ⟨⟨M.box 4 rfl, M.box 3 rfl, M.box 1 rfl⟩, ?_⟩
      clear hK K2
      refine two_op 7 8 ?_ ?_
      · refine wpOp_intro rfl (fun K17 hK => ?_)
        go_simp
        refine (ky _ (M.get 2 rfl) (M.get 1 rfl)).mono ?_
        rintro e V17_7 ⟨a3, c3, rfl, g, rr⟩
        have M' := M.upadd rr g
        clear M rr g
        have M := M'; clear M'
        refine hK _ _ ⟨⟨M.box 4 rfl, M.box 3 rfl, M.box 1 rfl⟩, ?_⟩
        clear hK K17
        refine one_op 8 rfl (fun K18 hK => ?_)
        go_simp
        obtain ⟨b7, V18_8, hV, hb, M'⟩ := M.fresh 42 [.bool false, .slice none 0 0]
        rw [← hV, ← hb]
        clear M hV hb; have M := M'; clear M'
        refine hK _ _ ⟨⟨M.box 5 rfl, M.box 4 rfl, M.box 2 rfl⟩, ?_⟩
        clear hK K18
        have f0_0 := M.fr 0 rfl 0; have f0_1 := M.fr 0 rfl 1
        have z0_0 := M.cell 0 rfl 0 rfl; have z0_1 := M.cell 0 rfl 1 rfl
        refine one_op 10 rfl (fun Ks19 hK => ?_)
        go_simp
        have M' := ((M.put 0 rfl rfl 0 (.bool false)).put 0 rfl rfl 1 (.slice a2 Lx.length c2))
        clear M f0_0 z0_0 f0_1 z0_1
        simp only [List.set_cons_zero, List.set_cons_succ] at M'
        have M := M'
        clear M'
        refine hK _ _ ⟨⟨M.box 5 rfl, M.box 4 rfl, M.box 2 rfl⟩, ?_⟩
        clear hK Ks19
        have f1_0 := M.fr 1 rfl 0; have f1_1 := M.fr 1 rfl 1
        have z1_0 := M.cell 1 rfl 0 rfl; have z1_1 := M.cell 1 rfl 1 rfl
        refine one_op 11 rfl (fun Ks20 hK => ?_)
        go_simp
        have M' := ((M.put 1 rfl rfl 0 (.bool false)).put 1 rfl rfl 1 (.slice a3 Ly.length c3))
        clear M f1_0 z1_0 f1_1 z1_1
        simp only [List.set_cons_zero, List.set_cons_succ] at M'
        have M := M'
        clear M'
        refine hK _ _ ⟨⟨M.box 5 rfl, M.box 4 rfl, M.box 2 rfl⟩, ?_⟩
        clear hK Ks20
        refine wdn ?_
        have M' := M.swap; clear M; have M := M'; clear M'
        exact ⟨rfl, b7, b8, a2, c2, a3, c3, rfl, M⟩
      · refine wpOp_intro rfl (fun K17 hK => ?_)
        go_simp
        obtain ⟨b7, V17_8, hV, hb, M'⟩ := M.fresh 42 [.bool false, .slice none 0 0]
        rw [← hV, ← hb]
        clear M hV hb; have M := M'; clear M'
        refine hK _ _ ⟨⟨M.box 5 rfl, M.box 4 rfl, M.box 2 rfl⟩, ?_⟩
        clear hK K17
        refine one_op 7 rfl (fun K21 hK => ?_)
        go_simp
        refine (ky _ (M.get 2 rfl) (M.get 1 rfl)).mono ?_
        rintro e V21_7 ⟨a3, c3, rfl, g, rr⟩
        have M' := M.upadd rr g
        clear M rr g
        have M := M'; clear M'
        refine hK _ _ ⟨⟨M.box 5 rfl, M.box 4 rfl, M.box 2 rfl⟩, ?_⟩
        clear hK K21
        have f0_0 := M.fr 0 rfl 0; have f0_1 := M.fr 0 rfl 1
        have z0_0 := M.cell 0 rfl 0 rfl; have z0_1 := M.cell 0 rfl 1 rfl
        refine one_op 10 rfl (fun Ks22 hK => ?_)
        go_simp
        have M' := ((M.put 0 rfl rfl 0 (.bool false)).put 0 rfl rfl 1 (.slice a2 Lx.length c2))
        clear M f0_0 z0_0 f0_1 z0_1
        simp only [List.set_cons_zero, List.set_cons_succ] at M'
        have M := M'
        clear M'
        refine hK _ _ ⟨⟨M.box 5 rfl, M.box 4 rfl, M.box 2 rfl⟩, ?_⟩
        clear hK Ks22
        have f1_0 := M.fr 1 rfl 0; have f1_1 := M.fr 1 rfl 1
        have z1_0 := M.cell 1 rfl 0 rfl; have z1_1 := M.cell 1 rfl 1 rfl
        refine one_op 11 rfl (fun Ks23 hK => ?_)
        go_simp
        have M' := ((M.put 1 rfl rfl 0 (.bool false)).put 1 rfl rfl 1 (.slice a3 Ly.length c3))
        clear M f1_0 z1_0 f1_1 z1_1
        simp only [List.set_cons_zero, List.set_cons_succ] at M'
        have M := M'
        clear M'
        refine hK _ _ ⟨⟨M.box 5 rfl, M.box 4 rfl, M.box 2 rfl⟩, ?_⟩
        clear hK Ks23
        refine wdn ?_
        have M' := M.swap; clear M; have M := M'; clear M'
        exact ⟨rfl, b7, b8, a2, c2, a3, c3, rfl, M⟩
  · refine wpOp_intro rfl (fun K1 hK => ?_)
    go_simp
    obtain ⟨b7, V1_8, hV, hb, M'⟩ := M.fresh 42 [.bool false, .slice none 0 0]
    rw [← hV, ← hb]
    clear M hV hb; have M := M'; clear M'
    refine hK _ _ ⟨⟨M.box 4 rfl, M.box 3 rfl, M.box 1 rfl⟩, ?_⟩
    clear hK K1
    refine two_op 3 9 ?_ ?_
    · refine wpOp_intro rfl (fun K24 hK => ?_)
      go_simp
      refine (kx _ (M.get 3 rfl) (M.get 0 rfl)).mono ?_
      rintro e V24_3 ⟨a2, c2, rfl, g, rr⟩
      have M' := M.upadd rr g
      clear M rr g
      have M := M'; clear M'
      refine hK _ _ ⟨⟨M.box 4 rfl, M.box 3 rfl, M.box 1 rfl⟩, ?_⟩
      clear hK K24
      refine two_op 7 9 ?_ ?_
      · refine wpOp_intro rfl (fun K25 hK => ?_)
        go_simp
        refine (ky _ (M.get 2 rfl) (M.get 1 rfl)).mono ?_
        rintro e V25_7 ⟨a3, c3, rfl, g, rr⟩
        have M' := M.upadd rr g
        clear M rr g
        have M := M'; clear M'
        refine hK _ _ ⟨⟨M.box 4 rfl, M.box 3 rfl, M.box 1 rfl⟩, ?_⟩
        clear hK K25
        refine one_op 9 rfl (fun K26 hK => ?_)
        go_simp
        obtain ⟨b8, V26_9, hV, hb, M'⟩ := M.fresh 42 [.bool false, .slice none 0 0]
        rw [← hV, ← hb]
        clear M hV hb; have M := M'; clear M'
        refine hK _ _ ⟨⟨M.box 5 rfl, M.box 4 rfl, M.box 2 rfl⟩, ?_⟩
        clear hK K26
        have f1_0 := M.fr 1 rfl 0; have f1_1 := M.fr 1 rfl 1
        have z1_0 := M.cell 1 rfl 0 rfl; have z1_1 := M.cell 1 rfl 1 rfl
        refine one_op 10 rfl (fun Ks27 hK => ?_)
        go_simp
        have M' := ((M.put 1 rfl rfl 0 (.bool false)).put 1 rfl rfl 1 (.slice a2 Lx.length c2))
        clear M f1_0 z1_0 f1_1 z1_1
        simp only [List.set_cons_zero, List.set_cons_succ] at M'
        have M := M'
        clear M'
        refine hK _ _ ⟨⟨M.box 5 rfl, M.box 4 rfl, M.box 2 rfl⟩, ?_⟩
        clear hK Ks27
        have f0_0 := M.fr 0 rfl 0; have f0_1 := M.fr 0 rfl 1
        have z0_0 := M.cell 0 rfl 0 rfl; have z0_1 := M.cell 0 rfl 1 rfl
        refine one_op 11 rfl (fun Ks28 hK => ?_)
        go_simp
        have M' := ((M.put 0 rfl rfl 0 (.bool false)).put 0 rfl rfl 1 (.slice a3 Ly.length c3))
        clear M f0_0 z0_0 f0_1 z0_1
        simp only [List.set_cons_zero, List.set_cons_succ] at M'
        have M := M'
        clear M'
        refine hK _ _ ⟨⟨M.box 5 rfl, M.box 4 rfl, M.box 2 rfl⟩, ?_⟩
        clear hK Ks28
        refine wdn ?_
        exact ⟨rfl, b7, b8, a2, c2, a3, c3, rfl, M⟩
      · refine wpOp_intro rfl (fun K25 hK => ?_)
        go_simp
        obtain ⟨b8, V25_9, hV, hb, M'⟩ := M.fresh 42 [.bool false, .slice none 0 0]
        rw [← hV, ← hb]
        clear M hV hb; have M := M'; clear M'
        refine hK _ _ ⟨⟨M.box 5 rfl, M.box 4 rfl, M.box 2 rfl⟩, ?_⟩
        clear hK K25
        refine one_op 7 rfl (fun K29 hK => ?_)
        go_simp
        refine (ky _ (M.get 2 rfl) (M.get 1 rfl)).mono ?_
        rintro e V29_7 ⟨a3, c3, rfl, g, rr⟩
        have M' := M.upadd rr g
        clear M rr g
        have M := M'; clear M'
        refine hK _ _ ⟨⟨M.box 5 rfl, M.box 4 rfl, M.box 2 rfl⟩, ?_⟩
        clear hK K29
        have f1_0 := M.fr 1 rfl 0; have f1_1 := M.fr 1 rfl 1
        have z1_0 := M.cell 1 rfl 0 rfl; have z1_1 := M.cell 1 rfl 1 rfl
        refine one_op 10 rfl (fun Ks30 hK => ?_)
        go_simp
        have M' := ((M.put 1 rfl rfl 0 (.bool false)).put 1 rfl rfl 1 (.slice a2 Lx.length c2))
        clear M f1_0 z1_0 f1_1 z1_1
        simp only [List.set_cons_zero, List.set_cons_succ] at M'
        have M := M'
        clear M'
        refine hK _ _ ⟨⟨M.box 5 rfl, M.box 4 rfl, M.box 2 rfl⟩, ?_⟩
        clear hK Ks30
        have f0_0 := M.fr 0 rfl 0; have f0_1 := M.fr 0 rfl 1
        have z0_0 := M.cell 0 rfl 0 rfl; have z0_1 := M.cell 0 rfl 1 rfl
        refine one_op 11 rfl (fun Ks31 hK => ?_)
        go_simp
        have M' := ((M.put 0 rfl rfl 0 (.bool false)).put 0 rfl rfl 1 (.slice a3 Ly.length c3))
        clear M f0_0 z0_0 f0_1 z0_1
        simp only [List.set_cons_zero, List.set_cons_succ] at M'
        have M := M'
        clear M'
        refine hK _ _ ⟨⟨M.box 5 rfl, M.box 4 rfl, M.box 2 rfl⟩, ?_⟩
        clear hK Ks31
        refine wdn ?_
        exact ⟨rfl, b7, b8, a2, c2, a3, c3, rfl, M⟩
    · refine wpOp_intro rfl (fun K24 hK => ?_)
      go_simp
      obtain ⟨b8, V24_9, hV, hb, M'⟩ := M.fresh 42 [.bool false, .slice none 0 0]
      rw [← hV, ← hb]
      clear M hV hb; have M := M'; clear M'
      refine hK _ _ ⟨⟨M.box 5 rfl, M.box 4 rfl, M.box 2 rfl⟩, ?_⟩
      clear hK K24
      refine one_op 3 rfl (fun K32 hK => ?_)
      go_simp
      refine (kx _ (M.get 3 rfl) (M.get 0 rfl)).mono ?_
      rintro e V32_3 ⟨a2, c2, rfl, g, rr⟩
      have M' := M.upadd rr g
      clear M rr g
      have M := M'; clear M'
      refine hK _ _ ⟨⟨M.box 5 rfl, M.box 4 rfl, M.box 2 rfl⟩, ?_⟩
      clear hK K32
      refine one_op 7 rfl (fun K33 hK => ?_)
      go_simp
      refine (ky _ (M.get 2 rfl) (M.get 1 rfl)).mono ?_
      rintro e V33_7 ⟨a3, c3, rfl, g, rr⟩
      have M' := M.upadd rr g
      clear M rr g
      have M := M'; clear M'
      refine hK _ _ ⟨⟨M.box 5 rfl, M.box 4 rfl, M.box 2 rfl⟩, ?_⟩
      clear hK K33
      have f1_0 := M.fr 1 rfl 0; have f1_1 := M.fr 1 rfl 1
      have z1_0 := M.cell 1 rfl 0 rfl; have z1_1 := M.cell 1 rfl 1 rfl
      refine one_op 10 rfl (fun Ks34 hK => ?_)
      go_simp
      have M' := ((M.put 1 rfl rfl 0 (.bool false)).put 1 rfl rfl 1 (.slice a2 Lx.length c2))
      clear M f1_0 z1_0 f1_1 z1_1
      simp only [List.set_cons_zero, List.set_cons_succ] at M'
      have M := M'
      clear M'
      refine hK _ _ ⟨⟨M.box 5 rfl, M.box 4 rfl, M.box 2 rfl⟩, ?_⟩
      clear hK Ks34
      have f0_0 := M.fr 0 rfl 0; have f0_1 := M.fr 0 rfl 1
      have z0_0 := M.cell 0 rfl 0 rfl; have z0_1 := M.cell 0 rfl 1 rfl
      refine one_op 11 rfl (fun Ks35 hK => ?_)
      go_simp
      have M' := ((M.put 0 rfl rfl 0 (.bool false)).put 0 rfl rfl 1 (.slice a3 Ly.length c3))
      clear M f0_0 z0_0 f0_1 z0_1
      simp only [List.set_cons_zero, List.set_cons_succ] at M'
      have M := M'
      clear M'
      refine hK _ _ ⟨⟨M.box 5 rfl, M.box 4 rfl, M.box 2 rfl⟩, ?_⟩
      clear hK Ks35
      refine wdn ?_
      exact ⟨rfl, b7, b8, a2, c2, a3, c3, rfl, M⟩
  · refine wpOp_intro rfl (fun K1 hK => ?_)
    go_simp
    obtain ⟨b8, V1_9, hV, hb, M'⟩ := M.fresh 42 [.bool false, .slice none 0 0]
    rw [← hV, ← hb]
    clear M hV hb; have M := M'; clear M'
    refine hK _ _ ⟨⟨M.box 4 rfl, M.box 3 rfl, M.box 1 rfl⟩, ?_⟩
    clear hK K1
    refine two_op 3 8 ?_ ?_
    · refine wpOp_intro rfl (fun K36 hK => ?_)
      go_simp
      refine (kx _ (M.get 3 rfl) (M.get 0 rfl)).mono ?_
      rintro e V36_3 ⟨a2, c2, rfl, g, rr⟩
      have M' := M.upadd rr g
      clear M rr g
      have M := M'; clear M'
      refine hK _ _ ⟨⟨M.box 4 rfl, M.box 3 rfl, M.box 1 rfl⟩, ?_⟩
      clear hK K36
      refine two_op 7 8 ?_ ?_
      · refine wpOp_intro rfl (fun K37 hK => ?_)
        go_simp
        refine (ky _ (M.get 2 rfl) (M.get 1 rfl)).mono ?_
        rintro e V37_7 ⟨a3, c3, rfl, g, rr⟩
        have M' := M.upadd rr g
        clear M rr g
        have M := M'; clear M'
        refine hK _ _ ⟨⟨M.box 4 rfl, M.box 3 rfl, M.box 1 rfl⟩, ?_⟩
        clear hK K37
        refine one_op 8 rfl (fun K38 hK => ?_)
        go_simp
        obtain ⟨b7, V38_8, hV, hb, M'⟩ := M.fresh 42 [.bool false, .slice none 0 0]
        rw [← hV, ← hb]
        clear M hV hb; have M := M'; clear M'
        refine hK _ _ ⟨⟨M.box 5 rfl, M.box 4 rfl, M.box 2 rfl⟩, ?_⟩
        clear hK K38
        have f0_0 := M.fr 0 rfl 0; have f0_1 := M.fr 0 rfl 1
        have z0_0 := M.cell 0 rfl 0 rfl; have z0_1 := M.cell 0 rfl 1 rfl
        refine one_op 10 rfl (fun Ks39 hK => ?_)
        go_simp
        have M' := ((M.put 0 rfl rfl 0 (.bool false)).put 0 rfl rfl 1 (.slice a2 Lx.length c2))
        clear M f0_0 z0_0 f0_1 z0_1
        simp only [List.set_cons_zero, List.set_cons_succ] at M'
        have M := M'
        clear M'
        refine hK _ _ ⟨⟨M.box 5 rfl, M.box 4 rfl, M.box 2 rfl⟩, ?_⟩
        clear hK Ks39
        have f1_0 := M.fr 1 rfl 0; have f1_1 := M.fr 1 rfl 1
        have z1_0 := M.cell 1 rfl 0 rfl; have z1_1 := M.cell 1 rfl 1 rfl
        refine one_op 11 rfl (fun Ks40 hK => ?_)
        go_simp
        have M' := ((M.put 1 rfl rfl 0 (.bool false)).put 1 rfl rfl 1 (.slice a3 Ly.length c3))
        clear M f1_0 z1_0 f1_1 z1_1
        simp only [List.set_cons_zero, List.set_cons_succ] at M'
        have M := M'
        clear M'
        refine hK _ _ ⟨⟨M.box 5 rfl, M.box 4 rfl, M.box 2 rfl⟩, ?_⟩
        clear hK Ks40
        refine wdn ?_
        have M' := M.swap; clear M; have M := M'; clear M'
        exact ⟨rfl, b7, b8, a2, c2, a3, c3, rfl, M⟩
      · refine wpOp_intro rfl (fun K37 hK => ?_)
        go_simp
        obtain ⟨b7, V37_8, hV, hb, M'⟩ := M.fresh 42 [.bool false, .slice none 0 0]
        rw [← hV, ← hb]
        clear M hV hb; have M := M'; clear M'
        refine hK _ _ ⟨⟨M.box 5 rfl, M.box 4 rfl, M.box 2 rfl⟩, ?_⟩
        clear hK K37
        refine one_op 7 rfl (fun K41 hK => ?_)
        go_simp
        refine (ky _ (M.get 2 rfl) (M.get 1 rfl)).mono ?_
        rintro e V41_7 ⟨a3, c3, rfl, g, rr⟩
        have M' := M.upadd rr g
        clear M rr g
        have M := M'; clear M'
        refine hK _ _ ⟨⟨M.box 5 rfl, M.box 4 rfl, M.box 2 rfl⟩, ?_⟩
        clear hK K41
        have f0_0 := M.fr 0 rfl 0; have f0_1 := M.fr 0 rfl 1
        have z0_0 := M.cell 0 rfl 0 rfl; have z0_1 := M.cell 0 rfl 1 rfl
        refine one_op 10 rfl (fun Ks42 hK => ?_)
        go_simp
        have M' := ((M.put 0 rfl rfl 0 (.bool false)).put 0 rfl rfl 1 (.slice a2 Lx.length c2))
        clear M f0_0 z0_0 f0_1 z0_1
        simp only [List.set_cons_zero, List.set_cons_succ] at M'
        have M := M'
        clear M'
        refine hK _ _ ⟨⟨M.box 5 rfl, M.box 4 rfl, M.box 2 rfl⟩, ?_⟩
        clear hK Ks42
        have f1_0 := M.fr 1 rfl 0; have f1_1 := M.fr 1 rfl 1
        have z1_0 := M.cell 1 rfl 0 rfl; have z1_1 := M.cell 1 rfl 1 rfl
        refine one_op 11 rfl (fun Ks43 hK => ?_)
        go_simp
        have M' := ((M.put 1 rfl rfl 0 (.bool false)).put 1 rfl rfl 1 (.slice a3 Ly.length c3))
        clear M f1_0 z1_0 f1_1 z1_1
        simp only [List.set_cons_zero, List.set_cons_succ] at M'
        have M := M'
        clear M'
        refine hK _ _ ⟨⟨M.box 5 rfl, M.box 4 rfl, M.box 2 rfl⟩, ?_⟩
        clear hK Ks43
        refine wdn ?_
        have M' := M.swap; clear M; have M := M'; clear M'
        exact ⟨rfl, b7, b8, a2, c2, a3, c3, rfl, M⟩
    · refine wpOp_intro rfl (fun K36 hK => ?_)
      go_simp
      obtain ⟨b7, V36_8, hV, hb, M'⟩ := M.fresh 42 [.bool false, .slice none 0 0]
      rw [← hV, ← hb]
      clear M hV hb; have M := M'; clear M'
      refine hK _ _ ⟨⟨M.box 5 rfl, M.box 4 rfl, M.box 2 rfl⟩, ?_⟩
      clear hK K36
      refine one_op 3 rfl (fun K44 hK => ?_)
      go_simp
      refine (kx _ (M.get 3 rfl) (M.get 0 rfl)).mono ?_
      rintro e V44_3 ⟨a2, c2, rfl, g, rr⟩
      have M' := M.upadd rr g
      clear M rr g
      have M := M'; clear M'
      refine hK _ _ ⟨⟨M.box 5 rfl, M.box 4 rfl, M.box 2 rfl⟩, ?_⟩
      clear hK K44
      refine one_op 7 rfl (fun K45 hK => ?_)
      go_simp
      refine (ky _ (M.get 2 rfl) (M.get 1 rfl)).mono ?_
      rintro e V45_7 ⟨a3, c3, rfl, g, rr⟩
      have M' := M.upadd rr g
      clear M rr g
      have M := M'; clear M'
      refine hK _ _ ⟨⟨M.box 5 rfl, M.box 4 rfl, M.box 2 rfl⟩, ?_⟩
      clear hK K45
      have f0_0 := M.fr 0 rfl 0; have f0_1 := M.fr 0 rfl 1
      have z0_0 := M.cell 0 rfl 0 rfl; have z0_1 := M.cell 0 rfl 1 rfl
      refine one_op 10 rfl (fun Ks46 hK => ?_)
      go_simp
      have M' := ((M.put 0 rfl rfl 0 (.bool false)).put 0 rfl rfl 1 (.slice a2 Lx.length c2))
      clear M f0_0 z0_0 f0_1 z0_1
      simp only [List.set_cons_zero, List.set_cons_succ] at M'
      have M := M'
      clear M'
      refine hK _ _ ⟨⟨M.box 5 rfl, M.box 4 rfl, M.box 2 rfl⟩, ?_⟩
      clear hK Ks46
      have f1_0 := M.fr 1 rfl 0; have f1_1 := M.fr 1 rfl 1
      have z1_0 := M.cell 1 rfl 0 rfl; have z1_1 := M.cell 1 rfl 1 rfl
      refine one_op 11 rfl (fun Ks47 hK => ?_)
      go_simp
      have M' := ((M.put 1 rfl rfl 0 (.bool false)).put 1 rfl rfl 1 (.slice a3 Ly.length c3))
      clear M f1_0 z1_0 f1_1 z1_1
      simp only [List.set_cons_zero, List.set_cons_succ] at M'
      have M := M'
      clear M'
      refine hK _ _ ⟨⟨M.box 5 rfl, M.box 4 rfl, M.box 2 rfl⟩, ?_⟩
      clear hK Ks47
      refine wdn ?_
      have M' := M.swap; clear M; have M := M'; clear M'
      exact ⟨rfl, b7, b8, a2, c2, a3, c3, rfl, M⟩
 intro b7 b8 a2 c2 a3 c3 V M
 go_wp2
 apply region_cut_nsss (Fact := (fun b9 a4 c4 a5 c5 a6 c6 W => MemO 4 w [(b9, 42, [.bool sZ, .slice a6 LS.length c6]), (b8, 42, [.bool false, .slice a3 Ly.length c3]), (b7, 42, [.bool false, .slice a2 Lx.length c2]), (b6, 42, [.bool false, .slice a1 Lg.length c1]), (w.heap.size + 1 + 1, 44, [.bool false, .slice none 0 0, .slice none 0 0]), (w.heap.size + 1, 93, [.bool sY, .slice aY LY.length cY, .bool false, .slice oY DY.length rY]), (w.heap.size, 93, [.bool sX, .slice aX LX.length cX, .bool false, .slice oX DX.length rX])] [(.slice a6 LS.length c6, LS), (.slice a5 LQ.length c5, LQ), (.slice a4 LP.length c4, LP), (.slice a3 Ly.length c3, Ly), (.slice a2 Lx.length c2, Lx), (.slice a1 Lg.length c1, Lg), (.slice oY DY.length rY, DY), (.slice aY LY.length cY, LY), (.slice oX DX.length rX, DX), (.slice aX LX.length cX, LX)] W))
 case first =>
  refine region_memO (S := (fun W => BoxN W (w.heap.size) 93 #[.bool sX, .slice aX LX.length cX, .bool false, .slice oX DX.length rX] ∧ BoxN W (w.heap.size + 1) 93 #[.bool sY, .slice aY LY.length cY, .bool false, .slice oY DY.length rY] ∧ BoxN W (b7) 42 #[.bool false, .slice a2 Lx.length c2] ∧ BoxN W (b8) 42 #[.bool false, .slice a3 Ly.length c3] ∧ BoxN W (cb) 114 #[.func (.func J) #[] #[]])) M (by kernel_rfl) ?_
  intro V0 M
  have hS0 : (fun W => BoxN W (w.heap.size) 93 #[.bool sX, .slice aX LX.length cX, .bool false, .slice oX DX.length rX] ∧ BoxN W (w.heap.size + 1) 93 #[.bool sY, .slice aY LY.length cY, .bool false, .slice oY DY.length rY] ∧ BoxN W (b7) 42 #[.bool false, .slice a2 Lx.length c2] ∧ BoxN W (b8) 42 #[.bool false, .slice a3 Ly.length c3] ∧ BoxN W (cb) 114 #[.func (.func J) #[] #[]]) V0 := ⟨M.box 5 rfl, M.box 4 rfl, M.box 1 rfl, M.box 0 rfl, M.old hcb⟩
  refine wtk 0 (.func (.func J) #[] #[]) rfl (fun _ _ _ h => nomatch h.1) (Or.inl ⟨by rfl, fun W3 hS => by obtain ⟨hS1, hS2, hS3, hS4, hS5⟩ := hS; have c5_0 := hS5.cell 0 _ rfl; go_simp⟩) hS0 ?_
  refine wtk 1 (.pointer (some ⟨w.heap.size, 0, none⟩)) rfl (fun _ _ _ h => nomatch h.1) (Or.inl ⟨by rfl, fun W3 hS => by obtain ⟨hS1, hS2, hS3, hS4, hS5⟩ := hS; go_simp⟩) hS0 ?_
  refine wtk 2 (.agg #[.bool sX, .slice aX LX.length cX]) rfl (fun _ _ _ h => nomatch h.1) (Or.inl ⟨by rfl, fun W3 hS => by obtain ⟨hS1, hS2, hS3, hS4, hS5⟩ := hS; have c1_0 := hS1.cell 0 _ rfl; have c1_1 := hS1.cell 1 _ rfl; have c1_2 := hS1.cell 2 _ rfl; have c1_3 := hS1.cell 3 _ rfl; go_simp⟩) hS0 ?_
  refine wtk 3 (.agg #[.bool false, .slice a3 Ly.length c3]) rfl (fun _ _ _ h => nomatch h.1) (Or.inl ⟨by rfl, fun W3 hS => by obtain ⟨hS1, hS2, hS3, hS4, hS5⟩ := hS; have c4_0 := hS4.cell 0 _ rfl; have c4_1 := hS4.cell 1 _ rfl; go_simp⟩) hS0 ?_
  refine wtk 5 (.pointer (some ⟨w.heap.size + 1, 0, none⟩)) rfl (fun _ _ _ h => nomatch h.1) (Or.inl ⟨by rfl, fun W3 hS => by obtain ⟨hS1, hS2, hS3, hS4, hS5⟩ := hS; go_simp⟩) hS0 ?_
  refine wtk 6 (.agg #[.bool sY, .slice aY LY.length cY]) rfl (fun _ _ _ h => nomatch h.1) (Or.inl ⟨by rfl, fun W3 hS => by obtain ⟨hS1, hS2, hS3, hS4, hS5⟩ := hS; have c2_0 := hS2.cell 0 _ rfl; have c2_1 := hS2.cell 1 _ rfl; have c2_2 := hS2.cell 2 _ rfl; have c2_3 := hS2.cell 3 _ rfl; go_simp⟩) hS0 ?_
  refine wtk 7 (.agg #[.bool false, .slice a2 Lx.length c2]) rfl (fun _ _ _ h => nomatch h.1) (Or.inl ⟨by rfl, fun W3 hS => by obtain ⟨hS1, hS2, hS3, hS4, hS5⟩ := hS; have c3_0 := hS3.cell 0 _ rfl; have c3_1 := hS3.cell 1 _ rfl; go_simp⟩) hS0 ?_
  clear hS0
  try simp only [Act.put, List.setIfInBounds_toArray, List.set_cons_zero, List.set_cons_succ]
  refine two_op 4 10 ?_ ?_
  · refine wpOp_intro rfl (fun K1 hK => ?_)
    go_simp
    refine (kp _ (M.get 6 rfl) (M.get 0 rfl)).mono ?_
    rintro e V1_4 ⟨a4, c4, rfl, g, rr⟩
    have M' := M.upadd rr g
    clear M rr g
    have M := M'; clear M'
    refine hK _ _ ⟨⟨M.box 5 rfl, M.box 4 rfl, M.box 1 rfl, M.box 0 rfl, M.old hcb⟩, ?_⟩
    clear hK K1
    refine two_op 8 10 ?_ ?_
    · refine wpOp_intro rfl (fun K2 hK => ?_)
      go_simp
      refine (kq _ (M.get 5 rfl) (M.get 2 rfl)).mono ?_
      rintro e V2_8 ⟨a5, c5, rfl, g, rr⟩
      have M' := M.upadd rr g
      clear M rr g
      have M := M'; clear M'
      refine hK _ _ ⟨⟨M.box 5 rfl, M.box 4 rfl, M.box 1 rfl, M.box 0 rfl, M.old hcb⟩, ?_⟩
      clear hK K2
      refine two_op 9 10 ?_ ?_
      · refine wpOp_intro rfl (fun K3 hK => ?_)
        go_simp
        refine (ks _ (M.get 1 rfl) (M.get 0 rfl)).mono ?_
        rintro e V3_9 ⟨a6, c6, rfl, g, rr⟩
        have M' := M.upadd rr g
        clear M rr g
        have M := M'; clear M'
        refine hK _ _ ⟨⟨M.box 5 rfl, M.box 4 rfl, M.box 1 rfl, M.box 0 rfl, M.old hcb⟩, ?_⟩
        clear hK K3
        refine one_op 10 rfl (fun K4 hK => ?_)
        go_simp
        obtain ⟨b9, V4_10, hV, hb, M'⟩ := M.fresh 42 [.bool false, .slice none 0 0]
        rw [← hV, ← hb]
        clear M hV hb; have M := M'; clear M'
        refine hK _ _ ⟨⟨M.box 6 rfl, M.box 5 rfl, M.box 2 rfl, M.box 1 rfl, M.old hcb⟩, ?_⟩
        clear hK K4
        have f0_0 := M.fr 0 rfl 0; have f0_1 := M.fr 0 rfl 1
        have z0_0 := M.cell 0 rfl 0 rfl; have z0_1 := M.cell 0 rfl 1 rfl
        refine one_op 11 rfl (fun Ks5 hK => ?_)
        go_simp
        have M' := ((M.put 0 rfl rfl 0 (.bool sZ)).put 0 rfl rfl 1 (.slice a6 LS.length c6))
        clear M f0_0 z0_0 f0_1 z0_1
        simp only [List.set_cons_zero, List.set_cons_succ] at M'
        have M := M'
        clear M'
        refine hK _ _ ⟨⟨M.box 6 rfl, M.box 5 rfl, M.box 2 rfl, M.box 1 rfl, M.old hcb⟩, ?_⟩
        clear hK Ks5
        refine wdn ?_
        exact ⟨rfl, b9, a4, c4, a5, c5, a6, c6, rfl, M⟩
      · refine wpOp_intro rfl (fun K3 hK => ?_)
        go_simp
        obtain ⟨b9, V3_10, hV, hb, M'⟩ := M.fresh 42 [.bool false, .slice none 0 0]
        rw [← hV, ← hb]
        clear M hV hb; have M := M'; clear M'
        refine hK _ _ ⟨⟨M.box 6 rfl, M.box 5 rfl, M.box 2 rfl, M.box 1 rfl, M.old hcb⟩, ?_⟩
        clear hK K3
        refine one_op 9 rfl (fun K6 hK => ?_)
        go_simp
        refine (ks _ (M.get 1 rfl) (M.get 0 rfl)).mono ?_
        rintro e V6_9 ⟨a6, c6, rfl, g, rr⟩
        have M' := M.upadd rr g
        clear M rr g
        have M := M'; clear M'
        refine hK _ _ ⟨⟨M.box 6 rfl, M.box 5 rfl, M.box 2 rfl, M.box 1 rfl, M.old hcb⟩, ?_⟩
        clear hK K6
        have f0_0 := M.fr 0 rfl 0; have f0_1 := M.fr 0 rfl 1
        have z0_0 := M.cell 0 rfl 0 rfl; have z0_1 := M.cell 0 rfl 1 rfl
        refine one_op 11 rfl (fun Ks7 hK => ?_)
        go_simp
        have M' := ((M.put 0 rfl rfl 0 (.bool sZ)).put 0 rfl rfl 1 (.slice a6 LS.length c6))
        clear M f0_0 z0_0 f0_1 z0_1
        simp only [List.set_cons_zero, List.set_cons_succ] at M'
        have M := M'
        clear M'
        refine hK _ _ ⟨⟨M.box 6 rfl, M.box 5 rfl, M.box 2 rfl, M.box 1 rfl, M.old hcb⟩, ?_⟩
        clear hK Ks7
        refine wdn ?_
        exact ⟨rfl, b9, a4, c4, a5, c5, a6, c6, rfl, M⟩
    · refine wpOp_intro rfl (fun K2 hK => ?_)
      go_simp
      obtain ⟨b9, V2_10, hV, hb, M'⟩ := M.fresh 42 [.bool false, .slice none 0 0]
      rw [← hV, ← hb]
      clear M hV hb; have M := M'; clear M'
      refine hK _ _ ⟨⟨M.box 6 rfl, M.box 5 rfl, M.box 2 rfl, M.box 1 rfl, M.old hcb⟩, ?_⟩
      clear hK K2
      refine one_op 8 rfl (fun K8 hK => ?_)
      go_simp
      refine (kq _ (M.get 5 rfl) (M.get 2 rfl)).mono ?_
      rintro e V8_8 ⟨a5, c5, rfl, g, rr⟩
      have M' := M.upadd rr g
      clear M rr g
      have M := M'; clear M'
      refine hK _ _ ⟨⟨M.box 6 rfl, M.box 5 rfl, M.box 2 rfl, M.box 1 rfl, M.old hcb⟩, ?_⟩
      clear hK K8
      refine one_op 9 rfl (fun K9 hK => ?_)
      go_simp
      refine (ks _ (M.get 1 rfl) (M.get 0 rfl)).mono ?_
      rintro e V9_9 ⟨a6, c6, rfl, g, rr⟩
      have M' := M.upadd rr g
      clear M rr g
      have M := M'; clear M'
      refine hK _ _ ⟨⟨M.box 6 rfl, M.box 5 rfl, M.box 2 rfl, M.box 1 rfl, M.old hcb⟩, ?_⟩
      clear hK K9
      have f0_0 := M.fr 0 rfl 0; have f0_1 := M.fr 0 rfl 1
      have z0_0 := M.cell 0 rfl 0 rfl; have z0_1 := M.cell 0 rfl 1 rfl
      refine one_op 11 rfl (fun Ks10 hK => ?_)
      go_simp
      have M' := ((M.put 0 rfl rfl 0 (.bool sZ)).put 0 rfl rfl 1 (.slice a6 LS.length c6))
      clear M f0_0 z0_0 f0_1 z0_1
      simp only [List.set_cons_zero, List.set_cons_succ] at M'
      have M := M'
      clear M'
      refine hK _ _ ⟨⟨M.box 6 rfl, M.box 5 rfl, M.box 2 rfl, M.box 1 rfl, M.old hcb⟩, ?_⟩
      clear hK Ks10
      refine wdn ?_
      exact ⟨rfl, b9, a4, c4, a5, c5, a6, c6, rfl, M⟩
  · refine wpOp_intro rfl (fun K1 hK => ?_)
    go_simp
    obtain ⟨b9, V1_10, hV, hb, M'⟩ := M.fresh 42 [.bool false, .slice none 0 0]
    rw [← hV, ← hb]
    clear M hV hb; have M := M'; clear M'
    refine hK _ _ ⟨⟨M.box 6 rfl, M.box 5 rfl, M.box 2 rfl, M.box 1 rfl, M.old hcb⟩, ?_⟩
    clear hK K1
    refine one_op 4 rfl (fun K11 hK => ?_)
    go_simp
    refine (kp _ (M.get 6 rfl) (M.get 0 rfl)).mono ?_
    rintro e V11_4 ⟨a4, c4, rfl, g, rr⟩
    have M' := M.upadd rr g
    clear M rr g
    have M := M'; clear M'
    refine hK _ _ ⟨⟨M.box 6 rfl, M.box 5 rfl, M.box 2 rfl, M.box 1 rfl, M.old hcb⟩, ?_⟩
    clear hK K11
    refine one_op 8 rfl (fun K12 hK => ?_)
    go_simp
    refine (kq _ (M.get 5 rfl) (M.get 2 rfl)).mono ?_
    rintro e V12_8 ⟨a5, c5, rfl, g, rr⟩
    have M' := M.upadd rr g
    clear M rr g
    have M := M'; clear M'
    refine hK _ _ ⟨⟨M.box 6 rfl, M.box 5 rfl, M.box 2 rfl, M.box 1 rfl, M.old hcb⟩, ?_⟩
    clear hK K12
    refine one_op 9 rfl (fun K13 hK => ?_)
    go_simp
    refine (ks _ (M.get 1 rfl) (M.get 0 rfl)).mono ?_
    rintro e V13_9 ⟨a6, c6, rfl, g, rr⟩
    have M' := M.upadd rr g
    clear M rr g
    have M := M'; clear M'
    refine hK _ _ ⟨⟨M.box 6 rfl, M.box 5 rfl, M.box 2 rfl, M.box 1 rfl, M.old hcb⟩, ?_⟩
    clear hK K13
    have f0_0 := M.fr 0 rfl 0; have f0_1 := M.fr 0 rfl 1
    have z0_0 := M.cell 0 rfl 0 rfl; have z0_1 := M.cell 0 rfl 1 rfl
    refine one_op 11 rfl (fun Ks14 hK => ?_)
    go_simp
    have M' := ((M.put 0 rfl rfl 0 (.bool sZ)).put 0 rfl rfl 1 (.slice a6 LS.length c6))
    clear M f0_0 z0_0 f0_1 z0_1
    simp only [List.set_cons_zero, List.set_cons_succ] at M'
    have M := M'
    clear M'
    refine hK _ _ ⟨⟨M.box 6 rfl, M.box 5 rfl, M.box 2 rfl, M.box 1 rfl, M.old hcb⟩, ?_⟩
    clear hK Ks14
    refine wdn ?_
    exact ⟨rfl, b9, a4, c4, a5, c5, a6, c6, rfl, M⟩
 intro b9 a4 c4 a5 c5 a6 c6 V M
 have z0_0 := M.cell 0 rfl 0 rfl; have z0_1 := M.cell 0 rfl 1 rfl; have z3_0 := M.cell 3 rfl 0 rfl; have z3_1 := M.cell 3 rfl 1 rfl
 go_wp2_with (go_at_call 106; refine (kt _ (M.get 0 rfl) (M.get 5 rfl)).mono ?_; rintro e w2 ⟨a7, c7, rfl, g, rr⟩; have M' := (M.upadd rr g).new 42 [.bool false, .slice a7 Lt.length c7]; clear M rr g; have M := M'; clear M')
 clear z0_0 z0_1 z3_0 z3_1
 obtain ⟨b10, W2, hb6, hW1⟩ : ∃ b V, b = w2.heap.size ∧ V = w2.alloc (.cells #[.bool false, .slice a7 Lt.length c7] 42) := ⟨_, _, rfl, rfl⟩
 rw [← hb6, ← hW1] at M ⊢
 clear hb6 hW1
 refine region_memO (S := (fun W => BoxN W (w.heap.size + 1) 93 #[.bool sY, .slice aY LY.length cY, .bool false, .slice oY DY.length rY] ∧ BoxN W (b7) 42 #[.bool false, .slice a2 Lx.length c2] ∧ BoxN W (b9) 42 #[.bool sZ, .slice a6 LS.length c6] ∧ BoxN W (b10) 42 #[.bool false, .slice a7 Lt.length c7])) M (by kernel_rfl) ?_
 intro V0 M
 have hS0 : (fun W => BoxN W (w.heap.size + 1) 93 #[.bool sY, .slice aY LY.length cY, .bool false, .slice oY DY.length rY] ∧ BoxN W (b7) 42 #[.bool false, .slice a2 Lx.length c2] ∧ BoxN W (b9) 42 #[.bool sZ, .slice a6 LS.length c6] ∧ BoxN W (b10) 42 #[.bool false, .slice a7 Lt.length c7]) V0 := ⟨M.box 6 rfl, M.box 3 rfl, M.box 1 rfl, M.box 0 rfl⟩
 refine wtk 0 (.agg #[.bool sZ, .slice a6 LS.length c6]) rfl (fun _ _ _ h => h) (Or.inl ⟨by rfl, fun W3 hS => by obtain ⟨hS1, hS2, hS3, hS4⟩ := hS; have c3_0 := hS3.cell 0 _ rfl; have c3_1 := hS3.cell 1 _ rfl; go_simp⟩) hS0 ?_
 refine wtk 1 (.agg #[.bool false, .slice a7 Lt.length c7]) rfl (fun _ _ _ h => h) (Or.inl ⟨by rfl, fun W3 hS => by obtain ⟨hS1, hS2, hS3, hS4⟩ := hS; have c4_0 := hS4.cell 0 _ rfl; have c4_1 := hS4.cell 1 _ rfl; go_simp⟩) hS0 ?_
 refine wtk 3 (.agg #[.bool false, .slice a2 Lx.length c2]) rfl (fun _ _ _ h => h) (Or.inl ⟨by rfl, fun W3 hS => by obtain ⟨hS1, hS2, hS3, hS4⟩ := hS; have c2_0 := hS2.cell 0 _ rfl; have c2_1 := hS2.cell 1 _ rfl; go_simp⟩) hS0 ?_
 refine wtk 4 (.pointer (some ⟨w.heap.size + 1, 2, none⟩)) rfl (fun _ _ _ h => h) (Or.inl ⟨by rfl, fun W3 hS => by obtain ⟨hS1, hS2, hS3, hS4⟩ := hS; go_simp⟩) hS0 ?_
 refine wtk 5 (.agg #[.bool false, .slice oY DY.length rY]) rfl (fun _ _ _ h => h) (Or.inl ⟨by rfl, fun W3 hS => by obtain ⟨hS1, hS2, hS3, hS4⟩ := hS; have c1_0 := hS1.cell 0 _ rfl; have c1_1 := hS1.cell 1 _ rfl; have c1_2 := hS1.cell 2 _ rfl; have c1_3 := hS1.cell 3 _ rfl; go_simp⟩) hS0 ?_
 refine wtk 6 (.agg #[.bool false, .slice a7 Lt.length c7]) rfl (fun _ _ _ h => h) (Or.inl ⟨by rfl, fun W3 hS => by obtain ⟨hS1, hS2, hS3, hS4⟩ := hS; have c4_0 := hS4.cell 0 _ rfl; have c4_1 := hS4.cell 1 _ rfl; go_simp⟩) hS0 ?_
 clear hS0
 try simp only [Act.put, List.setIfInBounds_toArray, List.set_cons_zero, List.set_cons_succ]
 refine one_op 2 rfl (fun K1 hK => ?_)
 go_simp
 refine (kn _ (M.get 1 rfl) (M.get 0 rfl)).mono ?_
 rintro e V1_2 ⟨a8, c8, rfl, g, rr⟩
 have M' := M.upadd rr g
 clear M rr g
 have M := M'; clear M'
 refine hK _ _ ⟨⟨M.box 6 rfl, M.box 3 rfl, M.box 1 rfl, M.box 0 rfl⟩, ?_⟩
 clear hK K1
 refine one_op 7 rfl (fun K2 hK => ?_)
 go_simp
 refine (kr _ (M.get 8 rfl) (M.get 1 rfl)).mono ?_
 rintro e V2_7 ⟨a9, c9, rfl, g, rr⟩
 have M' := M.upadd rr g
 clear M rr g
 have M := M'; clear M'
 refine hK _ _ ⟨⟨M.box 6 rfl, M.box 3 rfl, M.box 1 rfl, M.box 0 rfl⟩, ?_⟩
 clear hK K2
 refine one_op 8 rfl (fun K3 hK => ?_)
 go_simp
 refine (kd _ (M.get 7 rfl) (M.get 0 rfl)).mono ?_
 rintro e V3_8 ⟨a10, c10, rfl, g, rr⟩
 have M' := M.upadd rr g
 clear M rr g
 have M := M'; clear M'
 refine hK _ _ ⟨⟨M.box 6 rfl, M.box 3 rfl, M.box 1 rfl, M.box 0 rfl⟩, ?_⟩
 clear hK K3
 have hS0 : (fun W => BoxN W (w.heap.size + 1) 93 #[.bool sY, .slice aY LY.length cY, .bool false, .slice oY DY.length rY] ∧ BoxN W (b7) 42 #[.bool false, .slice a2 Lx.length c2] ∧ BoxN W (b9) 42 #[.bool sZ, .slice a6 LS.length c6] ∧ BoxN W (b10) 42 #[.bool false, .slice a7 Lt.length c7]) _ := ⟨M.box 6 rfl, M.box 3 rfl, M.box 1 rfl, M.box 0 rfl⟩
 refine wtk 9 (.agg #[.bool sZ, .slice a8 LZ.length c8, .bool false, .slice a10 DZ.length c10]) rfl (fun _ _ _ h => h) (Or.inl ⟨by rfl, fun W3 hS => by obtain ⟨hS1, hS2, hS3, hS4⟩ := hS; go_simp⟩) hS0 ?_
 clear hS0
 try simp only [Act.put, List.setIfInBounds_toArray, List.set_cons_zero, List.set_cons_succ]
 refine one_op 10 rfl (fun K4 hK => ?_)
 go_simp
 refine (fraction_any _ _ _ _ _ _ _ _ _).mono ?_
 rintro e V4_10 ⟨rfl, rr⟩
 have M' := M.up rr
 clear M rr 
 have M := M'; clear M'
 refine hK _ _ ⟨⟨M.box 6 rfl, M.box 3 rfl, M.box 1 rfl, M.box 0 rfl⟩, ?_⟩
 clear hK K4
 have f5_0 := M.fr 5 rfl 0; have f5_1 := M.fr 5 rfl 1; have f5_2 := M.fr 5 rfl 2
 have z5_0 := M.cell 5 rfl 0 rfl; have z5_1 := M.cell 5 rfl 1 rfl; have z5_2 := M.cell 5 rfl 2 rfl
 refine one_op 11 rfl (fun Ks5 hK => ?_)
 go_simp
 have M' := (((M.put 5 rfl rfl 0 (.bool sZ)).put 5 rfl rfl 1 (.slice a8 LZ.length c8)).put 5 rfl rfl 2 (.slice a10 DZ.length c10))
 clear M f5_0 z5_0 f5_1 z5_1 f5_2 z5_2
 simp only [List.set_cons_zero, List.set_cons_succ] at M'
 have M := M'
 clear M'
 refine hK _ _ ⟨⟨M.box 6 rfl, M.box 3 rfl, M.box 1 rfl, M.box 0 rfl⟩, ?_⟩
 clear hK Ks5
 refine wdn ?_
 go_wp2
 refine ret_boxN rfl rfl (M.box 5 rfl) Tryz.underlying44 size_rat rfl ?_
 exact ⟨a8, c8, a10, c10, rfl, M.own 2 rfl, M.own 0 rfl, M.below, (M.two 0 2 rfl rfl).symm⟩
end Go.Proofs.YtgmbaamfobhceaaGreat
