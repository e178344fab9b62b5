/- Fractions: products. -/
import Derived.Test.YtgmbaamfobhceaaGreatGRatB
set_option linter.unusedSimpArgs false
set_option linter.unusedVariables false
set_option maxRecDepth 100000
set_option maxHeartbeats 8000000
namespace Go.Proofs.YtgmbaamfobhceaaGreat
open Go Go.Proofs Go.RowKit Go.Shelf Nu
attribute [local go_sem] Oper.semAt_some
theorem canL {L : List Nat} {A : Nat} (h : L = digs A) : Can false L (A : Int) := ⟨by simp, by rw [Int.natAbs_natCast]; exact h⟩
theorem len_leN {n G m : Nat} (e : n = G * m) (h0 : G ≠ 0) : (digs m).length ≤ (digs n).length := digs_mono (by rw [e]; exact Nat.le_mul_of_pos_left _ (Nat.pos_of_ne_zero h0))
theorem len_le {n m : Int} {G : Nat} (e : n = G * m) (h0 : G ≠ 0) : (digs m.natAbs).length ≤ (digs n.natAbs).length := len_leN (by rw [e, Int.natAbs_mul]; rfl) h0
theorem gcd_le {a b : Nat} (h : b ≠ 0) : Nat.gcd a b ≤ b := Nat.le_of_dvd (Nat.pos_of_ne_zero h) (Nat.gcd_dvd_right a b)
theorem mulFn_any {w : World} {aX oX aY oY : Option Addr} {cX rX cY rY : Nat} {sX sY sZ : Bool} {LX DX LY DY LZ DZ : List Nat} {X Y Z : Rat} (kX : RCan sX LX DX X) (kY : RCan sY LY DY Y) (kZ : RCan sZ LZ DZ Z) (eZ : Z = X * Y) (b1 : LX.length ≤ 20000) (b2 : DX.length ≤ 20000) (b3 : LY.length ≤ 20000) (b4 : DY.length ≤ 20000) (g1 : Reads w (.slice aX LX.length cX) LX) (g2 : Reads w (.slice oX DX.length rX) DX) (g3 : Reads w (.slice aY LY.length cY) LY) (g4 : Reads w (.slice oY DY.length rY) DY) :
  Calls Tryz.prog 105 #[.agg #[.bool sX, .slice aX LX.length cX, .bool false, .slice oX DX.length rX], .agg #[.bool sY, .slice aY LY.length cY, .bool false, .slice oY DY.length rY]] w fun e w' => ∃ a c a' c', e = .returned (.agg #[.bool sZ, .slice a LZ.length c, .slice a' DZ.length c']) ∧ Reads w' (.slice a LZ.length c) LZ ∧ Reads w' (.slice a' DZ.length c') DZ ∧ Below w.heap.size w w' := by
 obtain ⟨d, u, a, b, p, q, hd, hu, d0, u0, e1, e2, e3, e4, e5, e6⟩ := rmul_parts X Y
 rw [← eZ] at e5 e6
 obtain ⟨Ld, hLd⟩ : ∃ L, L = digs d := ⟨_, rfl⟩
 obtain ⟨Lu, hLu⟩ : ∃ L, L = digs u := ⟨_, rfl⟩
 obtain ⟨Lp, hLp⟩ : ∃ L, L = digs p.natAbs := ⟨_, rfl⟩
 obtain ⟨Lq, hLq⟩ : ∃ L, L = digs q.natAbs := ⟨_, rfl⟩
 obtain ⟨La, hLa⟩ : ∃ L, L = digs a := ⟨_, rfl⟩
 obtain ⟨Lb, hLb⟩ : ∃ L, L = digs b := ⟨_, rfl⟩
 have cp := kX.1.div e1 d0
 have cq := kY.1.div e2 u0
 rw [← hLp] at cp
 rw [← hLq] at cq
 have ca := canL hLa
 have cb := canL hLb
 have lp : Lp.length ≤ 20000 := by rw [hLp]; have := len_le e1 d0; rw [← kX.1.2] at this; omega
 have lq : Lq.length ≤ 20000 := by rw [hLq]; have := len_le e2 u0; rw [← kY.1.2] at this; omega
 have la : La.length ≤ 20000 := by rw [hLa]; have := len_leN e3 u0; rw [← kX.2] at this; omega
 have lb : Lb.length ≤ 20000 := by rw [hLb]; have := len_leN e4 d0; rw [← kY.2] at this; omega
 have ld : Ld.length ≤ 20000 := by rw [hLd]; have := digs_mono (gcd_le (a := X.num.natAbs) Y.den_nz); rw [← hd, ← kY.2] at this; omega
 have lu : Lu.length ≤ 20000 := by rw [hLu]; have := digs_mono (gcd_le (a := Y.num.natAbs) X.den_nz); rw [← hu, ← kX.2] at this; omega
 have kd := fun (W : World) {p1 p2 : Option Addr} {q1 q2 : Nat} (h1 : Reads W (.slice p1 LX.length q1) LX) (h2 : Reads W (.slice p2 DY.length q2) DY) => common_any (s1 := sX) (s2 := false) (L3 := Ld) kX.1.2 kY.2 (by rw [hLd, hd]) (by omega) (by omega) h1 h2
 have ku := fun (W : World) {p1 p2 : Option Addr} {q1 q2 : Nat} (h1 : Reads W (.slice p1 LY.length q1) LY) (h2 : Reads W (.slice p2 DX.length q2) DX) => common_any (s1 := sY) (s2 := false) (L3 := Lu) kY.1.2 kX.2 (by rw [hLu, hu]) (by omega) (by omega) h1 h2
 have kp := fun (W : World) {p1 p2 : Option Addr} {q1 q2 : Nat} (h1 : Reads W (.slice p1 LX.length q1) LX) (h2 : Reads W (.slice p2 Ld.length q2) Ld) => over_any (s2 := false) kX.1 hLd cp e1 d0 (by omega) (by omega) h1 h2
 have kq := fun (W : World) {p1 p2 : Option Addr} {q1 q2 : Nat} (h1 : Reads W (.slice p1 LY.length q1) LY) (h2 : Reads W (.slice p2 Lu.length q2) Lu) => over_any (s2 := false) kY.1 hLu cq e2 u0 (by omega) (by omega) h1 h2
 have km := fun (W : World) {p1 p2 : Option Addr} {q1 q2 : Nat} (h1 : Reads W (.slice p1 Lp.length q1) Lp) (h2 : Reads W (.slice p2 Lq.length q2) Lq) => q_mul cp.is cq.is kZ.1 e5 (by omega) (by omega) h1 h2
 have ka := fun (W : World) {p1 p2 : Option Addr} {q1 q2 : Nat} (h1 : Reads W (.slice p1 DX.length q1) DX) (h2 : Reads W (.slice p2 Lu.length q2) Lu) => over_any (s2 := false) (canL kX.2) hLu ca (by rw [e3]; push_cast; rfl) u0 (by omega) (by omega) h1 h2
 have kb := fun (W : World) {p1 p2 : Option Addr} {q1 q2 : Nat} (h1 : Reads W (.slice p1 DY.length q1) DY) (h2 : Reads W (.slice p2 Ld.length q2) Ld) => over_any (s2 := false) (canL kY.2) hLd cb (by rw [e4]; push_cast; rfl) d0 (by omega) (by omega) h1 h2
 have kn := fun (W : World) {p1 p2 : Option Addr} {q1 q2 : Nat} (h1 : Reads W (.slice p1 La.length q1) La) (h2 : Reads W (.slice p2 Lb.length q2) Lb) => q_mul ca.is cb.is (canL kZ.2) (by rw [e6]; push_cast; rfl) (by omega) (by omega) h1 h2
 have M : Mem w [(w.heap.size + 1 + 1, 44, [.bool false, .slice none 0 0, .slice none 0 0]), (w.heap.size + 1, 93, [.bool sY, .slice aY LY.length cY, .bool false, .slice oY DY.length rY]), (w.heap.size, 93, [.bool sX, .slice aX LX.length cX, .bool false, .slice oX DX.length rX])] [(.slice oY DY.length rY, DY), (.slice aY LY.length cY, LY), (.slice oX DX.length rX, DX), (.slice aX LX.length cX, LX)] (((w.alloc (.cells #[.bool sX, .slice aX LX.length cX, .bool false, .slice oX DX.length rX] 93)).alloc (.cells #[.bool sY, .slice aY LY.length cY, .bool false, .slice oY DY.length rY] 93)).alloc (.cells #[.bool false, .slice none 0 0, .slice none 0 0] 44)) := by
  have M := ((((((((Mem.start w).add g1).add g2).add g3).add g4).new 93 [.bool sX, .slice aX LX.length cX, .bool false, .slice oX DX.length rX]).new 93 [.bool sY, .slice aY LY.length cY, .bool false, .slice oY DY.length rY]).new 44 [.bool false, .slice none 0 0, .slice none 0 0])
  simpa only [World.size_alloc] using M
 clear g1 g2 g3 g4 b1 b2 b3 b4 kX kY kZ eZ hd hu d0 u0 e1 e2 e3 e4 e5 e6 hLd hLu hLp hLq hLa hLb cp cq ca cb lp lq la lb ld lu
 go_enter Tryz.func105, Tryz.ntmps105
 go_wp2
 apply region_cut_nnss (Fact := (fun b5 b6 a1 c1 a2 c2 W => Mem w [(b6, 42, [.bool false, .slice a2 Lu.length c2]), (b5, 42, [.bool false, .slice a1 Ld.length c1]), (w.heap.size + 1 + 1, 44, [.bool false, .slice none 0 0, .slice none 0 0]), (w.heap.size + 1, 93, [.bool sY, .slice aY LY.length cY, .bool false, .slice oY DY.length rY]), (w.heap.size, 93, [.bool sX, .slice aX LX.length cX, .bool false, .slice oX DX.length rX])] [(.slice a2 Lu.length c2, Lu), (.slice a1 Ld.length c1, Ld), (.slice oY DY.length rY, DY), (.slice aY LY.length cY, LY), (.slice oX DX.length rX, DX), (.slice aX LX.length cX, LX)] W))
 case first =>
  refine region_mem (S := (fun W => BoxN W (w.heap.size) 93 #[.bool sX, .slice aX LX.length cX, .bool false, .slice oX DX.length rX] ∧ BoxN W (w.heap.size + 1) 93 #[.bool sY, .slice aY LY.length cY, .bool false, .slice oY DY.length rY])) M (by kernel_rfl) ?_
  intro V0 M
  have hS0 : (fun W => BoxN W (w.heap.size) 93 #[.bool sX, .slice aX LX.length cX, .bool false, .slice oX DX.length rX] ∧ BoxN W (w.heap.size + 1) 93 #[.bool sY, .slice aY LY.length cY, .bool false, .slice oY DY.length rY]) V0 := ⟨M.box 2 rfl, M.box 1 rfl⟩
  refine wtk 0 (.pointer (some ⟨w.heap.size, 0, none⟩)) rfl (fun _ _ _ h => nomatch h.1) (Or.inl ⟨by rfl, fun W3 hS => by obtain ⟨hS1, hS2⟩ := hS; go_simp⟩) hS0 ?_
  refine wtk 1 (.agg #[.bool sX, .slice aX LX.length cX]) rfl (fun _ _ _ h => nomatch h.1) (Or.inl ⟨by rfl, fun W3 hS => by obtain ⟨hS1, hS2⟩ := hS; have c1_0 := hS1.cell 0 _ rfl; have c1_1 := hS1.cell 1 _ rfl; have c1_2 := hS1.cell 2 _ rfl; have c1_3 := hS1.cell 3 _ rfl; go_simp⟩) hS0 ?_
  refine wtk 2 (.pointer (some ⟨w.heap.size + 1, 2, none⟩)) rfl (fun _ _ _ h => nomatch h.1) (Or.inl ⟨by rfl, fun W3 hS => by obtain ⟨hS1, hS2⟩ := hS; go_simp⟩) hS0 ?_
  refine wtk 3 (.agg #[.bool false, .slice oY DY.length rY]) rfl (fun _ _ _ h => nomatch h.1) (Or.inl ⟨by rfl, fun W3 hS => by obtain ⟨hS1, hS2⟩ := hS; have c2_0 := hS2.cell 0 _ rfl; have c2_1 := hS2.cell 1 _ rfl; have c2_2 := hS2.cell 2 _ rfl; have c2_3 := hS2.cell 3 _ rfl; go_simp⟩) hS0 ?_
  refine wtk 5 (.pointer (some ⟨w.heap.size + 1, 0, none⟩)) rfl (fun _ _ _ h => nomatch h.1) (Or.inl ⟨by rfl, fun W3 hS => by obtain ⟨hS1, hS2⟩ := hS; go_simp⟩) hS0 ?_
  refine wtk 6 (.agg #[.bool sY, .slice aY LY.length cY]) rfl (fun _ _ _ h => nomatch h.1) (Or.inl ⟨by rfl, fun W3 hS => by obtain ⟨hS1, hS2⟩ := hS; have c2_0 := hS2.cell 0 _ rfl; have c2_1 := hS2.cell 1 _ rfl; have c2_2 := hS2.cell 2 _ rfl; have c2_3 := hS2.cell 3 _ rfl; go_simp⟩) hS0 ?_
  refine wtk 7 (.pointer (some ⟨w.heap.size, 2, none⟩)) rfl (fun _ _ _ h => nomatch h.1) (Or.inl ⟨by rfl, fun W3 hS => by obtain ⟨hS1, hS2⟩ := hS; go_simp⟩) hS0 ?_
  refine wtk 8 (.agg #[.bool false, .slice oX DX.length rX]) rfl (fun _ _ _ h => nomatch h.1) (Or.inl ⟨by rfl, fun W3 hS => by obtain ⟨hS1, hS2⟩ := hS; have c1_0 := hS1.cell 0 _ rfl; have c1_1 := hS1.cell 1 _ rfl; have c1_2 := hS1.cell 2 _ rfl; have c1_3 := hS1.cell 3 _ rfl; go_simp⟩) hS0 ?_
  clear hS0
  try simp only [Act.put, List.setIfInBounds_toArray, List.set_cons_zero, List.set_cons_succ]
  refine three_op 4 10 11 ?_ ?_ ?_
  · refine wpOp_intro rfl (fun K1 hK => ?_)
    go_simp
    refine (kd _ (M.get 3 rfl) (M.get 0 rfl)).mono ?_
    rintro e V1_4 ⟨a1, c1, rfl, g, rr⟩
    have M' := (M.up rr).add g
    clear M rr g
    have M := M'; clear M'
    refine hK _ _ ⟨⟨M.box 2 rfl, M.box 1 rfl⟩, ?_⟩
    clear hK K1
    refine three_op 9 10 11 ?_ ?_ ?_
    · refine wpOp_intro rfl (fun K2 hK => ?_)
      go_simp
      refine (ku _ (M.get 2 rfl) (M.get 3 rfl)).mono ?_
      rintro e V2_9 ⟨a2, c2, rfl, g, rr⟩
      have M' := (M.up rr).add g
      clear M rr g
      have M := M'; clear M'
      refine hK _ _ ⟨⟨M.box 2 rfl, M.box 1 rfl⟩, ?_⟩
      clear hK K2
      refine two_op 10 11 ?_ ?_
      · refine wpOp_intro rfl (fun K3 hK => ?_)
        go_simp
        obtain ⟨b5, V3_10, hV, hb, M'⟩ := M.fresh 42 [.bool false, .slice none 0 0]
        rw [← hV, ← hb]
        clear M hV hb; have M := M'; clear M'
        refine hK _ _ ⟨⟨M.box 3 rfl, M.box 2 rfl⟩, ?_⟩
        clear hK K3
        refine one_op 11 rfl (fun K4 hK => ?_)
        go_simp
        obtain ⟨b6, V4_11, hV, hb, M'⟩ := M.fresh 42 [.bool false, .slice none 0 0]
        rw [← hV, ← hb]
        clear M hV hb; have M := M'; clear M'
        refine hK _ _ ⟨⟨M.box 4 rfl, M.box 3 rfl⟩, ?_⟩
        clear hK K4
        have f1_0 := M.fr 1 rfl 0; have f1_1 := M.fr 1 rfl 1
        have z1_0 := M.cell 1 rfl 0 rfl; have z1_1 := M.cell 1 rfl 1 rfl
        refine one_op 12 rfl (fun Ks5 hK => ?_)
        go_simp
        have M' := ((M.put 1 rfl rfl 0 (.bool false)).put 1 rfl rfl 1 (.slice a1 Ld.length c1))
        clear M f1_0 z1_0 f1_1 z1_1
        simp only [List.set_cons_zero, List.set_cons_succ] at M'
        have M := M'
        clear M'
        refine hK _ _ ⟨⟨M.box 4 rfl, M.box 3 rfl⟩, ?_⟩
        clear hK Ks5
        have f0_0 := M.fr 0 rfl 0; have f0_1 := M.fr 0 rfl 1
        have z0_0 := M.cell 0 rfl 0 rfl; have z0_1 := M.cell 0 rfl 1 rfl
        refine one_op 13 rfl (fun Ks6 hK => ?_)
        go_simp
        have M' := ((M.put 0 rfl rfl 0 (.bool false)).put 0 rfl rfl 1 (.slice a2 Lu.length c2))
        clear M f0_0 z0_0 f0_1 z0_1
        simp only [List.set_cons_zero, List.set_cons_succ] at M'
        have M := M'
        clear M'
        refine hK _ _ ⟨⟨M.box 4 rfl, M.box 3 rfl⟩, ?_⟩
        clear hK Ks6
        refine wdn ?_
        exact ⟨rfl, b5, b6, a1, c1, a2, c2, rfl, M⟩
      · refine wpOp_intro rfl (fun K3 hK => ?_)
        go_simp
        obtain ⟨b6, V3_11, hV, hb, M'⟩ := M.fresh 42 [.bool false, .slice none 0 0]
        rw [← hV, ← hb]
        clear M hV hb; have M := M'; clear M'
        refine hK _ _ ⟨⟨M.box 3 rfl, M.box 2 rfl⟩, ?_⟩
        clear hK K3
        refine one_op 10 rfl (fun K7 hK => ?_)
        go_simp
        obtain ⟨b5, V7_10, hV, hb, M'⟩ := M.fresh 42 [.bool false, .slice none 0 0]
        rw [← hV, ← hb]
        clear M hV hb; have M := M'; clear M'
        refine hK _ _ ⟨⟨M.box 4 rfl, M.box 3 rfl⟩, ?_⟩
        clear hK K7
        have f0_0 := M.fr 0 rfl 0; have f0_1 := M.fr 0 rfl 1
        have z0_0 := M.cell 0 rfl 0 rfl; have z0_1 := M.cell 0 rfl 1 rfl
        refine one_op 12 rfl (fun Ks8 hK => ?_)
        go_simp
        have M' := ((M.put 0 rfl rfl 0 (.bool false)).put 0 rfl rfl 1 (.slice a1 Ld.length c1))
        clear M f0_0 z0_0 f0_1 z0_1
        simp only [List.set_cons_zero, List.set_cons_succ] at M'
        have M := M'
        clear M'
        refine hK _ _ ⟨⟨M.box 4 rfl, M.box 3 rfl⟩, ?_⟩
        clear hK Ks8
        have f1_0 := M.fr 1 rfl 0; have f1_1 := M.fr 1 rfl 1
        have z1_0 := M.cell 1 rfl 0 rfl; have z1_1 := M.cell 1 rfl 1 rfl
        refine one_op 13 rfl (fun Ks9 hK => ?_)
        go_simp
        have M' := ((M.put 1 rfl rfl 0 (.bool false)).put 1 rfl rfl 1 (.slice a2 Lu.length c2))
        clear M f1_0 z1_0 f1_1 z1_1
        simp only [List.set_cons_zero, List.set_cons_succ] at M'
        have M := M'
        clear M'
        refine hK _ _ ⟨⟨M.box 4 rfl, M.box 3 rfl⟩, ?_⟩
        clear hK Ks9
        refine wdn ?_
        have M' := M.swap; clear M; have M := M'; clear M'
        exact ⟨rfl, b5, b6, a1, c1, a2, c2, rfl, M⟩
    · refine wpOp_intro rfl (fun K2 hK => ?_)
      go_simp
      obtain ⟨b5, V2_10, hV, hb, M'⟩ := M.fresh 42 [.bool false, .slice none 0 0]
      rw [← hV, ← hb]
      clear M hV hb; have M := M'; clear M'
      refine hK _ _ ⟨⟨M.box 3 rfl, M.box 2 rfl⟩, ?_⟩
      clear hK K2
      refine two_op 9 11 ?_ ?_
      · refine wpOp_intro rfl (fun K10 hK => ?_)
        go_simp
        refine (ku _ (M.get 2 rfl) (M.get 3 rfl)).mono ?_
        rintro e V10_9 ⟨a2, c2, rfl, g, rr⟩
        have M' := (M.up rr).add g
        clear M rr g
        have M := M'; clear M'
        refine hK _ _ ⟨⟨M.box 3 rfl, M.box 2 rfl⟩, ?_⟩
        clear hK K10
        refine one_op 11 rfl (fun K11 hK => ?_)
        go_simp
        obtain ⟨b6, V11_11, hV, hb, M'⟩ := M.fresh 42 [.bool false, .slice none 0 0]
        rw [← hV, ← hb]
        clear M hV hb; have M := M'; clear M'
        refine hK _ _ ⟨⟨M.box 4 rfl, M.box 3 rfl⟩, ?_⟩
        clear hK K11
        have f1_0 := M.fr 1 rfl 0; have f1_1 := M.fr 1 rfl 1
        have z1_0 := M.cell 1 rfl 0 rfl; have z1_1 := M.cell 1 rfl 1 rfl
        refine one_op 12 rfl (fun Ks12 hK => ?_)
        go_simp
        have M' := ((M.put 1 rfl rfl 0 (.bool false)).put 1 rfl rfl 1 (.slice a1 Ld.length c1))
        clear M f1_0 z1_0 f1_1 z1_1
        simp only [List.set_cons_zero, List.set_cons_succ] at M'
        have M := M'
        clear M'
        refine hK _ _ ⟨⟨M.box 4 rfl, M.box 3 rfl⟩, ?_⟩
        clear hK Ks12
        have f0_0 := M.fr 0 rfl 0; have f0_1 := M.fr 0 rfl 1
        have z0_0 := M.cell 0 rfl 0 rfl; have z0_1 := M.cell 0 rfl 1 rfl
        refine one_op 13 rfl (fun Ks13 hK => ?_)
        go_simp
        have M' := ((M.put 0 rfl rfl 0 (.bool false)).put 0 rfl rfl 1 (.slice a2 Lu.length c2))
        clear M f0_0 z0_0 f0_1 z0_1
        simp only [List.set_cons_zero, List.set_cons_succ] at M'
        have M := M'
        clear M'
        refine hK _ _ ⟨⟨M.box 4 rfl, M.box 3 rfl⟩, ?_⟩
        clear hK Ks13
        refine wdn ?_
        exact ⟨rfl, b5, b6, a1, c1, a2, c2, rfl, M⟩
      · refine wpOp_intro rfl (fun K10 hK => ?_)
        go_simp
        obtain ⟨b6, V10_11, hV, hb, M'⟩ := M.fresh 42 [.bool false, .slice none 0 0]
        rw [← hV, ← hb]
        clear M hV hb; have M := M'; clear M'
        refine hK _ _ ⟨⟨M.box 4 rfl, M.box 3 rfl⟩, ?_⟩
        clear hK K10
        refine one_op 9 rfl (fun K14 hK => ?_)
        go_simp
        refine (ku _ (M.get 2 rfl) (M.get 3 rfl)).mono ?_
        rintro e V14_9 ⟨a2, c2, rfl, g, rr⟩
        have M' := (M.up rr).add g
        clear M rr g
        have M := M'; clear M'
        refine hK _ _ ⟨⟨M.box 4 rfl, M.box 3 rfl⟩, ?_⟩
        clear hK K14
        have f1_0 := M.fr 1 rfl 0; have f1_1 := M.fr 1 rfl 1
        have z1_0 := M.cell 1 rfl 0 rfl; have z1_1 := M.cell 1 rfl 1 rfl
        refine one_op 12 rfl (fun Ks15 hK => ?_)
        go_simp
        have M' := ((M.put 1 rfl rfl 0 (.bool false)).put 1 rfl rfl 1 (.slice a1 Ld.length c1))
        clear M f1_0 z1_0 f1_1 z1_1
        simp only [List.set_cons_zero, List.set_cons_succ] at M'
        have M := M'
        clear M'
        refine hK _ _ ⟨⟨M.box 4 rfl, M.box 3 rfl⟩, ?_⟩
        clear hK Ks15
        have f0_0 := M.fr 0 rfl 0; have f0_1 := M.fr 0 rfl 1
        have z0_0 := M.cell 0 rfl 0 rfl; have z0_1 := M.cell 0 rfl 1 rfl
        refine one_op 13 rfl (fun Ks16 hK => ?_)
        go_simp
        have M' := ((M.put 0 rfl rfl 0 (.bool false)).put 0 rfl rfl 1 (.slice a2 Lu.length c2))
        clear M f0_0 z0_0 f0_1 z0_1
        simp only [List.set_cons_zero, List.set_cons_succ] at M'
        have M := M'
        clear M'
        refine hK _ _ ⟨⟨M.box 4 rfl, M.box 3 rfl⟩, ?_⟩
        clear hK Ks16
        refine wdn ?_
        exact ⟨rfl, b5, b6, a1, c1, a2, c2, rfl, M⟩
    · refine wpOp_intro rfl (fun K2 hK => ?_)
      go_simp
      obtain ⟨b6, V2_11, hV, hb, M'⟩ := M.fresh 42 [.bool false, .slice none 0 0]
      rw [← hV, ← hb]
      clear M hV hb; have M := M'; clear M'
      refine hK _ _ ⟨⟨M.box 3 rfl, M.box 2 rfl⟩, ?_⟩
      clear hK K2
      refine two_op 9 10 ?_ ?_
      · refine wpOp_intro rfl (fun K17 hK => ?_)
        go_simp
        refine (ku _ (M.get 2 rfl) (M.get 3 rfl)).mono ?_
        rintro e V17_9 ⟨a2, c2, rfl, g, rr⟩
        have M' := (M.up rr).add g
        clear M rr g
        have M := M'; clear M'
        refine hK _ _ ⟨⟨M.box 3 rfl, M.box 2 rfl⟩, ?_⟩
        clear hK K17
        refine one_op 10 rfl (fun K18 hK => ?_)
        go_simp
        obtain ⟨b5, V18_10, hV, hb, M'⟩ := M.fresh 42 [.bool false, .slice none 0 0]
        rw [← hV, ← hb]
        clear M hV hb; have M := M'; clear M'
        refine hK _ _ ⟨⟨M.box 4 rfl, M.box 3 rfl⟩, ?_⟩
        clear hK K18
        have f0_0 := M.fr 0 rfl 0; have f0_1 := M.fr 0 rfl 1
        have z0_0 := M.cell 0 rfl 0 rfl; have z0_1 := M.cell 0 rfl 1 rfl
        refine one_op 12 rfl (fun Ks19 hK => ?_)
        go_simp
        have M' := ((M.put 0 rfl rfl 0 (.bool false)).put 0 rfl rfl 1 (.slice a1 Ld.length c1))
        clear M f0_0 z0_0 f0_1 z0_1
        simp only [List.set_cons_zero, List.set_cons_succ] at M'
        have M := M'
        clear M'
        refine hK _ _ ⟨⟨M.box 4 rfl, M.box 3 rfl⟩, ?_⟩
        clear hK Ks19
        have f1_0 := M.fr 1 rfl 0; have f1_1 := M.fr 1 rfl 1
        have z1_0 := M.cell 1 rfl 0 rfl; have z1_1 := M.cell 1 rfl 1 rfl
        refine one_op 13 rfl (fun Ks20 hK => ?_)
        go_simp
        have M' := ((M.put 1 rfl rfl 0 (.bool false)).put 1 rfl rfl 1 (.slice a2 Lu.length c2))
        clear M f1_0 z1_0 f1_1 z1_1
        simp only [List.set_cons_zero, List.set_cons_succ] at M'
        have M := M'
        clear M'
        refine hK _ _ ⟨⟨M.box 4 rfl, M.box 3 rfl⟩, ?_⟩
        clear hK Ks20
        refine wdn ?_
        have M' := M.swap; clear M; have M := M'; clear M'
        exact ⟨rfl, b5, b6, a1, c1, a2, c2, rfl, M⟩
      · refine wpOp_intro rfl (fun K17 hK => ?_)
        go_simp
        obtain ⟨b5, V17_10, hV, hb, M'⟩ := M.fresh 42 [.bool false, .slice none 0 0]
        rw [← hV, ← hb]
        clear M hV hb; have M := M'; clear M'
        refine hK _ _ ⟨⟨M.box 4 rfl, M.box 3 rfl⟩, ?_⟩
        clear hK K17
        refine one_op 9 rfl (fun K21 hK => ?_)
        go_simp
        refine (ku _ (M.get 2 rfl) (M.get 3 rfl)).mono ?_
        rintro e V21_9 ⟨a2, c2, rfl, g, rr⟩
        have M' := (M.up rr).add g
        clear M rr g
        have M := M'; clear M'
        refine hK _ _ ⟨⟨M.box 4 rfl, M.box 3 rfl⟩, ?_⟩
        clear hK K21
        have f0_0 := M.fr 0 rfl 0; have f0_1 := M.fr 0 rfl 1
        have z0_0 := M.cell 0 rfl 0 rfl; have z0_1 := M.cell 0 rfl 1 rfl
        refine one_op 12 rfl (fun Ks22 hK => ?_)
        go_simp
        have M' := ((M.put 0 rfl rfl 0 (.bool false)).put 0 rfl rfl 1 (.slice a1 Ld.length c1))
        clear M f0_0 z0_0 f0_1 z0_1
        simp only [List.set_cons_zero, List.set_cons_succ] at M'
        have M := M'
        clear M'
        refine hK _ _ ⟨⟨M.box 4 rfl, M.box 3 rfl⟩, ?_⟩
        clear hK Ks22
        have f1_0 := M.fr 1 rfl 0; have f1_1 := M.fr 1 rfl 1
        have z1_0 := M.cell 1 rfl 0 rfl; have z1_1 := M.cell 1 rfl 1 rfl
        refine one_op 13 rfl (fun Ks23 hK => ?_)
        go_simp
        have M' := ((M.put 1 rfl rfl 0 (.bool false)).put 1 rfl rfl 1 (.slice a2 Lu.length c2))
        clear M f1_0 z1_0 f1_1 z1_1
        simp only [List.set_cons_zero, List.set_cons_succ] at M'
        have M := M'
        clear M'
        refine hK _ _ ⟨⟨M.box 4 rfl, M.box 3 rfl⟩, ?_⟩
        clear hK Ks23
        refine wdn ?_
        have M' := M.swap; clear M; have M := M'; clear M'
        exact ⟨rfl, b5, b6, a1, c1, a2, c2, rfl, M⟩
  · refine wpOp_intro rfl (fun K1 hK => ?_)
    go_simp
    obtain ⟨b5, V1_10, hV, hb, M'⟩ := M.fresh 42 [.bool false, .slice none 0 0]
    rw [← hV, ← hb]
    clear M hV hb; have M := M'; clear M'
    refine hK _ _ ⟨⟨M.box 3 rfl, M.box 2 rfl⟩, ?_⟩
    clear hK K1
    refine two_op 4 11 ?_ ?_
    · refine wpOp_intro rfl (fun K24 hK => ?_)
      go_simp
      refine (kd _ (M.get 3 rfl) (M.get 0 rfl)).mono ?_
      rintro e V24_4 ⟨a1, c1, rfl, g, rr⟩
      have M' := (M.up rr).add g
      clear M rr g
      have M := M'; clear M'
      refine hK _ _ ⟨⟨M.box 3 rfl, M.box 2 rfl⟩, ?_⟩
      clear hK K24
      refine two_op 9 11 ?_ ?_
      · refine wpOp_intro rfl (fun K25 hK => ?_)
        go_simp
        refine (ku _ (M.get 2 rfl) (M.get 3 rfl)).mono ?_
        rintro e V25_9 ⟨a2, c2, rfl, g, rr⟩
        have M' := (M.up rr).add g
        clear M rr g
        have M := M'; clear M'
        refine hK _ _ ⟨⟨M.box 3 rfl, M.box 2 rfl⟩, ?_⟩
        clear hK K25
        refine one_op 11 rfl (fun K26 hK => ?_)
        go_simp
        obtain ⟨b6, V26_11, hV, hb, M'⟩ := M.fresh 42 [.bool false, .slice none 0 0]
        rw [← hV, ← hb]
        clear M hV hb; have M := M'; clear M'
        refine hK _ _ ⟨⟨M.box 4 rfl, M.box 3 rfl⟩, ?_⟩
        clear hK K26
        have f1_0 := M.fr 1 rfl 0; have f1_1 := M.fr 1 rfl 1
        have z1_0 := M.cell 1 rfl 0 rfl; have z1_1 := M.cell 1 rfl 1 rfl
        refine one_op 12 rfl (fun Ks27 hK => ?_)
        go_simp
        have M' := ((M.put 1 rfl rfl 0 (.bool false)).put 1 rfl rfl 1 (.slice a1 Ld.length c1))
        clear M f1_0 z1_0 f1_1 z1_1
        simp only [List.set_cons_zero, List.set_cons_succ] at M'
        have M := M'
        clear M'
        refine hK _ _ ⟨⟨M.box 4 rfl, M.box 3 rfl⟩, ?_⟩
        clear hK Ks27
        have f0_0 := M.fr 0 rfl 0; have f0_1 := M.fr 0 rfl 1
        have z0_0 := M.cell 0 rfl 0 rfl; have z0_1 := M.cell 0 rfl 1 rfl
        refine one_op 13 rfl (fun Ks28 hK => ?_)
        go_simp
        have M' := ((M.put 0 rfl rfl 0 (.bool false)).put 0 rfl rfl 1 (.slice a2 Lu.length c2))
        clear M f0_0 z0_0 f0_1 z0_1
        simp only [List.set_cons_zero, List.set_cons_succ] at M'
        have M := M'
        clear M'
        refine hK _ _ ⟨⟨M.box 4 rfl, M.box 3 rfl⟩, ?_⟩
        clear hK Ks28
        refine wdn ?_
        exact ⟨rfl, b5, b6, a1, c1, a2, c2, rfl, M⟩
      · refine wpOp_intro rfl (fun K25 hK => ?_)
        go_simp
        obtain ⟨b6, V25_11, hV, hb, M'⟩ := M.fresh 42 [.bool false, .slice none 0 0]
        rw [← hV, ← hb]
        clear M hV hb; have M := M'; clear M'
        refine hK _ _ ⟨⟨M.box 4 rfl, M.box 3 rfl⟩, ?_⟩
        clear hK K25
        refine one_op 9 rfl (fun K29 hK => ?_)
        go_simp
        refine (ku _ (M.get 2 rfl) (M.get 3 rfl)).mono ?_
        rintro e V29_9 ⟨a2, c2, rfl, g, rr⟩
        have M' := (M.up rr).add g
        clear M rr g
        have M := M'; clear M'
        refine hK _ _ ⟨⟨M.box 4 rfl, M.box 3 rfl⟩, ?_⟩
        clear hK K29
        have f1_0 := M.fr 1 rfl 0; have f1_1 := M.fr 1 rfl 1
        have z1_0 := M.cell 1 rfl 0 rfl; have z1_1 := M.cell 1 rfl 1 rfl
        refine one_op 12 rfl (fun Ks30 hK => ?_)
        go_simp
        have M' := ((M.put 1 rfl rfl 0 (.bool false)).put 1 rfl rfl 1 (.slice a1 Ld.length c1))
        clear M f1_0 z1_0 f1_1 z1_1
        simp only [List.set_cons_zero, List.set_cons_succ] at M'
        have M := M'
        clear M'
        refine hK _ _ ⟨⟨M.box 4 rfl, M.box 3 rfl⟩, ?_⟩
        clear hK Ks30
        have f0_0 := M.fr 0 rfl 0; have f0_1 := M.fr 0 rfl 1
        have z0_0 := M.cell 0 rfl 0 rfl; have z0_1 := M.cell 0 rfl 1 rfl
        refine one_op 13 rfl (fun Ks31 hK => ?_)
        go_simp
        have M' := ((M.put 0 rfl rfl 0 (.bool false)).put 0 rfl rfl 1 (.slice a2 Lu.length c2))
        clear M f0_0 z0_0 f0_1 z0_1
        simp only [List.set_cons_zero, List.set_cons_succ] at M'
        have M := M'
        clear M'
        refine hK _ _ ⟨⟨M.box 4 rfl, M.box 3 rfl⟩, ?_⟩
        clear hK Ks31
        refine wdn ?_
        exact ⟨rfl, b5, b6, a1, c1, a2, c2, rfl, M⟩
    · refine wpOp_intro rfl (fun K24 hK => ?_)
      go_simp
      obtain ⟨b6, V24_11, hV, hb, M'⟩ := M.fresh 42 [.bool false, .slice none 0 0]
      rw [← hV, ← hb]
      clear M hV hb; have M := M'; clear M'
      refine hK _ _ ⟨⟨M.box 4 rfl, M.box 3 rfl⟩, ?_⟩
      clear hK K24
      refine one_op 4 rfl (fun K32 hK => ?_)
      go_simp
      refine (kd _ (M.get 3 rfl) (M.get 0 rfl)).mono ?_
      rintro e V32_4 ⟨a1, c1, rfl, g, rr⟩
      have M' := (M.up rr).add g
      clear M rr g
      have M := M'; clear M'
      refine hK _ _ ⟨⟨M.box 4 rfl, M.box 3 rfl⟩, ?_⟩
      clear hK K32
      refine one_op 9 rfl (fun K33 hK => ?_)
      go_simp
      refine (ku _ (M.get 2 rfl) (M.get 3 rfl)).mono ?_
      rintro e V33_9 ⟨a2, c2, rfl, g, rr⟩
      have M' := (M.up rr).add g
      clear M rr g
      have M := M'; clear M'
      refine hK _ _ ⟨⟨M.box 4 rfl, M.box 3 rfl⟩, ?_⟩
      clear hK K33
      have f1_0 := M.fr 1 rfl 0; have f1_1 := M.fr 1 rfl 1
      have z1_0 := M.cell 1 rfl 0 rfl; have z1_1 := M.cell 1 rfl 1 rfl
      refine one_op 12 rfl (fun Ks34 hK => ?_)
      go_simp
      have M' := ((M.put 1 rfl rfl 0 (.bool false)).put 1 rfl rfl 1 (.slice a1 Ld.length c1))
      clear M f1_0 z1_0 f1_1 z1_1
      simp only [List.set_cons_zero, List.set_cons_succ] at M'
      have M := M'
      clear M'
      refine hK _ _ ⟨⟨M.box 4 rfl, M.box 3 rfl⟩, ?_⟩
      clear hK Ks34
      have f0_0 := M.fr 0 rfl 0; have f0_1 := M.fr 0 rfl 1
      have z0_0 := M.cell 0 rfl 0 rfl; have z0_1 := M.cell 0 rfl 1 rfl
      refine one_op 13 rfl (fun Ks35 hK => ?_)
      go_simp
      have M' := ((M.put 0 rfl rfl 0 (.bool false)).put 0 rfl rfl 1 (.slice a2 Lu.length c2))
      clear M f0_0 z0_0 f0_1 z0_1
      simp only [List.set_cons_zero, List.set_cons_succ] at M'
      have M := M'
      clear M'
      refine hK _ _ ⟨⟨M.box 4 rfl, M.box 3 rfl⟩, ?_⟩
      clear hK Ks35
      refine wdn ?_
      exact ⟨rfl, b5, b6, a1, c1, a2, c2, rfl, M⟩
  · refine wpOp_intro rfl (fun K1 hK => ?_)
    go_simp
    obtain ⟨b6, V1_11, hV, hb, M'⟩ := M.fresh 42 [.bool false, .slice none 0 0]
    rw [← hV, ← hb]
    clear M hV hb; have M := M'; clear M'
    refine hK _ _ ⟨⟨M.box 3 rfl, M.box 2 rfl⟩, ?_⟩
    clear hK K1
    refine two_op 4 10 ?_ ?_
    · refine wpOp_intro rfl (fun K36 hK => ?_)
      go_simp
      refine (kd _ (M.get 3 rfl) (M.get 0 rfl)).mono ?_
      rintro e V36_4 ⟨a1, c1, rfl, g, rr⟩
      have M' := (M.up rr).add g
      clear M rr g
      have M := M'; clear M'
      refine hK _ _ ⟨⟨M.box 3 rfl, M.box 2 rfl⟩, ?_⟩
      clear hK K36
      refine two_op 9 10 ?_ ?_
      · refine wpOp_intro rfl (fun K37 hK => ?_)
        go_simp
        refine (ku _ (M.get 2 rfl) (M.get 3 rfl)).mono ?_
        rintro e V37_9 ⟨a2, c2, rfl, g, rr⟩
        have M' := (M.up rr).add g
        clear M rr g
        have M := M'; clear M'
        refine hK _ _ ⟨⟨M.box 3 rfl, M.box 2 rfl⟩, ?_⟩
        clear hK K37
        refine one_op 10 rfl (fun K38 hK => ?_)
        go_simp
        obtain ⟨b5, V38_10, hV, hb, M'⟩ := M.fresh 42 [.bool false, .slice none 0 0]
        rw [← hV, ← hb]
        clear M hV hb; have M := M'; clear M'
        refine hK _ _ ⟨⟨M.box 4 rfl, M.box 3 rfl⟩, ?_⟩
        clear hK K38
        have f0_0 := M.fr 0 rfl 0; have f0_1 := M.fr 0 rfl 1
        have z0_0 := M.cell 0 rfl 0 rfl; have z0_1 := M.cell 0 rfl 1 rfl
        refine one_op 12 rfl (fun Ks39 hK => ?_)
        go_simp
        have M' := ((M.put 0 rfl rfl 0 (.bool false)).put 0 rfl rfl 1 (.slice a1 Ld.length c1))
        clear M f0_0 z0_0 f0_1 z0_1
        simp only [List.set_cons_zero, List.set_cons_succ] at M'
        have M := M'
        clear M'
        refine hK _ _ ⟨⟨M.box 4 rfl, M.box 3 rfl⟩, ?_⟩
        clear hK Ks39
        have f1_0 := M.fr 1 rfl 0; have f1_1 := M.fr 1 rfl 1
        have z1_0 := M.cell 1 rfl 0 rfl; have z1_1 := M.cell 1 rfl 1 rfl
        refine one_op 13 rfl (fun Ks40 hK => ?_)
        go_simp
        have M' := ((M.put 1 rfl rfl 0 (.bool false)).put 1 rfl rfl 1 (.slice a2 Lu.length c2))
        clear M f1_0 z1_0 f1_1 z1_1
        simp only [List.set_cons_zero, List.set_cons_succ] at M'
        have M := M'
        clear M'
        refine hK _ _ ⟨⟨M.box 4 rfl, M.box 3 rfl⟩, ?_⟩
        clear hK Ks40
        refine wdn ?_
        have M' := M.swap; clear M; have M := M'; clear M'
        exact ⟨rfl, b5, b6, a1, c1, a2, c2, rfl, M⟩
      · refine wpOp_intro rfl (fun K37 hK => ?_)
        go_simp
        obtain ⟨b5, V37_10, hV, hb, M'⟩ := M.fresh 42 [.bool false, .slice none 0 0]
        rw [← hV, ← hb]
        clear M hV hb; have M := M'; clear M'
        refine hK _ _ ⟨⟨M.box 4 rfl, M.box 3 rfl⟩, ?_⟩
        clear hK K37
        refine one_op 9 rfl (fun K41 hK => ?_)
        go_simp
        refine (ku _ (M.get 2 rfl) (M.get 3 rfl)).mono ?_
        rintro e V41_9 ⟨a2, c2, rfl, g, rr⟩
        have M' := (M.up rr).add g
        clear M rr g
        have M := M'; clear M'
        refine hK _ _ ⟨⟨M.box 4 rfl, M.box 3 rfl⟩, ?_⟩
        clear hK K41
        have f0_0 := M.fr 0 rfl 0; have f0_1 := M.fr 0 rfl 1
        have z0_0 := M.cell 0 rfl 0 rfl; have z0_1 := M.cell 0 rfl 1 rfl
        refine one_op 12 rfl (fun Ks42 hK => ?_)
        go_simp
        have M' := ((M.put 0 rfl rfl 0 (.bool false)).put 0 rfl rfl 1 (.slice a1 Ld.length c1))
        clear M f0_0 z0_0 f0_1 z0_1
        simp only [List.set_cons_zero, List.set_cons_succ] at M'
        have M := M'
        clear M'
        refine hK _ _ ⟨⟨M.box 4 rfl, M.box 3 rfl⟩, ?_⟩
        clear hK Ks42
        have f1_0 := M.fr 1 rfl 0; have f1_1 := M.fr 1 rfl 1
        have z1_0 := M.cell 1 rfl 0 rfl; have z1_1 := M.cell 1 rfl 1 rfl
        refine one_op 13 rfl (fun Ks43 hK => ?_)
        go_simp
        have M' := ((M.put 1 rfl rfl 0 (.bool false)).put 1 rfl rfl 1 (.slice a2 Lu.length c2))
        clear M f1_0 z1_0 f1_1 z1_1
        simp only [List.set_cons_zero, List.set_cons_succ] at M'
        have M := M'
        clear M'
        refine hK _ _ ⟨⟨M.box 4 rfl, M.box 3 rfl⟩, ?_⟩
        clear hK Ks43
        refine wdn ?_
        have M' := M.swap; clear M; have M := M'; clear M'
        exact ⟨rfl, b5, b6, a1, c1, a2, c2, rfl, M⟩
    · refine wpOp_intro rfl (fun K36 hK => ?_)
      go_simp
      obtain ⟨b5, V36_10, hV, hb, M'⟩ := M.fresh 42 [.bool false, .slice none 0 0]
      rw [← hV, ← hb]
      clear M hV hb; have M := M'; clear M'
      refine hK _ _ ⟨⟨M.box 4 rfl, M.box 3 rfl⟩, ?_⟩
      clear hK K36
      refine one_op 4 rfl (fun K44 hK => ?_)
      go_simp
      refine (kd _ (M.get 3 rfl) (M.get 0 rfl)).mono ?_
      rintro e V44_4 ⟨a1, c1, rfl, g, rr⟩
      have M' := (M.up rr).add g
      clear M rr g
      have M := M'; clear M'
      refine hK _ _ ⟨⟨M.box 4 rfl, M.box 3 rfl⟩, ?_⟩
      clear hK K44
      refine one_op 9 rfl (fun K45 hK => ?_)
      go_simp
      refine (ku _ (M.get 2 rfl) (M.get 3 rfl)).mono ?_
      rintro e V45_9 ⟨a2, c2, rfl, g, rr⟩
      have M' := (M.up rr).add g
      clear M rr g
      have M := M'; clear M'
      refine hK _ _ ⟨⟨M.box 4 rfl, M.box 3 rfl⟩, ?_⟩
      clear hK K45
      have f0_0 := M.fr 0 rfl 0; have f0_1 := M.fr 0 rfl 1
      have z0_0 := M.cell 0 rfl 0 rfl; have z0_1 := M.cell 0 rfl 1 rfl
      refine one_op 12 rfl (fun Ks46 hK => ?_)
      go_simp
      have M' := ((M.put 0 rfl rfl 0 (.bool false)).put 0 rfl rfl 1 (.slice a1 Ld.length c1))
      clear M f0_0 z0_0 f0_1 z0_1
      simp only [List.set_cons_zero, List.set_cons_succ] at M'
      have M := M'
      clear M'
      refine hK _ _ ⟨⟨M.box 4 rfl, M.box 3 rfl⟩, ?_⟩
      clear hK Ks46
      have f1_0 := M.fr 1 rfl 0; have f1_1 := M.fr 1 rfl 1
      have z1_0 := M.cell 1 rfl 0 rfl; have z1_1 := M.cell 1 rfl 1 rfl
      refine one_op 13 rfl (fun Ks47 hK => ?_)
      go_simp
      have M' := ((M.put 1 rfl rfl 0 (.bool false)).put 1 rfl rfl 1 (.slice a2 Lu.length c2))
      clear M f1_0 z1_0 f1_1 z1_1
      simp only [List.set_cons_zero, List.set_cons_succ] at M'
      have M := M'
      clear M'
      refine hK _ _ ⟨⟨M.box 4 rfl, M.box 3 rfl⟩, ?_⟩
      clear hK Ks47
      refine wdn ?_
      have M' := M.swap; clear M; have M := M'; clear M'
      exact ⟨rfl, b5, b6, a1, c1, a2, c2, rfl, M⟩
 intro b5 b6 a1 c1 a2 c2 V M
 go_wp2
 apply region_cut_nsss (Fact := (fun b7 a3 c3 a4 c4 a5 c5 W => Mem w [(b7, 42, [.bool sZ, .slice a5 LZ.length c5]), (b6, 42, [.bool false, .slice a2 Lu.length c2]), (b5, 42, [.bool false, .slice a1 Ld.length c1]), (w.heap.size + 1 + 1, 44, [.bool false, .slice none 0 0, .slice none 0 0]), (w.heap.size + 1, 93, [.bool sY, .slice aY LY.length cY, .bool false, .slice oY DY.length rY]), (w.heap.size, 93, [.bool sX, .slice aX LX.length cX, .bool false, .slice oX DX.length rX])] [(.slice a5 LZ.length c5, LZ), (.slice a4 Lq.length c4, Lq), (.slice a3 Lp.length c3, Lp), (.slice a2 Lu.length c2, Lu), (.slice a1 Ld.length c1, Ld), (.slice oY DY.length rY, DY), (.slice aY LY.length cY, LY), (.slice oX DX.length rX, DX), (.slice aX LX.length cX, LX)] W))
 case first =>
  refine region_mem (S := (fun W => BoxN W (w.heap.size) 93 #[.bool sX, .slice aX LX.length cX, .bool false, .slice oX DX.length rX] ∧ BoxN W (w.heap.size + 1) 93 #[.bool sY, .slice aY LY.length cY, .bool false, .slice oY DY.length rY] ∧ BoxN W (b5) 42 #[.bool false, .slice a1 Ld.length c1] ∧ BoxN W (b6) 42 #[.bool false, .slice a2 Lu.length c2])) M (by kernel_rfl) ?_
  intro V0 M
  have hS0 : (fun W => BoxN W (w.heap.size) 93 #[.bool sX, .slice aX LX.length cX, .bool false, .slice oX DX.length rX] ∧ BoxN W (w.heap.size + 1) 93 #[.bool sY, .slice aY LY.length cY, .bool false, .slice oY DY.length rY] ∧ BoxN W (b5) 42 #[.bool false, .slice a1 Ld.length c1] ∧ BoxN W (b6) 42 #[.bool false, .slice a2 Lu.length c2]) V0 := ⟨M.box 4 rfl, M.box 3 rfl, M.box 1 rfl, M.box 0 rfl⟩
  refine wtk 0 (.pointer (some ⟨w.heap.size, 0, none⟩)) rfl (fun _ _ _ h => nomatch h.1) (Or.inl ⟨by rfl, fun W3 hS => by obtain ⟨hS1, hS2, hS3, hS4⟩ := hS; go_simp⟩) hS0 ?_
  refine wtk 1 (.agg #[.bool sX, .slice aX LX.length cX]) rfl (fun _ _ _ h => nomatch h.1) (Or.inl ⟨by rfl, fun W3 hS => by obtain ⟨hS1, hS2, hS3, hS4⟩ := hS; have c1_0 := hS1.cell 0 _ rfl; have c1_1 := hS1.cell 1 _ rfl; have c1_2 := hS1.cell 2 _ rfl; have c1_3 := hS1.cell 3 _ rfl; go_simp⟩) hS0 ?_
  refine wtk 2 (.agg #[.bool false, .slice a1 Ld.length c1]) rfl (fun _ _ _ h => nomatch h.1) (Or.inl ⟨by rfl, fun W3 hS => by obtain ⟨hS1, hS2, hS3, hS4⟩ := hS; have c3_0 := hS3.cell 0 _ rfl; have c3_1 := hS3.cell 1 _ rfl; go_simp⟩) hS0 ?_
  refine wtk 4 (.pointer (some ⟨w.heap.size + 1, 0, none⟩)) rfl (fun _ _ _ h => nomatch h.1) (Or.inl ⟨by rfl, fun W3 hS => by obtain ⟨hS1, hS2, hS3, hS4⟩ := hS; go_simp⟩) hS0 ?_
  refine wtk 5 (.agg #[.bool sY, .slice aY LY.length cY]) rfl (fun _ _ _ h => nomatch h.1) (Or.inl ⟨by rfl, fun W3 hS => by obtain ⟨hS1, hS2, hS3, hS4⟩ := hS; have c2_0 := hS2.cell 0 _ rfl; have c2_1 := hS2.cell 1 _ rfl; have c2_2 := hS2.cell 2 _ rfl; have c2_3 := hS2.cell 3 _ rfl; go_simp⟩) hS0 ?_
  refine wtk 6 (.agg #[.bool false, .slice a2 Lu.length c2]) rfl (fun _ _ _ h => nomatch h.1) (Or.inl ⟨by rfl, fun W3 hS => by obtain ⟨hS1, hS2, hS3, hS4⟩ := hS; have c4_0 := hS4.cell 0 _ rfl; have c4_1 := hS4.cell 1 _ rfl; go_simp⟩) hS0 ?_
  clear hS0
  try simp only [Act.put, List.setIfInBounds_toArray, List.set_cons_zero, List.set_cons_succ]
  refine two_op 3 9 ?_ ?_
  · refine wpOp_intro rfl (fun K1 hK => ?_)
    go_simp
    refine (kp _ (M.get 5 rfl) (M.get 1 rfl)).mono ?_
    rintro e V1_3 ⟨a3, c3, rfl, g, rr⟩
    have M' := (M.up rr).add g
    clear M rr g
    have M := M'; clear M'
    refine hK _ _ ⟨⟨M.box 4 rfl, M.box 3 rfl, M.box 1 rfl, M.box 0 rfl⟩, ?_⟩
    clear hK K1
    refine two_op 7 9 ?_ ?_
    · refine wpOp_intro rfl (fun K2 hK => ?_)
      go_simp
      refine (kq _ (M.get 4 rfl) (M.get 1 rfl)).mono ?_
      rintro e V2_7 ⟨a4, c4, rfl, g, rr⟩
      have M' := (M.up rr).add g
      clear M rr g
      have M := M'; clear M'
      refine hK _ _ ⟨⟨M.box 4 rfl, M.box 3 rfl, M.box 1 rfl, M.box 0 rfl⟩, ?_⟩
      clear hK K2
      refine two_op 8 9 ?_ ?_
      · refine wpOp_intro rfl (fun K3 hK => ?_)
        go_simp
        refine (km _ (M.get 1 rfl) (M.get 0 rfl)).mono ?_
        rintro e V3_8 ⟨a5, c5, rfl, g, rr⟩
        have M' := (M.up rr).add g
        clear M rr g
        have M := M'; clear M'
        refine hK _ _ ⟨⟨M.box 4 rfl, M.box 3 rfl, M.box 1 rfl, M.box 0 rfl⟩, ?_⟩
        clear hK K3
        refine one_op 9 rfl (fun K4 hK => ?_)
        go_simp
        obtain ⟨b7, V4_9, hV, hb, M'⟩ := M.fresh 42 [.bool false, .slice none 0 0]
        rw [← hV, ← hb]
        clear M hV hb; have M := M'; clear M'
        refine hK _ _ ⟨⟨M.box 5 rfl, M.box 4 rfl, M.box 2 rfl, M.box 1 rfl⟩, ?_⟩
        clear hK K4
        have f0_0 := M.fr 0 rfl 0; have f0_1 := M.fr 0 rfl 1
        have z0_0 := M.cell 0 rfl 0 rfl; have z0_1 := M.cell 0 rfl 1 rfl
        refine one_op 10 rfl (fun Ks5 hK => ?_)
        go_simp
        have M' := ((M.put 0 rfl rfl 0 (.bool sZ)).put 0 rfl rfl 1 (.slice a5 LZ.length c5))
        clear M f0_0 z0_0 f0_1 z0_1
        simp only [List.set_cons_zero, List.set_cons_succ] at M'
        have M := M'
        clear M'
        refine hK _ _ ⟨⟨M.box 5 rfl, M.box 4 rfl, M.box 2 rfl, M.box 1 rfl⟩, ?_⟩
        clear hK Ks5
        refine wdn ?_
        exact ⟨rfl, b7, a3, c3, a4, c4, a5, c5, rfl, M⟩
      · refine wpOp_intro rfl (fun K3 hK => ?_)
        go_simp
        obtain ⟨b7, V3_9, hV, hb, M'⟩ := M.fresh 42 [.bool false, .slice none 0 0]
        rw [← hV, ← hb]
        clear M hV hb; have M := M'; clear M'
        refine hK _ _ ⟨⟨M.box 5 rfl, M.box 4 rfl, M.box 2 rfl, M.box 1 rfl⟩, ?_⟩
        clear hK K3
        refine one_op 8 rfl (fun K6 hK => ?_)
        go_simp
        refine (km _ (M.get 1 rfl) (M.get 0 rfl)).mono ?_
        rintro e V6_8 ⟨a5, c5, rfl, g, rr⟩
        have M' := (M.up rr).add g
        clear M rr g
        have M := M'; clear M'
        refine hK _ _ ⟨⟨M.box 5 rfl, M.box 4 rfl, M.box 2 rfl, M.box 1 rfl⟩, ?_⟩
        clear hK K6
        have f0_0 := M.fr 0 rfl 0; have f0_1 := M.fr 0 rfl 1
        have z0_0 := M.cell 0 rfl 0 rfl; have z0_1 := M.cell 0 rfl 1 rfl
        refine one_op 10 rfl (fun Ks7 hK => ?_)
        go_simp
        have M' := ((M.put 0 rfl rfl 0 (.bool sZ)).put 0 rfl rfl 1 (.slice a5 LZ.length c5))
        clear M f0_0 z0_0 f0_1 z0_1
        simp only [List.set_cons_zero, List.set_cons_succ] at M'
        have M := M'
        clear M'
        refine hK _ _ ⟨⟨M.box 5 rfl, M.box 4 rfl, M.box 2 rfl, M.box 1 rfl⟩, ?_⟩
        clear hK Ks7
        refine wdn ?_
        exact ⟨rfl, b7, a3, c3, a4, c4, a5, c5, rfl, M⟩
    · refine wpOp_intro rfl (fun K2 hK => ?_)
      go_simp
      obtain ⟨b7, V2_9, hV, hb, M'⟩ := M.fresh 42 [.bool false, .slice none 0 0]
      rw [← hV, ← hb]
      clear M hV hb; have M := M'; clear M'
      refine hK _ _ ⟨⟨M.box 5 rfl, M.box 4 rfl, M.box 2 rfl, M.box 1 rfl⟩, ?_⟩
      clear hK K2
      refine one_op 7 rfl (fun K8 hK => ?_)
      go_simp
      refine (kq _ (M.get 4 rfl) (M.get 1 rfl)).mono ?_
      rintro e V8_7 ⟨a4, c4, rfl, g, rr⟩
      have M' := (M.up rr).add g
      clear M rr g
      have M := M'; clear M'
      refine hK _ _ ⟨⟨M.box 5 rfl, M.box 4 rfl, M.box 2 rfl, M.box 1 rfl⟩, ?_⟩
      clear hK K8
      refine one_op 8 rfl (fun K9 hK => ?_)
      go_simp
      refine (km _ (M.get 1 rfl) (M.get 0 rfl)).mono ?_
      rintro e V9_8 ⟨a5, c5, rfl, g, rr⟩
      have M' := (M.up rr).add g
      clear M rr g
      have M := M'; clear M'
      refine hK _ _ ⟨⟨M.box 5 rfl, M.box 4 rfl, M.box 2 rfl, M.box 1 rfl⟩, ?_⟩
      clear hK K9
      have f0_0 := M.fr 0 rfl 0; have f0_1 := M.fr 0 rfl 1
      have z0_0 := M.cell 0 rfl 0 rfl; have z0_1 := M.cell 0 rfl 1 rfl
      refine one_op 10 rfl (fun Ks10 hK => ?_)
      go_simp
      have M' := ((M.put 0 rfl rfl 0 (.bool sZ)).put 0 rfl rfl 1 (.slice a5 LZ.length c5))
      clear M f0_0 z0_0 f0_1 z0_1
      simp only [List.set_cons_zero, List.set_cons_succ] at M'
      have M := M'
      clear M'
      refine hK _ _ ⟨⟨M.box 5 rfl, M.box 4 rfl, M.box 2 rfl, M.box 1 rfl⟩, ?_⟩
      clear hK Ks10
      refine wdn ?_
      exact ⟨rfl, b7, a3, c3, a4, c4, a5, c5, rfl, M⟩
  · refine wpOp_intro rfl (fun K1 hK => ?_)
    go_simp
    obtain ⟨b7, V1_9, hV, hb, M'⟩ := M.fresh 42 [.bool false, .slice none 0 0]
    rw [← hV, ← hb]
    clear M hV hb; have M := M'; clear M'
    refine hK _ _ ⟨⟨M.box 5 rfl, M.box 4 rfl, M.box 2 rfl, M.box 1 rfl⟩, ?_⟩
    clear hK K1
    refine one_op 3 rfl (fun K11 hK => ?_)
    go_simp
    refine (kp _ (M.get 5 rfl) (M.get 1 rfl)).mono ?_
    rintro e V11_3 ⟨a3, c3, rfl, g, rr⟩
    have M' := (M.up rr).add g
    clear M rr g
    have M := M'; clear M'
    refine hK _ _ ⟨⟨M.box 5 rfl, M.box 4 rfl, M.box 2 rfl, M.box 1 rfl⟩, ?_⟩
    clear hK K11
    refine one_op 7 rfl (fun K12 hK => ?_)
    go_simp
    refine (kq _ (M.get 4 rfl) (M.get 1 rfl)).mono ?_
    rintro e V12_7 ⟨a4, c4, rfl, g, rr⟩
    have M' := (M.up rr).add g
    clear M rr g
    have M := M'; clear M'
    refine hK _ _ ⟨⟨M.box 5 rfl, M.box 4 rfl, M.box 2 rfl, M.box 1 rfl⟩, ?_⟩
    clear hK K12
    refine one_op 8 rfl (fun K13 hK => ?_)
    go_simp
    refine (km _ (M.get 1 rfl) (M.get 0 rfl)).mono ?_
    rintro e V13_8 ⟨a5, c5, rfl, g, rr⟩
    have M' := (M.up rr).add g
    clear M rr g
    have M := M'; clear M'
    refine hK _ _ ⟨⟨M.box 5 rfl, M.box 4 rfl, M.box 2 rfl, M.box 1 rfl⟩, ?_⟩
    clear hK K13
    have f0_0 := M.fr 0 rfl 0; have f0_1 := M.fr 0 rfl 1
    have z0_0 := M.cell 0 rfl 0 rfl; have z0_1 := M.cell 0 rfl 1 rfl
    refine one_op 10 rfl (fun Ks14 hK => ?_)
    go_simp
    have M' := ((M.put 0 rfl rfl 0 (.bool sZ)).put 0 rfl rfl 1 (.slice a5 LZ.length c5))
    clear M f0_0 z0_0 f0_1 z0_1
    simp only [List.set_cons_zero, List.set_cons_succ] at M'
    have M := M'
    clear M'
    refine hK _ _ ⟨⟨M.box 5 rfl, M.box 4 rfl, M.box 2 rfl, M.box 1 rfl⟩, ?_⟩
    clear hK Ks14
    refine wdn ?_
    exact ⟨rfl, b7, a3, c3, a4, c4, a5, c5, rfl, M⟩
 intro b7 a3 c3 a4 c4 a5 c5 V M
 go_wp2
 apply region_cut_nsss (Fact := (fun b8 a6 c6 a7 c7 a8 c8 W => Mem w [(b8, 42, [.bool false, .slice a8 DZ.length c8]), (b7, 42, [.bool sZ, .slice a5 LZ.length c5]), (b6, 42, [.bool false, .slice a2 Lu.length c2]), (b5, 42, [.bool false, .slice a1 Ld.length c1]), (w.heap.size + 1 + 1, 44, [.bool false, .slice none 0 0, .slice none 0 0]), (w.heap.size + 1, 93, [.bool sY, .slice aY LY.length cY, .bool false, .slice oY DY.length rY]), (w.heap.size, 93, [.bool sX, .slice aX LX.length cX, .bool false, .slice oX DX.length rX])] [(.slice a8 DZ.length c8, DZ), (.slice a7 Lb.length c7, Lb), (.slice a6 La.length c6, La), (.slice a5 LZ.length c5, LZ), (.slice a4 Lq.length c4, Lq), (.slice a3 Lp.length c3, Lp), (.slice a2 Lu.length c2, Lu), (.slice a1 Ld.length c1, Ld), (.slice oY DY.length rY, DY), (.slice aY LY.length cY, LY), (.slice oX DX.length rX, DX), (.slice aX LX.length cX, LX)] W))
 case first =>
  refine region_mem (S := (fun W => BoxN W (w.heap.size) 93 #[.bool sX, .slice aX LX.length cX, .bool false, .slice oX DX.length rX] ∧ BoxN W (w.heap.size + 1) 93 #[.bool sY, .slice aY LY.length cY, .bool false, .slice oY DY.length rY] ∧ BoxN W (b5) 42 #[.bool false, .slice a1 Ld.length c1] ∧ BoxN W (b6) 42 #[.bool false, .slice a2 Lu.length c2])) M (by kernel_rfl) ?_
  intro V0 M
  have hS0 : (fun W => BoxN W (w.heap.size) 93 #[.bool sX, .slice aX LX.length cX, .bool false, .slice oX DX.length rX] ∧ BoxN W (w.heap.size + 1) 93 #[.bool sY, .slice aY LY.length cY, .bool false, .slice oY DY.length rY] ∧ BoxN W (b5) 42 #[.bool false, .slice a1 Ld.length c1] ∧ BoxN W (b6) 42 #[.bool false, .slice a2 Lu.length c2]) V0 := ⟨M.box 5 rfl, M.box 4 rfl, M.box 2 rfl, M.box 1 rfl⟩
  refine wtk 0 (.pointer (some ⟨w.heap.size, 2, none⟩)) rfl (fun _ _ _ h => nomatch h.1) (Or.inl ⟨by rfl, fun W3 hS => by obtain ⟨hS1, hS2, hS3, hS4⟩ := hS; go_simp⟩) hS0 ?_
  refine wtk 1 (.agg #[.bool false, .slice oX DX.length rX]) rfl (fun _ _ _ h => nomatch h.1) (Or.inl ⟨by rfl, fun W3 hS => by obtain ⟨hS1, hS2, hS3, hS4⟩ := hS; have c1_0 := hS1.cell 0 _ rfl; have c1_1 := hS1.cell 1 _ rfl; have c1_2 := hS1.cell 2 _ rfl; have c1_3 := hS1.cell 3 _ rfl; go_simp⟩) hS0 ?_
  refine wtk 2 (.agg #[.bool false, .slice a2 Lu.length c2]) rfl (fun _ _ _ h => nomatch h.1) (Or.inl ⟨by rfl, fun W3 hS => by obtain ⟨hS1, hS2, hS3, hS4⟩ := hS; have c4_0 := hS4.cell 0 _ rfl; have c4_1 := hS4.cell 1 _ rfl; go_simp⟩) hS0 ?_
  refine wtk 4 (.pointer (some ⟨w.heap.size + 1, 2, none⟩)) rfl (fun _ _ _ h => nomatch h.1) (Or.inl ⟨by rfl, fun W3 hS => by obtain ⟨hS1, hS2, hS3, hS4⟩ := hS; go_simp⟩) hS0 ?_
  refine wtk 5 (.agg #[.bool false, .slice oY DY.length rY]) rfl (fun _ _ _ h => nomatch h.1) (Or.inl ⟨by rfl, fun W3 hS => by obtain ⟨hS1, hS2, hS3, hS4⟩ := hS; have c2_0 := hS2.cell 0 _ rfl; have c2_1 := hS2.cell 1 _ rfl; have c2_2 := hS2.cell 2 _ rfl; have c2_3 := hS2.cell 3 _ rfl; go_simp⟩) hS0 ?_
  refine wtk 6 (.agg #[.bool false, .slice a1 Ld.length c1]) rfl (fun _ _ _ h => nomatch h.1) (Or.inl ⟨by rfl, fun W3 hS => by obtain ⟨hS1, hS2, hS3, hS4⟩ := hS; have c3_0 := hS3.cell 0 _ rfl; have c3_1 := hS3.cell 1 _ rfl; go_simp⟩) hS0 ?_
  clear hS0
  try simp only [Act.put, List.setIfInBounds_toArray, List.set_cons_zero, List.set_cons_succ]
  refine two_op 3 9 ?_ ?_
  · refine wpOp_intro rfl (fun K1 hK => ?_)
    go_simp
    refine (ka _ (M.get 7 rfl) (M.get 3 rfl)).mono ?_
    rintro e V1_3 ⟨a6, c6, rfl, g, rr⟩
    have M' := (M.up rr).add g
    clear M rr g
    have M := M'; clear M'
    refine hK _ _ ⟨⟨M.box 5 rfl, M.box 4 rfl, M.box 2 rfl, M.box 1 rfl⟩, ?_⟩
    clear hK K1
    refine two_op 7 9 ?_ ?_
    · refine wpOp_intro rfl (fun K2 hK => ?_)
      go_simp
      refine (kb _ (M.get 6 rfl) (M.get 5 rfl)).mono ?_
      rintro e V2_7 ⟨a7, c7, rfl, g, rr⟩
      have M' := (M.up rr).add g
      clear M rr g
      have M := M'; clear M'
      refine hK _ _ ⟨⟨M.box 5 rfl, M.box 4 rfl, M.box 2 rfl, M.box 1 rfl⟩, ?_⟩
      clear hK K2
      refine two_op 8 9 ?_ ?_
      · refine wpOp_intro rfl (fun K3 hK => ?_)
        go_simp
        refine (kn _ (M.get 1 rfl) (M.get 0 rfl)).mono ?_
        rintro e V3_8 ⟨a8, c8, rfl, g, rr⟩
        have M' := (M.up rr).add g
        clear M rr g
        have M := M'; clear M'
        refine hK _ _ ⟨⟨M.box 5 rfl, M.box 4 rfl, M.box 2 rfl, M.box 1 rfl⟩, ?_⟩
        clear hK K3
        refine one_op 9 rfl (fun K4 hK => ?_)
        go_simp
        obtain ⟨b8, V4_9, hV, hb, M'⟩ := M.fresh 42 [.bool false, .slice none 0 0]
        rw [← hV, ← hb]
        clear M hV hb; have M := M'; clear M'
        refine hK _ _ ⟨⟨M.box 6 rfl, M.box 5 rfl, M.box 3 rfl, M.box 2 rfl⟩, ?_⟩
        clear hK K4
        have f0_0 := M.fr 0 rfl 0; have f0_1 := M.fr 0 rfl 1
        have z0_0 := M.cell 0 rfl 0 rfl; have z0_1 := M.cell 0 rfl 1 rfl
        refine one_op 10 rfl (fun Ks5 hK => ?_)
        go_simp
        have M' := ((M.put 0 rfl rfl 0 (.bool false)).put 0 rfl rfl 1 (.slice a8 DZ.length c8))
        clear M f0_0 z0_0 f0_1 z0_1
        simp only [List.set_cons_zero, List.set_cons_succ] at M'
        have M := M'
        clear M'
        refine hK _ _ ⟨⟨M.box 6 rfl, M.box 5 rfl, M.box 3 rfl, M.box 2 rfl⟩, ?_⟩
        clear hK Ks5
        refine wdn ?_
        exact ⟨rfl, b8, a6, c6, a7, c7, a8, c8, rfl, M⟩
      · refine wpOp_intro rfl (fun K3 hK => ?_)
        go_simp
        obtain ⟨b8, V3_9, hV, hb, M'⟩ := M.fresh 42 [.bool false, .slice none 0 0]
        rw [← hV, ← hb]
        clear M hV hb; have M := M'; clear M'
        refine hK _ _ ⟨⟨M.box 6 rfl, M.box 5 rfl, M.box 3 rfl, M.box 2 rfl⟩, ?_⟩
        clear hK K3
        refine one_op 8 rfl (fun K6 hK => ?_)
        go_simp
        refine (kn _ (M.get 1 rfl) (M.get 0 rfl)).mono ?_
        rintro e V6_8 ⟨a8, c8, rfl, g, rr⟩
        have M' := (M.up rr).add g
        clear M rr g
        have M := M'; clear M'
        refine hK _ _ ⟨⟨M.box 6 rfl, M.box 5 rfl, M.box 3 rfl, M.box 2 rfl⟩, ?_⟩
        clear hK K6
        have f0_0 := M.fr 0 rfl 0; have f0_1 := M.fr 0 rfl 1
        have z0_0 := M.cell 0 rfl 0 rfl; have z0_1 := M.cell 0 rfl 1 rfl
        refine one_op 10 rfl (fun Ks7 hK => ?_)
        go_simp
        have M' := ((M.put 0 rfl rfl 0 (.bool false)).put 0 rfl rfl 1 (.slice a8 DZ.length c8))
        clear M f0_0 z0_0 f0_1 z0_1
        simp only [List.set_cons_zero, List.set_cons_succ] at M'
        have M := M'
        clear M'
        refine hK _ _ ⟨⟨M.box 6 rfl, M.box 5 rfl, M.box 3 rfl, M.box 2 rfl⟩, ?_⟩
        clear hK Ks7
        refine wdn ?_
        exact ⟨rfl, b8, a6, c6, a7, c7, a8, c8, rfl, M⟩
    · refine wpOp_intro rfl (fun K2 hK => ?_)
      go_simp
      obtain ⟨b8, V2_9, hV, hb, M'⟩ := M.fresh 42 [.bool false, .slice none 0 0]
      rw [← hV, ← hb]
      clear M hV hb; have M := M'; clear M'
      refine hK _ _ ⟨⟨M.box 6 rfl, M.box 5 rfl, M.box 3 rfl, M.box 2 rfl⟩, ?_⟩
      clear hK K2
      refine one_op 7 rfl (fun K8 hK => ?_)
      go_simp
      refine (kb _ (M.get 6 rfl) (M.get 5 rfl)).mono ?_
      rintro e V8_7 ⟨a7, c7, rfl, g, rr⟩
      have M' := (M.up rr).add g
      clear M rr g
      have M := M'; clear M'
      refine hK _ _ ⟨⟨M.box 6 rfl, M.box 5 rfl, M.box 3 rfl, M.box 2 rfl⟩, ?_⟩
      clear hK K8
      refine one_op 8 rfl (fun K9 hK => ?_)
      go_simp
      refine (kn _ (M.get 1 rfl) (M.get 0 rfl)).mono ?_
      rintro e V9_8 ⟨a8, c8, rfl, g, rr⟩
      have M' := (M.up rr).add g
      clear M rr g
      have M := M'; clear M'
      refine hK _ _ ⟨⟨M.box 6 rfl, M.box 5 rfl, M.box 3 rfl, M.box 2 rfl⟩, ?_⟩
      clear hK K9
      have f0_0 := M.fr 0 rfl 0; have f0_1 := M.fr 0 rfl 1
      have z0_0 := M.cell 0 rfl 0 rfl; have z0_1 := M.cell 0 rfl 1 rfl
      refine one_op 10 rfl (fun Ks10 hK => ?_)
      go_simp
      have M' := ((M.put 0 rfl rfl 0 (.bool false)).put 0 rfl rfl 1 (.slice a8 DZ.length c8))
      clear M f0_0 z0_0 f0_1 z0_1
      simp only [List.set_cons_zero, List.set_cons_succ] at M'
      have M := M'
      clear M'
      refine hK _ _ ⟨⟨M.box 6 rfl, M.box 5 rfl, M.box 3 rfl, M.box 2 rfl⟩, ?_⟩
      clear hK Ks10
      refine wdn ?_
      exact ⟨rfl, b8, a6, c6, a7, c7, a8, c8, rfl, M⟩
  · refine wpOp_intro rfl (fun K1 hK => ?_)
    go_simp
    obtain ⟨b8, V1_9, hV, hb, M'⟩ := M.fresh 42 [.bool false, .slice none 0 0]
    rw [← hV, ← hb]
    clear M hV hb; have M := M'; clear M'
    refine hK _ _ ⟨⟨M.box 6 rfl, M.box 5 rfl, M.box 3 rfl, M.box 2 rfl⟩, ?_⟩
    clear hK K1
    refine one_op 3 rfl (fun K11 hK => ?_)
    go_simp
    refine (ka _ (M.get 7 rfl) (M.get 3 rfl)).mono ?_
    rintro e V11_3 ⟨a6, c6, rfl, g, rr⟩
    have M' := (M.up rr).add g
    clear M rr g
    have M := M'; clear M'
    refine hK _ _ ⟨⟨M.box 6 rfl, M.box 5 rfl, M.box 3 rfl, M.box 2 rfl⟩, ?_⟩
    clear hK K11
    refine one_op 7 rfl (fun K12 hK => ?_)
    go_simp
    refine (kb _ (M.get 6 rfl) (M.get 5 rfl)).mono ?_
    rintro e V12_7 ⟨a7, c7, rfl, g, rr⟩
    have M' := (M.up rr).add g
    clear M rr g
    have M := M'; clear M'
    refine hK _ _ ⟨⟨M.box 6 rfl, M.box 5 rfl, M.box 3 rfl, M.box 2 rfl⟩, ?_⟩
    clear hK K12
    refine one_op 8 rfl (fun K13 hK => ?_)
    go_simp
    refine (kn _ (M.get 1 rfl) (M.get 0 rfl)).mono ?_
    rintro e V13_8 ⟨a8, c8, rfl, g, rr⟩
    have M' := (M.up rr).add g
    clear M rr g
    have M := M'; clear M'
    refine hK _ _ ⟨⟨M.box 6 rfl, M.box 5 rfl, M.box 3 rfl, M.box 2 rfl⟩, ?_⟩
    clear hK K13
    have f0_0 := M.fr 0 rfl 0; have f0_1 := M.fr 0 rfl 1
    have z0_0 := M.cell 0 rfl 0 rfl; have z0_1 := M.cell 0 rfl 1 rfl
    refine one_op 10 rfl (fun Ks14 hK => ?_)
    go_simp
    have M' := ((M.put 0 rfl rfl 0 (.bool false)).put 0 rfl rfl 1 (.slice a8 DZ.length c8))
    clear M f0_0 z0_0 f0_1 z0_1
    simp only [List.set_cons_zero, List.set_cons_succ] at M'
    have M := M'
    clear M'
    refine hK _ _ ⟨⟨M.box 6 rfl, M.box 5 rfl, M.box 3 rfl, M.box 2 rfl⟩, ?_⟩
    clear hK Ks14
    refine wdn ?_
    exact ⟨rfl, b8, a6, c6, a7, c7, a8, c8, rfl, M⟩
 intro b8 a6 c6 a7 c7 a8 c8 V M
 have z0_0 := M.cell 0 rfl 0 rfl; have z0_1 := M.cell 0 rfl 1 rfl; have z1_0 := M.cell 1 rfl 0 rfl; have z1_1 := M.cell 1 rfl 1 rfl
 go_wp2_with (go_at_call 64; refine (fraction_any _ _ _ _ _ _ _ _ _).mono ?_; rintro e V2 ⟨rfl, rr⟩; have M' := M.up rr; clear M rr; have M := M'; clear M'; have z4_0 := M.cell 4 rfl 0 rfl; have z4_1 := M.cell 4 rfl 1 rfl; have z4_2 := M.cell 4 rfl 2 rfl; have f4_0 := M.fr 4 rfl 0; have f4_1 := M.fr 4 rfl 1; have f4_2 := M.fr 4 rfl 2)
 have M' := ((M.put 4 rfl rfl 0 (.bool sZ)).put 4 rfl rfl 1 (.slice a5 LZ.length c5)).put 4 rfl rfl 2 (.slice a8 DZ.length c8)
 refine ret_boxN rfl rfl (M'.box 4 rfl) Tryz.underlying44 size_rat rfl ?_
 exact ⟨a5, c5, a8, c8, rfl, M'.get 3 rfl, M'.get 0 rfl, M'.below⟩
end Go.Proofs.YtgmbaamfobhceaaGreat
