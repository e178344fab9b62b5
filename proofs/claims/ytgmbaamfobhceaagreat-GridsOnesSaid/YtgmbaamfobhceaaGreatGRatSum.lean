/- Fractions: sums and differences. -/
import Derived.Test.YtgmbaamfobhceaaGreatGRatMul
set_option linter.unusedSimpArgs false
set_option linter.unusedVariables false
set_option maxRecDepth 100000
set_option maxHeartbeats 8000000
namespace Go.Proofs.YtgmbaamfobhceaaGreat
open Go Go.Proofs Go.RowKit Go.Shelf Nu
attribute [local go_sem] Oper.semAt_some
theorem joinFn_any {w : World} {aX oX aY oY : Option Addr} {cX rX cY rY : Nat} {sX sY sZ : Bool} {LX DX LY DY LZ DZ : List Nat} {X Y Z : Rat} {J cb : Nat} (join : Int → Int → Int) (hj : (join = (fun a b => a + b) ∧ Z = X + Y) ∨ (join = (fun a b => a - b) ∧ Z = X - Y))
  (kj : ∀ (W : World) {s1 s2 s3 : Bool} {L1 L2 L3 : List Nat} {p1 p2 : Option Addr} {q1 q2 : Nat} {A B C : Int} (hA : Is s1 L1 A) (hB : Is s2 L2 B) (hC : Can s3 L3 C) (e : C = join A B) (l1 : L1.length ≤ 50000) (l2 : L2.length ≤ 50000) (h1 : Reads W (.slice p1 L1.length q1) L1) (h2 : Reads W (.slice p2 L2.length q2) L2),
    Calls Tryz.prog J #[.agg #[.bool s1, .slice p1 L1.length q1], .agg #[.bool s2, .slice p2 L2.length q2]] W fun e w' => ∃ a c, e = .returned (.agg #[.bool s3, .slice a L3.length c]) ∧ Reads w' (.slice a L3.length c) L3 ∧ Below W.heap.size W w')
  (hE : ∀ (args : Array Value) (w : World), (callFunc J args).run Tryz.prog w = .ok (.enter J args) w)
  (hcb : BoxN w cb 114 #[.func (.func J) #[] #[]])
  (kX : RCan sX LX DX X) (kY : RCan sY LY DY Y) (kZ : RCan sZ LZ DZ Z) (b1 : LX.length ≤ 18000) (b2 : DX.length ≤ 18000) (b3 : LY.length ≤ 18000) (b4 : DY.length ≤ 18000) (g1 : Reads w (.slice aX LX.length cX) LX) (g2 : Reads w (.slice oX DX.length rX) DX) (g3 : Reads w (.slice aY LY.length cY) LY) (g4 : Reads w (.slice oY DY.length rY) DY) :
  Calls Tryz.prog 140 #[.agg #[.bool sX, .slice aX LX.length cX, .bool false, .slice oX DX.length rX], .agg #[.bool sY, .slice aY LY.length cY, .bool false, .slice oY DY.length rY], .pointer (some ⟨cb, 0, none⟩)] w fun e w' => ∃ a c a' c', e = .returned (.agg #[.bool sZ, .slice a LZ.length c, .slice a' DZ.length c']) ∧ Reads w' (.slice a LZ.length c) LZ ∧ Reads w' (.slice a' DZ.length c') DZ ∧ Below w.heap.size w w' := by
 obtain ⟨g, xr, yr, tt, g', s, s', hg, g0, ex, ey, es, ht, t0, es', ey', e5, e6⟩ := rsum_parts X Y Z join hj
 obtain ⟨P, hP⟩ : ∃ P, P = X.num * (yr : Int) := ⟨_, rfl⟩
 obtain ⟨Q, hQ⟩ : ∃ Q, Q = Y.num * (xr : Int) := ⟨_, rfl⟩
 rw [← hP, ← hQ] at es
 obtain ⟨Lg, hLg⟩ : ∃ L, L = digs g := ⟨_, rfl⟩
 obtain ⟨Lx, hLx⟩ : ∃ L, L = digs xr := ⟨_, rfl⟩
 obtain ⟨Ly, hLy⟩ : ∃ L, L = digs yr := ⟨_, rfl⟩
 obtain ⟨Lt, hLt⟩ : ∃ L, L = digs tt := ⟨_, rfl⟩
 obtain ⟨Lr, hLr⟩ : ∃ L, L = digs (yr * g') := ⟨_, rfl⟩
 obtain ⟨sP, LP, cP⟩ := Can.ex P
 obtain ⟨sQ, LQ, cQ⟩ := Can.ex Q
 obtain ⟨sS, LS, cS⟩ := Can.ex s
 have hs : sS = sZ := by rw [(cS.div es' t0).1, kZ.1.1, e5]
 have hl : digs s'.natAbs = LZ := by rw [kZ.1.2, e5]
 rw [hs] at cS
 have cN := cS.div es' t0
 rw [hl] at cN
 have cg := canL hLg
 have cx := canL hLx
 have cy := canL hLy
 have ct := canL hLt
 have cr := canL hLr
 have lg : Lg.length ≤ 18000 := by rw [hLg]; have := digs_mono (gcd_le (a := X.den) Y.den_nz); rw [← hg, ← kY.2] at this; omega
 have lx : Lx.length ≤ 18000 := by rw [hLx]; have := len_leN ex g0; rw [← kX.2] at this; omega
 have ly : Ly.length ≤ 18000 := by rw [hLy]; have := len_leN ey g0; rw [← kY.2] at this; omega
 have lt : Lt.length ≤ 18000 := by rw [hLt]; have h1 := digs_mono (gcd_le (a := s.natAbs) g0); rw [← ht, ← hLg] at h1; omega
 have lr : Lr.length ≤ 18000 := by rw [hLr]; have := len_leN ey' t0; rw [← kY.2] at this; omega
 have lP : LP.length ≤ 36000 := by have := Can.len_mul kX.1.is cy.is cP hP; omega
 have lQ : LQ.length ≤ 36000 := by have := Can.len_mul kY.1.is cx.is cQ hQ; omega
 have lS : LS.length ≤ 72001 := by
  have e' : s = P + Q ∨ s = P - Q := by
    rcases hj with ⟨rfl, _⟩ | ⟨rfl, _⟩
    · exact .inl es
    · exact .inr es
  have := Can.len_add cP.is cQ.is cS e'; omega
 have kg := fun (W : World) {p1 p2 : Option Addr} {q1 q2 : Nat} (h1 : Reads W (.slice p1 DX.length q1) DX) (h2 : Reads W (.slice p2 DY.length q2) DY) => common_any (s1 := false) (s2 := false) (L3 := Lg) kX.2 kY.2 (by rw [hLg, hg]) (by omega) (by omega) h1 h2
 have kx := fun (W : World) {p1 p2 : Option Addr} {q1 q2 : Nat} (h1 : Reads W (.slice p1 DX.length q1) DX) (h2 : Reads W (.slice p2 Lg.length q2) Lg) => over_any (s2 := false) (canL kX.2) hLg cx (by rw [ex]; push_cast; rfl) g0 (by omega) (by omega) h1 h2
 have ky := fun (W : World) {p1 p2 : Option Addr} {q1 q2 : Nat} (h1 : Reads W (.slice p1 DY.length q1) DY) (h2 : Reads W (.slice p2 Lg.length q2) Lg) => over_any (s2 := false) (canL kY.2) hLg cy (by rw [ey]; push_cast; rfl) g0 (by omega) (by omega) h1 h2
 have kp := fun (W : World) {p1 p2 : Option Addr} {q1 q2 : Nat} (h1 : Reads W (.slice p1 LX.length q1) LX) (h2 : Reads W (.slice p2 Ly.length q2) Ly) => q_mul kX.1.is cy.is cP hP (by omega) (by omega) h1 h2
 have kq := fun (W : World) {p1 p2 : Option Addr} {q1 q2 : Nat} (h1 : Reads W (.slice p1 LY.length q1) LY) (h2 : Reads W (.slice p2 Lx.length q2) Lx) => q_mul kY.1.is cx.is cQ hQ (by omega) (by omega) h1 h2
 have ks := fun (W : World) {p1 p2 : Option Addr} {q1 q2 : Nat} (h1 : Reads W (.slice p1 LP.length q1) LP) (h2 : Reads W (.slice p2 LQ.length q2) LQ) => kj W cP.is cQ.is cS es (by omega) (by omega) h1 h2
 have kt := fun (W : World) {p1 p2 : Option Addr} {q1 q2 : Nat} (h1 : Reads W (.slice p1 LS.length q1) LS) (h2 : Reads W (.slice p2 Lg.length q2) Lg) => common_any (s1 := sZ) (s2 := false) (L3 := Lt) cS.2 hLg (by rw [hLt, ht]) (by omega) (by omega) h1 h2
 have kn := fun (W : World) {p1 p2 : Option Addr} {q1 q2 : Nat} (h1 : Reads W (.slice p1 LS.length q1) LS) (h2 : Reads W (.slice p2 Lt.length q2) Lt) => over_any (s2 := false) cS hLt cN es' t0 (by omega) (by omega) h1 h2
 have kr := fun (W : World) {p1 p2 : Option Addr} {q1 q2 : Nat} (h1 : Reads W (.slice p1 DY.length q1) DY) (h2 : Reads W (.slice p2 Lt.length q2) Lt) => over_any (s2 := false) (canL kY.2) hLt cr (by rw [ey']; push_cast; rfl) t0 (by omega) (by omega) h1 h2
 have kd := fun (W : World) {p1 p2 : Option Addr} {q1 q2 : Nat} (h1 : Reads W (.slice p1 Lx.length q1) Lx) (h2 : Reads W (.slice p2 Lr.length q2) Lr) => q_mul cx.is cr.is (canL kZ.2) (by rw [e6]; push_cast; rfl) (by omega) (by omega) h1 h2
 have M : Mem w [(w.heap.size + 1 + 1, 44, [.bool false, .slice none 0 0, .slice none 0 0]), (w.heap.size + 1, 93, [.bool sY, .slice aY LY.length cY, .bool false, .slice oY DY.length rY]), (w.heap.size, 93, [.bool sX, .slice aX LX.length cX, .bool false, .slice oX DX.length rX])] [(.slice oY DY.length rY, DY), (.slice aY LY.length cY, LY), (.slice oX DX.length rX, DX), (.slice aX LX.length cX, LX)] (((w.alloc (.cells #[.bool sX, .slice aX LX.length cX, .bool false, .slice oX DX.length rX] 93)).alloc (.cells #[.bool sY, .slice aY LY.length cY, .bool false, .slice oY DY.length rY] 93)).alloc (.cells #[.bool false, .slice none 0 0, .slice none 0 0] 44)) := by
  have M := ((((((((Mem.start w).add g1).add g2).add g3).add g4).new 93 [.bool sX, .slice aX LX.length cX, .bool false, .slice oX DX.length rX]).new 93 [.bool sY, .slice aY LY.length cY, .bool false, .slice oY DY.length rY]).new 44 [.bool false, .slice none 0 0, .slice none 0 0])
  simpa only [World.size_alloc] using M
 clear g1 g2 g3 g4 b1 b2 b3 b4 kX kY kZ hj hg g0 ex ey es ht t0 es' ey' e5 e6 hP hQ hLg hLx hLy hLt hLr cP cQ cS cN cg cx cy ct cr hl hs lg lx ly lt lr lP lQ lS kj
 go_enter Tryz.func140, Tryz.ntmps140
 go_wp2_with (go_at_call 106; refine (kg _ (M.get 2 rfl) (M.get 0 rfl)).mono ?_; rintro e w1 ⟨a1, c1, rfl, g, rr⟩; have M' := ((M.up rr).add g).new 42 [.bool false, .slice a1 Lg.length c1]; clear M rr g; have M := M'; clear M')
 obtain ⟨b6, W1, hb6, hW1⟩ : ∃ b V, b = w1.heap.size ∧ V = w1.alloc (.cells #[.bool false, .slice a1 Lg.length c1] 42) := ⟨_, _, rfl, rfl⟩
 rw [← hb6, ← hW1] at M ⊢
 clear hb6 hW1
 apply region_cut_nnss (Fact := (fun b7 b8 a2 c2 a3 c3 W => Mem w [(b8, 42, [.bool false, .slice a3 Ly.length c3]), (b7, 42, [.bool false, .slice a2 Lx.length c2]), (b6, 42, [.bool false, .slice a1 Lg.length c1]), (w.heap.size + 1 + 1, 44, [.bool false, .slice none 0 0, .slice none 0 0]), (w.heap.size + 1, 93, [.bool sY, .slice aY LY.length cY, .bool false, .slice oY DY.length rY]), (w.heap.size, 93, [.bool sX, .slice aX LX.length cX, .bool false, .slice oX DX.length rX])] [(.slice a3 Ly.length c3, Ly), (.slice a2 Lx.length c2, Lx), (.slice a1 Lg.length c1, Lg), (.slice oY DY.length rY, DY), (.slice aY LY.length cY, LY), (.slice oX DX.length rX, DX), (.slice aX LX.length cX, LX)] W))
 case first =>
  refine region_mem (S := (fun W => BoxN W (w.heap.size) 93 #[.bool sX, .slice aX LX.length cX, .bool false, .slice oX DX.length rX] ∧ BoxN W (w.heap.size + 1) 93 #[.bool sY, .slice aY LY.length cY, .bool false, .slice oY DY.length rY] ∧ BoxN W (b6) 42 #[.bool false, .slice a1 Lg.length c1])) M (by kernel_rfl) ?_
  intro V0 M
  have hS0 : (fun W => BoxN W (w.heap.size) 93 #[.bool sX, .slice aX LX.length cX, .bool false, .slice oX DX.length rX] ∧ BoxN W (w.heap.size + 1) 93 #[.bool sY, .slice aY LY.length cY, .bool false, .slice oY DY.length rY] ∧ BoxN W (b6) 42 #[.bool false, .slice a1 Lg.length c1]) V0 := ⟨M.box 3 rfl, M.box 2 rfl, M.box 0 rfl⟩
  refine wtk 0 (.pointer (some ⟨w.heap.size, 2, none⟩)) rfl (fun _ _ _ h => nomatch h.1) (Or.inl ⟨by rfl, fun W3 hS => by obtain ⟨hS1, hS2, hS3⟩ := hS; go_simp⟩) hS0 ?_
  refine wtk 1 (.agg #[.bool false, .slice oX DX.length rX]) rfl (fun _ _ _ h => nomatch h.1) (Or.inl ⟨by rfl, fun W3 hS => by obtain ⟨hS1, hS2, hS3⟩ := hS; have c1_0 := hS1.cell 0 _ rfl; have c1_1 := hS1.cell 1 _ rfl; have c1_2 := hS1.cell 2 _ rfl; have c1_3 := hS1.cell 3 _ rfl; go_simp⟩) hS0 ?_
  refine wtk 2 (.agg #[.bool false, .slice a1 Lg.length c1]) rfl (fun _ _ _ h => nomatch h.1) (Or.inl ⟨by rfl, fun W3 hS => by obtain ⟨hS1, hS2, hS3⟩ := hS; have c3_0 := hS3.cell 0 _ rfl; have c3_1 := hS3.cell 1 _ rfl; go_simp⟩) hS0 ?_
  refine wtk 4 (.pointer (some ⟨w.heap.size + 1, 2, none⟩)) rfl (fun _ _ _ h => nomatch h.1) (Or.inl ⟨by rfl, fun W3 hS => by obtain ⟨hS1, hS2, hS3⟩ := hS; go_simp⟩) hS0 ?_
  refine wtk 5 (.agg #[.bool false, .slice oY DY.length rY]) rfl (fun _ _ _ h => nomatch h.1) (Or.inl ⟨by rfl, fun W3 hS => by obtain ⟨hS1, hS2, hS3⟩ := hS; have c2_0 := hS2.cell 0 _ rfl; have c2_1 := hS2.cell 1 _ rfl; have c2_2 := hS2.cell 2 _ rfl; have c2_3 := hS2.cell 3 _ rfl; go_simp⟩) hS0 ?_
  refine wtk 6 (.agg #[.bool false, .slice a1 Lg.length c1]) rfl (fun _ _ _ h => nomatch h.1) (Or.inl ⟨by rfl, fun W3 hS => by obtain ⟨hS1, hS2, hS3⟩ := hS; have c3_0 := hS3.cell 0 _ rfl; have c3_1 := hS3.cell 1 _ rfl; go_simp⟩) hS0 ?_
  clear hS0
  try simp only [Act.put, List.setIfInBounds_toArray, List.set_cons_zero, List.set_cons_succ]
  refine three_op 3 8 9 ?_ ?_ ?_
  · refine wpOp_intro rfl (fun K1 hK => ?_)
    go_simp
    refine (kx _ (M.get 3 rfl) (M.get 0 rfl)).mono ?_
    rintro e V1_3 ⟨a2, c2, rfl, g, rr⟩
    have M' := (M.up rr).add g
    clear M rr g
    have M := M'; clear M'
    refine hK _ _ ⟨⟨M.box 3 rfl, M.box 2 rfl, M.box 0 rfl⟩, ?_⟩
    clear hK K1
    refine three_op 7 8 9 ?_ ?_ ?_
    · refine wpOp_intro rfl (fun K2 hK => ?_)
      go_simp
      refine (ky _ (M.get 2 rfl) (M.get 1 rfl)).mono ?_
      rintro e V2_7 ⟨a3, c3, rfl, g, rr⟩
      have M' := (M.up rr).add g
      clear M rr g
      have M := M'; clear M'
      refine hK _ _ ⟨⟨M.box 3 rfl, M.box 2 rfl, M.box 0 rfl⟩, ?_⟩
      clear hK K2
      refine two_op 8 9 ?_ ?_
      · refine wpOp_intro rfl (fun K3 hK => ?_)
        go_simp
        obtain ⟨b7, V3_8, hV, hb, M'⟩ := M.fresh 42 [.bool false, .slice none 0 0]
        rw [← hV, ← hb]
        clear M hV hb; have M := M'; clear M'
        refine hK _ _ ⟨⟨M.box 4 rfl, M.box 3 rfl, M.box 1 rfl⟩, ?_⟩
        clear hK K3
        refine one_op 9 rfl (fun K4 hK => ?_)
        go_simp
        obtain ⟨b8, V4_9, hV, hb, M'⟩ := M.fresh 42 [.bool false, .slice none 0 0]
        rw [← hV, ← hb]
        clear M hV hb; have M := M'; clear M'
        refine hK _ _ ⟨⟨M.box 5 rfl, M.box 4 rfl, M.box 2 rfl⟩, ?_⟩
        clear hK K4
        have f1_0 := M.fr 1 rfl 0; have f1_1 := M.fr 1 rfl 1
        have z1_0 := M.cell 1 rfl 0 rfl; have z1_1 := M.cell 1 rfl 1 rfl
        refine one_op 10 rfl (fun Ks5 hK => ?_)
        go_simp
        have M' := ((M.put 1 rfl rfl 0 (.bool false)).put 1 rfl rfl 1 (.slice a2 Lx.length c2))
        clear M f1_0 z1_0 f1_1 z1_1
        simp only [List.set_cons_zero, List.set_cons_succ] at M'
        have M := M'
        clear M'
        refine hK _ _ ⟨⟨M.box 5 rfl, M.box 4 rfl, M.box 2 rfl⟩, ?_⟩
        clear hK Ks5
        have f0_0 := M.fr 0 rfl 0; have f0_1 := M.fr 0 rfl 1
        have z0_0 := M.cell 0 rfl 0 rfl; have z0_1 := M.cell 0 rfl 1 rfl
        refine one_op 11 rfl (fun Ks6 hK => ?_)
        go_simp
        have M' := ((M.put 0 rfl rfl 0 (.bool false)).put 0 rfl rfl 1 (.slice a3 Ly.length c3))
        clear M f0_0 z0_0 f0_1 z0_1
        simp only [List.set_cons_zero, List.set_cons_succ] at M'
        have M := M'
        clear M'
        refine hK _ _ ⟨⟨M.box 5 rfl, M.box 4 rfl, M.box 2 rfl⟩, ?_⟩
        clear hK Ks6
        refine wdn ?_
        exact ⟨rfl, b7, b8, a2, c2, a3, c3, rfl, M⟩
      · refine wpOp_intro rfl (fun K3 hK => ?_)
        go_simp
        obtain ⟨b8, V3_9, hV, hb, M'⟩ := M.fresh 42 [.bool false, .slice none 0 0]
        rw [← hV, ← hb]
        clear M hV hb; have M := M'; clear M'
        refine hK _ _ ⟨⟨M.box 4 rfl, M.box 3 rfl, M.box 1 rfl⟩, ?_⟩
        clear hK K3
        refine one_op 8 rfl (fun K7 hK => ?_)
        go_simp
        obtain ⟨b7, V7_8, hV, hb, M'⟩ := M.fresh 42 [.bool false, .slice none 0 0]
        rw [← hV, ← hb]
        clear M hV hb; have M := M'; clear M'
        refine hK _ _ ⟨⟨M.box 5 rfl, M.box 4 rfl, M.box 2 rfl⟩, ?_⟩
        clear hK K7
        have f0_0 := M.fr 0 rfl 0; have f0_1 := M.fr 0 rfl 1
        have z0_0 := M.cell 0 rfl 0 rfl; have z0_1 := M.cell 0 rfl 1 rfl
        refine one_op 10 rfl (fun Ks8 hK => ?_)
        go_simp
        have M' := ((M.put 0 rfl rfl 0 (.bool false)).put 0 rfl rfl 1 (.slice a2 Lx.length c2))
        clear M f0_0 z0_0 f0_1 z0_1
        simp only [List.set_cons_zero, List.set_cons_succ] at M'
        have M := M'
        clear M'
        refine hK _ _ ⟨⟨M.box 5 rfl, M.box 4 rfl, M.box 2 rfl⟩, ?_⟩
        clear hK Ks8
        have f1_0 := M.fr 1 rfl 0; have f1_1 := M.fr 1 rfl 1
        have z1_0 := M.cell 1 rfl 0 rfl; have z1_1 := M.cell 1 rfl 1 rfl
        refine one_op 11 rfl (fun Ks9 hK => ?_)
        go_simp
        have M' := ((M.put 1 rfl rfl 0 (.bool false)).put 1 rfl rfl 1 (.slice a3 Ly.length c3))
        clear M f1_0 z1_0 f1_1 z1_1
        simp only [List.set_cons_zero, List.set_cons_succ] at M'
        have M := M'
        clear M'
        refine hK _ _ ⟨⟨M.box 5 rfl, M.box 4 rfl, M.box 2 rfl⟩, ?_⟩
        clear hK Ks9
        refine wdn ?_
        have M' := M.swap; clear M; have M := M'; clear M'
        exact ⟨rfl, b7, b8, a2, c2, a3, c3, rfl, M⟩
    · refine wpOp_intro rfl (fun K2 hK => ?_)
      go_simp
      obtain ⟨b7, V2_8, hV, hb, M'⟩ := M.fresh 42 [.bool false, .slice none 0 0]
      rw [← hV, ← hb]
      clear M hV hb; have M := M'; clear M'
      refine hK _ _ ⟨⟨M.box 4 rfl, M.box 3 rfl, M.box 1 rfl⟩, ?_⟩
      clear hK K2
      refine two_op 7 9 ?_ ?_
      · refine wpOp_intro rfl (fun K10 hK => ?_)
        go_simp
        refine (ky _ (M.get 2 rfl) (M.get 1 rfl)).mono ?_
        rintro e V10_7 ⟨a3, c3, rfl, g, rr⟩
        have M' := (M.up rr).add g
        clear M rr g
        have M := M'; clear M'
        refine hK _ _ ⟨⟨M.box 4 rfl, M.box 3 rfl, M.box 1 rfl⟩, ?_⟩
        clear hK K10
        refine one_op 9 rfl (fun K11 hK => ?_)
        go_simp
        obtain ⟨b8, V11_9, hV, hb, M'⟩ := M.fresh 42 [.bool false, .slice none 0 0]
        rw [← hV, ← hb]
        clear M hV hb; have M := M'; clear M'
        refine hK _ _ ⟨⟨M.box 5 rfl, M.box 4 rfl, M.box 2 rfl⟩, ?_⟩
        clear hK K11
        have f1_0 := M.fr 1 rfl 0; have f1_1 := M.fr 1 rfl 1
        have z1_0 := M.cell 1 rfl 0 rfl; have z1_1 := M.cell 1 rfl 1 rfl
        refine one_op 10 rfl (fun Ks12 hK => ?_)
        go_simp
        have M' := ((M.put 1 rfl rfl 0 (.bool false)).put 1 rfl rfl 1 (.slice a2 Lx.length c2))
        clear M f1_0 z1_0 f1_1 z1_1
        simp only [List.set_cons_zero, List.set_cons_succ] at M'
        have M := M'
        clear M'
        refine hK _ _ ⟨⟨M.box 5 rfl, M.box 4 rfl, M.box 2 rfl⟩, ?_⟩
        clear hK Ks12
        have f0_0 := M.fr 0 rfl 0; have f0_1 := M.fr 0 rfl 1
        have z0_0 := M.cell 0 rfl 0 rfl; have z0_1 := M.cell 0 rfl 1 rfl
        refine one_op 11 rfl (fun Ks13 hK => ?_)
        go_simp
        have M' := ((M.put 0 rfl rfl 0 (.bool false)).put 0 rfl rfl 1 (.slice a3 Ly.length c3))
        clear M f0_0 z0_0 f0_1 z0_1
        simp only [List.set_cons_zero, List.set_cons_succ] at M'
        have M := M'
        clear M'
        refine hK _ _ ⟨⟨M.box 5 rfl, M.box 4 rfl, M.box 2 rfl⟩, ?_⟩
        clear hK Ks13
        refine wdn ?_
        exact ⟨rfl, b7, b8, a2, c2, a3, c3, rfl, M⟩
      · refine wpOp_intro rfl (fun K10 hK => ?_)
        go_simp
        obtain ⟨b8, V10_9, hV, hb, M'⟩ := M.fresh 42 [.bool false, .slice none 0 0]
        rw [← hV, ← hb]
        clear M hV hb; have M := M'; clear M'
        refine hK _ _ ⟨⟨M.box 5 rfl, M.box 4 rfl, M.box 2 rfl⟩, ?_⟩
        clear hK K10
        refine one_op 7 rfl (fun K14 hK => ?_)
        go_simp
        refine (ky _ (M.get 2 rfl) (M.get 1 rfl)).mono ?_
        rintro e V14_7 ⟨a3, c3, rfl, g, rr⟩
        have M' := (M.up rr).add g
        clear M rr g
        have M := M'; clear M'
        refine hK _ _ ⟨⟨M.box 5 rfl, M.box 4 rfl, M.box 2 rfl⟩, ?_⟩
        clear hK K14
        have f1_0 := M.fr 1 rfl 0; have f1_1 := M.fr 1 rfl 1
        have z1_0 := M.cell 1 rfl 0 rfl; have z1_1 := M.cell 1 rfl 1 rfl
        refine one_op 10 rfl (fun Ks15 hK => ?_)
        go_simp
        have M' := ((M.put 1 rfl rfl 0 (.bool false)).put 1 rfl rfl 1 (.slice a2 Lx.length c2))
        clear M f1_0 z1_0 f1_1 z1_1
        simp only [List.set_cons_zero, List.set_cons_succ] at M'
        have M := M'
        clear M'
        refine hK _ _ ⟨⟨M.box 5 rfl, M.box 4 rfl, M.box 2 rfl⟩, ?_⟩
        clear hK Ks15
        have f0_0 := M.fr 0 rfl 0; have f0_1 := M.fr 0 rfl 1
        have z0_0 := M.cell 0 rfl 0 rfl; have z0_1 := M.cell 0 rfl 1 rfl
        refine one_op 11 rfl (fun Ks16 hK => ?_)
        go_simp
        have M' := ((M.put 0 rfl rfl 0 (.bool false)).put 0 rfl rfl 1 (.slice a3 Ly.length c3))
        clear M f0_0 z0_0 f0_1 z0_1
        simp only [List.set_cons_zero, List.set_cons_succ] at M'
        have M := M'
        clear M'
        refine hK _ _ ⟨⟨M.box 5 rfl, M.box 4 rfl, M.box 2 rfl⟩, ?_⟩
        clear hK Ks16
        refine wdn ?_
        exact ⟨rfl, b7, b8, a2, c2, a3, c3, rfl, M⟩
    · refine wpOp_intro rfl (fun K2 hK => ?_)
      go_simp
      obtain ⟨b8, V2_9, hV, hb, M'⟩ := M.fresh 42 [.bool false, .slice none 0 0]
      rw [← hV, ← hb]
      clear M hV hb; have M := M'; clear M'
      refine hK _ _ ⟨⟨M.box 4 rfl, M.box 3 rfl, M.box 1 rfl⟩, ?_⟩
      clear hK K2
      refine two_op 7 8 ?_ ?_
      · refine wpOp_intro rfl (fun K17 hK => ?_)
        go_simp
        refine (ky _ (M.get 2 rfl) (M.get 1 rfl)).mono ?_
        rintro e V17_7 ⟨a3, c3, rfl, g, rr⟩
        have M' := (M.up rr).add g
        clear M rr g
        have M := M'; clear M'
        refine hK _ _ ⟨⟨M.box 4 rfl, M.box 3 rfl, M.box 1 rfl⟩, ?_⟩
        clear hK K17
        refine one_op 8 rfl (fun K18 hK => ?_)
        go_simp
        obtain ⟨b7, V18_8, hV, hb, M'⟩ := M.fresh 42 [.bool false, .slice none 0 0]
        rw [← hV, ← hb]
        clear M hV hb; have M := M'; clear M'
        refine hK _ _ ⟨⟨M.box 5 rfl, M.box 4 rfl, M.box 2 rfl⟩, ?_⟩
        clear hK K18
        have f0_0 := M.fr 0 rfl 0; have f0_1 := M.fr 0 rfl 1
        have z0_0 := M.cell 0 rfl 0 rfl; have z0_1 := M.cell 0 rfl 1 rfl
        refine one_op 10 rfl (fun Ks19 hK => ?_)
        go_simp
        have M' := ((M.put 0 rfl rfl 0 (.bool false)).put 0 rfl rfl 1 (.slice a2 Lx.length c2))
        clear M f0_0 z0_0 f0_1 z0_1
        simp only [List.set_cons_zero, List.set_cons_succ] at M'
        have M := M'
        clear M'
        refine hK _ _ ⟨⟨M.box 5 rfl, M.box 4 rfl, M.box 2 rfl⟩, ?_⟩
        clear hK Ks19
        have f1_0 := M.fr 1 rfl 0; have f1_1 := M.fr 1 rfl 1
        have z1_0 := M.cell 1 rfl 0 rfl; have z1_1 := M.cell 1 rfl 1 rfl
        refine one_op 11 rfl (fun Ks20 hK => ?_)
        go_simp
        have M' := ((M.put 1 rfl rfl 0 (.bool false)).put 1 rfl rfl 1 (.slice a3 Ly.length c3))
        clear M f1_0 z1_0 f1_1 z1_1
        simp only [List.set_cons_zero, List.set_cons_succ] at M'
        have M := M'
        clear M'
        refine hK _ _ ⟨⟨M.box 5 rfl, M.box 4 rfl, M.box 2 rfl⟩, ?_⟩
        clear hK Ks20
        refine wdn ?_
        have M' := M.swap; clear M; have M := M'; clear M'
        exact ⟨rfl, b7, b8, a2, c2, a3, c3, rfl, M⟩
      · refine wpOp_intro rfl (fun K17 hK => ?_)
        go_simp
        obtain ⟨b7, V17_8, hV, hb, M'⟩ := M.fresh 42 [.bool false, .slice none 0 0]
        rw [← hV, ← hb]
        clear M hV hb; have M := M'; clear M'
        refine hK _ _ ⟨⟨M.box 5 rfl, M.box 4 rfl, M.box 2 rfl⟩, ?_⟩
        clear hK K17
        refine one_op 7 rfl (fun K21 hK => ?_)
        go_simp
        refine (ky _ (M.get 2 rfl) (M.get 1 rfl)).mono ?_
        rintro e V21_7 ⟨a3, c3, rfl, g, rr⟩
        have M' := (M.up rr).add g
        clear M rr g
        have M := M'; clear M'
        refine hK _ _ ⟨⟨M.box 5 rfl, M.box 4 rfl, M.box 2 rfl⟩, ?_⟩
        clear hK K21
        have f0_0 := M.fr 0 rfl 0; have f0_1 := M.fr 0 rfl 1
        have z0_0 := M.cell 0 rfl 0 rfl; have z0_1 := M.cell 0 rfl 1 rfl
        refine one_op 10 rfl (fun Ks22 hK => ?_)
        go_simp
        have M' := ((M.put 0 rfl rfl 0 (.bool false)).put 0 rfl rfl 1 (.slice a2 Lx.length c2))
        clear M f0_0 z0_0 f0_1 z0_1
        simp only [List.set_cons_zero, List.set_cons_succ] at M'
        have M := M'
        clear M'
        refine hK _ _ ⟨⟨M.box 5 rfl, M.box 4 rfl, M.box 2 rfl⟩, ?_⟩
        clear hK Ks22
        have f1_0 := M.fr 1 rfl 0; have f1_1 := M.fr 1 rfl 1
        have z1_0 := M.cell 1 rfl 0 rfl; have z1_1 := M.cell 1 rfl 1 rfl
        refine one_op 11 rfl (fun Ks23 hK => ?_)
        go_simp
        have M' := ((M.put 1 rfl rfl 0 (.bool false)).put 1 rfl rfl 1 (.slice a3 Ly.length c3))
        clear M f1_0 z1_0 f1_1 z1_1
        simp only [List.set_cons_zero, List.set_cons_succ] at M'
        have M := M'
        clear M'
        refine hK _ _ ⟨⟨M.box 5 rfl, M.box 4 rfl, M.box 2 rfl⟩, ?_⟩
        clear hK Ks23
        refine wdn ?_
        have M' := M.swap; clear M; have M := M'; clear M'
        exact ⟨rfl, b7, b8, a2, c2, a3, c3, rfl, M⟩
  · refine wpOp_intro rfl (fun K1 hK => ?_)
    go_simp
    obtain ⟨b7, V1_8, hV, hb, M'⟩ := M.fresh 42 [.bool false, .slice none 0 0]
    rw [← hV, ← hb]
    clear M hV hb; have M := M'; clear M'
    refine hK _ _ ⟨⟨M.box 4 rfl, M.box 3 rfl, M.box 1 rfl⟩, ?_⟩
    clear hK K1
    refine two_op 3 9 ?_ ?_
    · refine wpOp_intro rfl (fun K24 hK => ?_)
      go_simp
      refine (kx _ (M.get 3 rfl) (M.get 0 rfl)).mono ?_
      rintro e V24_3 ⟨a2, c2, rfl, g, rr⟩
      have M' := (M.up rr).add g
      clear M rr g
      have M := M'; clear M'
      refine hK _ _ ⟨⟨M.box 4 rfl, M.box 3 rfl, M.box 1 rfl⟩, ?_⟩
      clear hK K24
      refine two_op 7 9 ?_ ?_
      · refine wpOp_intro rfl (fun K25 hK => ?_)
        go_simp
        refine (ky _ (M.get 2 rfl) (M.get 1 rfl)).mono ?_
        rintro e V25_7 ⟨a3, c3, rfl, g, rr⟩
        have M' := (M.up rr).add g
        clear M rr g
        have M := M'; clear M'
        refine hK _ _ ⟨⟨M.box 4 rfl, M.box 3 rfl, M.box 1 rfl⟩, ?_⟩
        clear hK K25
        refine one_op 9 rfl (fun K26 hK => ?_)
        go_simp
        obtain ⟨b8, V26_9, hV, hb, M'⟩ := M.fresh 42 [.bool false, .slice none 0 0]
        rw [← hV, ← hb]
        clear M hV hb; have M := M'; clear M'
        refine hK _ _ ⟨⟨M.box 5 rfl, M.box 4 rfl, M.box 2 rfl⟩, ?_⟩
        clear hK K26
        have f1_0 := M.fr 1 rfl 0; have f1_1 := M.fr 1 rfl 1
        have z1_0 := M.cell 1 rfl 0 rfl; have z1_1 := M.cell 1 rfl 1 rfl
        refine one_op 10 rfl (fun Ks27 hK => ?_)
        go_simp
        have M' := ((M.put 1 rfl rfl 0 (.bool false)).put 1 rfl rfl 1 (.slice a2 Lx.length c2))
        clear M f1_0 z1_0 f1_1 z1_1
        simp only [List.set_cons_zero, List.set_cons_succ] at M'
        have M := M'
        clear M'
        refine hK _ _ ⟨⟨M.box 5 rfl, M.box 4 rfl, M.box 2 rfl⟩, ?_⟩
        clear hK Ks27
        have f0_0 := M.fr 0 rfl 0; have f0_1 := M.fr 0 rfl 1
        have z0_0 := M.cell 0 rfl 0 rfl; have z0_1 := M.cell 0 rfl 1 rfl
        refine one_op 11 rfl (fun Ks28 hK => ?_)
        go_simp
        have M' := ((M.put 0 rfl rfl 0 (.bool false)).put 0 rfl rfl 1 (.slice a3 Ly.length c3))
        clear M f0_0 z0_0 f0_1 z0_1
        simp only [List.set_cons_zero, List.set_cons_succ] at M'
        have M := M'
        clear M'
        refine hK _ _ ⟨⟨M.box 5 rfl, M.box 4 rfl, M.box 2 rfl⟩, ?_⟩
        clear hK Ks28
        refine wdn ?_
        exact ⟨rfl, b7, b8, a2, c2, a3, c3, rfl, M⟩
      · refine wpOp_intro rfl (fun K25 hK => ?_)
        go_simp
        obtain ⟨b8, V25_9, hV, hb, M'⟩ := M.fresh 42 [.bool false, .slice none 0 0]
        rw [← hV, ← hb]
        clear M hV hb; have M := M'; clear M'
        refine hK _ _ ⟨⟨M.box 5 rfl, M.box 4 rfl, M.box 2 rfl⟩, ?_⟩
        clear hK K25
        refine one_op 7 rfl (fun K29 hK => ?_)
        go_simp
        refine (ky _ (M.get 2 rfl) (M.get 1 rfl)).mono ?_
        rintro e V29_7 ⟨a3, c3, rfl, g, rr⟩
        have M' := (M.up rr).add g
        clear M rr g
        have M := M'; clear M'
        refine hK _ _ ⟨⟨M.box 5 rfl, M.box 4 rfl, M.box 2 rfl⟩, ?_⟩
        clear hK K29
        have f1_0 := M.fr 1 rfl 0; have f1_1 := M.fr 1 rfl 1
        have z1_0 := M.cell 1 rfl 0 rfl; have z1_1 := M.cell 1 rfl 1 rfl
        refine one_op 10 rfl (fun Ks30 hK => ?_)
        go_simp
        have M' := ((M.put 1 rfl rfl 0 (.bool false)).put 1 rfl rfl 1 (.slice a2 Lx.length c2))
        clear M f1_0 z1_0 f1_1 z1_1
        simp only [List.set_cons_zero, List.set_cons_succ] at M'
        have M := M'
        clear M'
        refine hK _ _ ⟨⟨M.box 5 rfl, M.box 4 rfl, M.box 2 rfl⟩, ?_⟩
        clear hK Ks30
        have f0_0 := M.fr 0 rfl 0; have f0_1 := M.fr 0 rfl 1
        have z0_0 := M.cell 0 rfl 0 rfl; have z0_1 := M.cell 0 rfl 1 rfl
        refine one_op 11 rfl (fun Ks31 hK => ?_)
        go_simp
        have M' := ((M.put 0 rfl rfl 0 (.bool false)).put 0 rfl rfl 1 (.slice a3 Ly.length c3))
        clear M f0_0 z0_0 f0_1 z0_1
        simp only [List.set_cons_zero, List.set_cons_succ] at M'
        have M := M'
        clear M'
        refine hK _ _ ⟨⟨M.box 5 rfl, M.box 4 rfl, M.box 2 rfl⟩, ?_⟩
        clear hK Ks31
        refine wdn ?_
        exact ⟨rfl, b7, b8, a2, c2, a3, c3, rfl, M⟩
    · refine wpOp_intro rfl (fun K24 hK => ?_)
      go_simp
      obtain ⟨b8, V24_9, hV, hb, M'⟩ := M.fresh 42 [.bool false, .slice none 0 0]
      rw [← hV, ← hb]
      clear M hV hb; have M := M'; clear M'
      refine hK _ _ ⟨⟨M.box 5 rfl, M.box 4 rfl, M.box 2 rfl⟩, ?_⟩
      clear hK K24
      refine one_op 3 rfl (fun K32 hK => ?_)
      go_simp
      refine (kx _ (M.get 3 rfl) (M.get 0 rfl)).mono ?_
      rintro e V32_3 ⟨a2, c2, rfl, g, rr⟩
      have M' := (M.up rr).add g
      clear M rr g
      have M := M'; clear M'
      refine hK _ _ ⟨⟨M.box 5 rfl, M.box 4 rfl, M.box 2 rfl⟩, ?_⟩
      clear hK K32
      refine one_op 7 rfl (fun K33 hK => ?_)
      go_simp
      refine (ky _ (M.get 2 rfl) (M.get 1 rfl)).mono ?_
      rintro e V33_7 ⟨a3, c3, rfl, g, rr⟩
      have M' := (M.up rr).add g
      clear M rr g
      have M := M'; clear M'
      refine hK _ _ ⟨⟨M.box 5 rfl, M.box 4 rfl, M.box 2 rfl⟩, ?_⟩
      clear hK K33
      have f1_0 := M.fr 1 rfl 0; have f1_1 := M.fr 1 rfl 1
      have z1_0 := M.cell 1 rfl 0 rfl; have z1_1 := M.cell 1 rfl 1 rfl
      refine one_op 10 rfl (fun Ks34 hK => ?_)
      go_simp
      have M' := ((M.put 1 rfl rfl 0 (.bool false)).put 1 rfl rfl 1 (.slice a2 Lx.length c2))
      clear M f1_0 z1_0 f1_1 z1_1
      simp only [List.set_cons_zero, List.set_cons_succ] at M'
      have M := M'
      clear M'
      refine hK _ _ ⟨⟨M.box 5 rfl, M.box 4 rfl, M.box 2 rfl⟩, ?_⟩
      clear hK Ks34
      have f0_0 := M.fr 0 rfl 0; have f0_1 := M.fr 0 rfl 1
      have z0_0 := M.cell 0 rfl 0 rfl; have z0_1 := M.cell 0 rfl 1 rfl
      refine one_op 11 rfl (fun Ks35 hK => ?_)
      go_simp
      have M' := ((M.put 0 rfl rfl 0 (.bool false)).put 0 rfl rfl 1 (.slice a3 Ly.length c3))
      clear M f0_0 z0_0 f0_1 z0_1
      simp only [List.set_cons_zero, List.set_cons_succ] at M'
      have M := M'
      clear M'
      refine hK _ _ ⟨⟨M.box 5 rfl, M.box 4 rfl, M.box 2 rfl⟩, ?_⟩
      clear hK Ks35
      refine wdn ?_
      exact ⟨rfl, b7, b8, a2, c2, a3, c3, rfl, M⟩
  · refine wpOp_intro rfl (fun K1 hK => ?_)
    go_simp
    obtain ⟨b8, V1_9, hV, hb, M'⟩ := M.fresh 42 [.bool false, .slice none 0 0]
    rw [← hV, ← hb]
    clear M hV hb; have M := M'; clear M'
    refine hK _ _ ⟨⟨M.box 4 rfl, M.box 3 rfl, M.box 1 rfl⟩, ?_⟩
    clear hK K1
    refine two_op 3 8 ?_ ?_
    · refine wpOp_intro rfl (fun K36 hK => ?_)
      go_simp
      refine (kx _ (M.get 3 rfl) (M.get 0 rfl)).mono ?_
      rintro e V36_3 ⟨a2, c2, rfl, g, rr⟩
      have M' := (M.up rr).add g
      clear M rr g
      have M := M'; clear M'
      refine hK _ _ ⟨⟨M.box 4 rfl, M.box 3 rfl, M.box 1 rfl⟩, ?_⟩
      clear hK K36
      refine two_op 7 8 ?_ ?_
      · refine wpOp_intro rfl (fun K37 hK => ?_)
        go_simp
        refine (ky _ (M.get 2 rfl) (M.get 1 rfl)).mono ?_
        rintro e V37_7 ⟨a3, c3, rfl, g, rr⟩
        have M' := (M.up rr).add g
        clear M rr g
        have M := M'; clear M'
        refine hK _ _ ⟨⟨M.box 4 rfl, M.box 3 rfl, M.box 1 rfl⟩, ?_⟩
        clear hK K37
        refine one_op 8 rfl (fun K38 hK => ?_)
        go_simp
        obtain ⟨b7, V38_8, hV, hb, M'⟩ := M.fresh 42 [.bool false, .slice none 0 0]
        rw [← hV, ← hb]
        clear M hV hb; have M := M'; clear M'
        refine hK _ _ ⟨⟨M.box 5 rfl, M.box 4 rfl, M.box 2 rfl⟩, ?_⟩
        clear hK K38
        have f0_0 := M.fr 0 rfl 0; have f0_1 := M.fr 0 rfl 1
        have z0_0 := M.cell 0 rfl 0 rfl; have z0_1 := M.cell 0 rfl 1 rfl
        refine one_op 10 rfl (fun Ks39 hK => ?_)
        go_simp
        have M' := ((M.put 0 rfl rfl 0 (.bool false)).put 0 rfl rfl 1 (.slice a2 Lx.length c2))
        clear M f0_0 z0_0 f0_1 z0_1
        simp only [List.set_cons_zero, List.set_cons_succ] at M'
        have M := M'
        clear M'
        refine hK _ _ ⟨⟨M.box 5 rfl, M.box 4 rfl, M.box 2 rfl⟩, ?_⟩
        clear hK Ks39
        have f1_0 := M.fr 1 rfl 0; have f1_1 := M.fr 1 rfl 1
        have z1_0 := M.cell 1 rfl 0 rfl; have z1_1 := M.cell 1 rfl 1 rfl
        refine one_op 11 rfl (fun Ks40 hK => ?_)
        go_simp
        have M' := ((M.put 1 rfl rfl 0 (.bool false)).put 1 rfl rfl 1 (.slice a3 Ly.length c3))
        clear M f1_0 z1_0 f1_1 z1_1
        simp only [List.set_cons_zero, List.set_cons_succ] at M'
        have M := M'
        clear M'
        refine hK _ _ ⟨⟨M.box 5 rfl, M.box 4 rfl, M.box 2 rfl⟩, ?_⟩
        clear hK Ks40
        refine wdn ?_
        have M' := M.swap; clear M; have M := M'; clear M'
        exact ⟨rfl, b7, b8, a2, c2, a3, c3, rfl, M⟩
      · refine wpOp_intro rfl (fun K37 hK => ?_)
        go_simp
        obtain ⟨b7, V37_8, hV, hb, M'⟩ := M.fresh 42 [.bool false, .slice none 0 0]
        rw [← hV, ← hb]
        clear M hV hb; have M := M'; clear M'
        refine hK _ _ ⟨⟨M.box 5 rfl, M.box 4 rfl, M.box 2 rfl⟩, ?_⟩
        clear hK K37
        refine one_op 7 rfl (fun K41 hK => ?_)
        go_simp
        refine (ky _ (M.get 2 rfl) (M.get 1 rfl)).mono ?_
        rintro e V41_7 ⟨a3, c3, rfl, g, rr⟩
        have M' := (M.up rr).add g
        clear M rr g
        have M := M'; clear M'
        refine hK _ _ ⟨⟨M.box 5 rfl, M.box 4 rfl, M.box 2 rfl⟩, ?_⟩
        clear hK K41
        have f0_0 := M.fr 0 rfl 0; have f0_1 := M.fr 0 rfl 1
        have z0_0 := M.cell 0 rfl 0 rfl; have z0_1 := M.cell 0 rfl 1 rfl
        refine one_op 10 rfl (fun Ks42 hK => ?_)
        go_simp
        have M' := ((M.put 0 rfl rfl 0 (.bool false)).put 0 rfl rfl 1 (.slice a2 Lx.length c2))
        clear M f0_0 z0_0 f0_1 z0_1
        simp only [List.set_cons_zero, List.set_cons_succ] at M'
        have M := M'
        clear M'
        refine hK _ _ ⟨⟨M.box 5 rfl, M.box 4 rfl, M.box 2 rfl⟩, ?_⟩
        clear hK Ks42
        have f1_0 := M.fr 1 rfl 0; have f1_1 := M.fr 1 rfl 1
        have z1_0 := M.cell 1 rfl 0 rfl; have z1_1 := M.cell 1 rfl 1 rfl
        refine one_op 11 rfl (fun Ks43 hK => ?_)
        go_simp
        have M' := ((M.put 1 rfl rfl 0 (.bool false)).put 1 rfl rfl 1 (.slice a3 Ly.length c3))
        clear M f1_0 z1_0 f1_1 z1_1
        simp only [List.set_cons_zero, List.set_cons_succ] at M'
        have M := M'
        clear M'
        refine hK _ _ ⟨⟨M.box 5 rfl, M.box 4 rfl, M.box 2 rfl⟩, ?_⟩
        clear hK Ks43
        refine wdn ?_
        have M' := M.swap; clear M; have M := M'; clear M'
        exact ⟨rfl, b7, b8, a2, c2, a3, c3, rfl, M⟩
    · refine wpOp_intro rfl (fun K36 hK => ?_)
      go_simp
      obtain ⟨b7, V36_8, hV, hb, M'⟩ := M.fresh 42 [.bool false, .slice none 0 0]
      rw [← hV, ← hb]
      clear M hV hb; have M := M'; clear M'
      refine hK _ _ ⟨⟨M.box 5 rfl, M.box 4 rfl, M.box 2 rfl⟩, ?_⟩
      clear hK K36
      refine one_op 3 rfl (fun K44 hK => ?_)
      go_simp
      refine (kx _ (M.get 3 rfl) (M.get 0 rfl)).mono ?_
      rintro e V44_3 ⟨a2, c2, rfl, g, rr⟩
      have M' := (M.up rr).add g
      clear M rr g
      have M := M'; clear M'
      refine hK _ _ ⟨⟨M.box 5 rfl, M.box 4 rfl, M.box 2 rfl⟩, ?_⟩
      clear hK K44
      refine one_op 7 rfl (fun K45 hK => ?_)
      go_simp
      refine (ky _ (M.get 2 rfl) (M.get 1 rfl)).mono ?_
      rintro e V45_7 ⟨a3, c3, rfl, g, rr⟩
      have M' := (M.up rr).add g
      clear M rr g
      have M := M'; clear M'
      refine hK _ _ ⟨⟨M.box 5 rfl, M.box 4 rfl, M.box 2 rfl⟩, ?_⟩
      clear hK K45
      have f0_0 := M.fr 0 rfl 0; have f0_1 := M.fr 0 rfl 1
      have z0_0 := M.cell 0 rfl 0 rfl; have z0_1 := M.cell 0 rfl 1 rfl
      refine one_op 10 rfl (fun Ks46 hK => ?_)
      go_simp
      have M' := ((M.put 0 rfl rfl 0 (.bool false)).put 0 rfl rfl 1 (.slice a2 Lx.length c2))
      clear M f0_0 z0_0 f0_1 z0_1
      simp only [List.set_cons_zero, List.set_cons_succ] at M'
      have M := M'
      clear M'
      refine hK _ _ ⟨⟨M.box 5 rfl, M.box 4 rfl, M.box 2 rfl⟩, ?_⟩
      clear hK Ks46
      have f1_0 := M.fr 1 rfl 0; have f1_1 := M.fr 1 rfl 1
      have z1_0 := M.cell 1 rfl 0 rfl; have z1_1 := M.cell 1 rfl 1 rfl
      refine one_op 11 rfl (fun Ks47 hK => ?_)
      go_simp
      have M' := ((M.put 1 rfl rfl 0 (.bool false)).put 1 rfl rfl 1 (.slice a3 Ly.length c3))
      clear M f1_0 z1_0 f1_1 z1_1
      simp only [List.set_cons_zero, List.set_cons_succ] at M'
      have M := M'
      clear M'
      refine hK _ _ ⟨⟨M.box 5 rfl, M.box 4 rfl, M.box 2 rfl⟩, ?_⟩
      clear hK Ks47
      refine wdn ?_
      have M' := M.swap; clear M; have M := M'; clear M'
      exact ⟨rfl, b7, b8, a2, c2, a3, c3, rfl, M⟩
 intro b7 b8 a2 c2 a3 c3 V M
 go_wp2
 apply region_cut_nsss (Fact := (fun b9 a4 c4 a5 c5 a6 c6 W => Mem w [(b9, 42, [.bool sZ, .slice a6 LS.length c6]), (b8, 42, [.bool false, .slice a3 Ly.length c3]), (b7, 42, [.bool false, .slice a2 Lx.length c2]), (b6, 42, [.bool false, .slice a1 Lg.length c1]), (w.heap.size + 1 + 1, 44, [.bool false, .slice none 0 0, .slice none 0 0]), (w.heap.size + 1, 93, [.bool sY, .slice aY LY.length cY, .bool false, .slice oY DY.length rY]), (w.heap.size, 93, [.bool sX, .slice aX LX.length cX, .bool false, .slice oX DX.length rX])] [(.slice a6 LS.length c6, LS), (.slice a5 LQ.length c5, LQ), (.slice a4 LP.length c4, LP), (.slice a3 Ly.length c3, Ly), (.slice a2 Lx.length c2, Lx), (.slice a1 Lg.length c1, Lg), (.slice oY DY.length rY, DY), (.slice aY LY.length cY, LY), (.slice oX DX.length rX, DX), (.slice aX LX.length cX, LX)] W))
 case first =>
  refine region_mem (S := (fun W => BoxN W (w.heap.size) 93 #[.bool sX, .slice aX LX.length cX, .bool false, .slice oX DX.length rX] ∧ BoxN W (w.heap.size + 1) 93 #[.bool sY, .slice aY LY.length cY, .bool false, .slice oY DY.length rY] ∧ BoxN W (b7) 42 #[.bool false, .slice a2 Lx.length c2] ∧ BoxN W (b8) 42 #[.bool false, .slice a3 Ly.length c3] ∧ BoxN W (cb) 114 #[.func (.func J) #[] #[]])) M (by kernel_rfl) ?_
  intro V0 M
  have hS0 : (fun W => BoxN W (w.heap.size) 93 #[.bool sX, .slice aX LX.length cX, .bool false, .slice oX DX.length rX] ∧ BoxN W (w.heap.size + 1) 93 #[.bool sY, .slice aY LY.length cY, .bool false, .slice oY DY.length rY] ∧ BoxN W (b7) 42 #[.bool false, .slice a2 Lx.length c2] ∧ BoxN W (b8) 42 #[.bool false, .slice a3 Ly.length c3] ∧ BoxN W (cb) 114 #[.func (.func J) #[] #[]]) V0 := ⟨M.box 5 rfl, M.box 4 rfl, M.box 1 rfl, M.box 0 rfl, M.old hcb⟩
  refine wtk 0 (.func (.func J) #[] #[]) rfl (fun _ _ _ h => nomatch h.1) (Or.inl ⟨by rfl, fun W3 hS => by obtain ⟨hS1, hS2, hS3, hS4, hS5⟩ := hS; have c5_0 := hS5.cell 0 _ rfl; go_simp⟩) hS0 ?_
  refine wtk 1 (.pointer (some ⟨w.heap.size, 0, none⟩)) rfl (fun _ _ _ h => nomatch h.1) (Or.inl ⟨by rfl, fun W3 hS => by obtain ⟨hS1, hS2, hS3, hS4, hS5⟩ := hS; go_simp⟩) hS0 ?_
  refine wtk 2 (.agg #[.bool sX, .slice aX LX.length cX]) rfl (fun _ _ _ h => nomatch h.1) (Or.inl ⟨by rfl, fun W3 hS => by obtain ⟨hS1, hS2, hS3, hS4, hS5⟩ := hS; have c1_0 := hS1.cell 0 _ rfl; have c1_1 := hS1.cell 1 _ rfl; have c1_2 := hS1.cell 2 _ rfl; have c1_3 := hS1.cell 3 _ rfl; go_simp⟩) hS0 ?_
  refine wtk 3 (.agg #[.bool false, .slice a3 Ly.length c3]) rfl (fun _ _ _ h => nomatch h.1) (Or.inl ⟨by rfl, fun W3 hS => by obtain ⟨hS1, hS2, hS3, hS4, hS5⟩ := hS; have c4_0 := hS4.cell 0 _ rfl; have c4_1 := hS4.cell 1 _ rfl; go_simp⟩) hS0 ?_
  refine wtk 5 (.pointer (some ⟨w.heap.size + 1, 0, none⟩)) rfl (fun _ _ _ h => nomatch h.1) (Or.inl ⟨by rfl, fun W3 hS => by obtain ⟨hS1, hS2, hS3, hS4, hS5⟩ := hS; go_simp⟩) hS0 ?_
  refine wtk 6 (.agg #[.bool sY, .slice aY LY.length cY]) rfl (fun _ _ _ h => nomatch h.1) (Or.inl ⟨by rfl, fun W3 hS => by obtain ⟨hS1, hS2, hS3, hS4, hS5⟩ := hS; have c2_0 := hS2.cell 0 _ rfl; have c2_1 := hS2.cell 1 _ rfl; have c2_2 := hS2.cell 2 _ rfl; have c2_3 := hS2.cell 3 _ rfl; go_simp⟩) hS0 ?_
  refine wtk 7 (.agg #[.bool false, .slice a2 Lx.length c2]) rfl (fun _ _ _ h => nomatch h.1) (Or.inl ⟨by rfl, fun W3 hS => by obtain ⟨hS1, hS2, hS3, hS4, hS5⟩ := hS; have c3_0 := hS3.cell 0 _ rfl; have c3_1 := hS3.cell 1 _ rfl; go_simp⟩) hS0 ?_
  clear hS0
  try simp only [Act.put, List.setIfInBounds_toArray, List.set_cons_zero, List.set_cons_succ]
  refine two_op 4 10 ?_ ?_
  · refine wpOp_intro rfl (fun K1 hK => ?_)
    go_simp
    refine (kp _ (M.get 6 rfl) (M.get 0 rfl)).mono ?_
    rintro e V1_4 ⟨a4, c4, rfl, g, rr⟩
    have M' := (M.up rr).add g
    clear M rr g
    have M := M'; clear M'
    refine hK _ _ ⟨⟨M.box 5 rfl, M.box 4 rfl, M.box 1 rfl, M.box 0 rfl, M.old hcb⟩, ?_⟩
    clear hK K1
    refine two_op 8 10 ?_ ?_
    · refine wpOp_intro rfl (fun K2 hK => ?_)
      go_simp
      refine (kq _ (M.get 5 rfl) (M.get 2 rfl)).mono ?_
      rintro e V2_8 ⟨a5, c5, rfl, g, rr⟩
      have M' := (M.up rr).add g
      clear M rr g
      have M := M'; clear M'
      refine hK _ _ ⟨⟨M.box 5 rfl, M.box 4 rfl, M.box 1 rfl, M.box 0 rfl, M.old hcb⟩, ?_⟩
      clear hK K2
      refine two_op 9 10 ?_ ?_
      · refine wpOp_intro rfl (fun K3 hK => ?_)
        go_simp
        refine (ks _ (M.get 1 rfl) (M.get 0 rfl)).mono ?_
        rintro e V3_9 ⟨a6, c6, rfl, g, rr⟩
        have M' := (M.up rr).add g
        clear M rr g
        have M := M'; clear M'
        refine hK _ _ ⟨⟨M.box 5 rfl, M.box 4 rfl, M.box 1 rfl, M.box 0 rfl, M.old hcb⟩, ?_⟩
        clear hK K3
        refine one_op 10 rfl (fun K4 hK => ?_)
        go_simp
        obtain ⟨b9, V4_10, hV, hb, M'⟩ := M.fresh 42 [.bool false, .slice none 0 0]
        rw [← hV, ← hb]
        clear M hV hb; have M := M'; clear M'
        refine hK _ _ ⟨⟨M.box 6 rfl, M.box 5 rfl, M.box 2 rfl, M.box 1 rfl, M.old hcb⟩, ?_⟩
        clear hK K4
        have f0_0 := M.fr 0 rfl 0; have f0_1 := M.fr 0 rfl 1
        have z0_0 := M.cell 0 rfl 0 rfl; have z0_1 := M.cell 0 rfl 1 rfl
        refine one_op 11 rfl (fun Ks5 hK => ?_)
        go_simp
        have M' := ((M.put 0 rfl rfl 0 (.bool sZ)).put 0 rfl rfl 1 (.slice a6 LS.length c6))
        clear M f0_0 z0_0 f0_1 z0_1
        simp only [List.set_cons_zero, List.set_cons_succ] at M'
        have M := M'
        clear M'
        refine hK _ _ ⟨⟨M.box 6 rfl, M.box 5 rfl, M.box 2 rfl, M.box 1 rfl, M.old hcb⟩, ?_⟩
        clear hK Ks5
        refine wdn ?_
        exact ⟨rfl, b9, a4, c4, a5, c5, a6, c6, rfl, M⟩
      · refine wpOp_intro rfl (fun K3 hK => ?_)
        go_simp
        obtain ⟨b9, V3_10, hV, hb, M'⟩ := M.fresh 42 [.bool false, .slice none 0 0]
        rw [← hV, ← hb]
        clear M hV hb; have M := M'; clear M'
        refine hK _ _ ⟨⟨M.box 6 rfl, M.box 5 rfl, M.box 2 rfl, M.box 1 rfl, M.old hcb⟩, ?_⟩
        clear hK K3
        refine one_op 9 rfl (fun K6 hK => ?_)
        go_simp
        refine (ks _ (M.get 1 rfl) (M.get 0 rfl)).mono ?_
        rintro e V6_9 ⟨a6, c6, rfl, g, rr⟩
        have M' := (M.up rr).add g
        clear M rr g
        have M := M'; clear M'
        refine hK _ _ ⟨⟨M.box 6 rfl, M.box 5 rfl, M.box 2 rfl, M.box 1 rfl, M.old hcb⟩, ?_⟩
        clear hK K6
        have f0_0 := M.fr 0 rfl 0; have f0_1 := M.fr 0 rfl 1
        have z0_0 := M.cell 0 rfl 0 rfl; have z0_1 := M.cell 0 rfl 1 rfl
        refine one_op 11 rfl (fun Ks7 hK => ?_)
        go_simp
        have M' := ((M.put 0 rfl rfl 0 (.bool sZ)).put 0 rfl rfl 1 (.slice a6 LS.length c6))
        clear M f0_0 z0_0 f0_1 z0_1
        simp only [List.set_cons_zero, List.set_cons_succ] at M'
        have M := M'
        clear M'
        refine hK _ _ ⟨⟨M.box 6 rfl, M.box 5 rfl, M.box 2 rfl, M.box 1 rfl, M.old hcb⟩, ?_⟩
        clear hK Ks7
        refine wdn ?_
        exact ⟨rfl, b9, a4, c4, a5, c5, a6, c6, rfl, M⟩
    · refine wpOp_intro rfl (fun K2 hK => ?_)
      go_simp
      obtain ⟨b9, V2_10, hV, hb, M'⟩ := M.fresh 42 [.bool false, .slice none 0 0]
      rw [← hV, ← hb]
      clear M hV hb; have M := M'; clear M'
      refine hK _ _ ⟨⟨M.box 6 rfl, M.box 5 rfl, M.box 2 rfl, M.box 1 rfl, M.old hcb⟩, ?_⟩
      clear hK K2
      refine one_op 8 rfl (fun K8 hK => ?_)
      go_simp
      refine (kq _ (M.get 5 rfl) (M.get 2 rfl)).mono ?_
      rintro e V8_8 ⟨a5, c5, rfl, g, rr⟩
      have M' := (M.up rr).add g
      clear M rr g
      have M := M'; clear M'
      refine hK _ _ ⟨⟨M.box 6 rfl, M.box 5 rfl, M.box 2 rfl, M.box 1 rfl, M.old hcb⟩, ?_⟩
      clear hK K8
      refine one_op 9 rfl (fun K9 hK => ?_)
      go_simp
      refine (ks _ (M.get 1 rfl) (M.get 0 rfl)).mono ?_
      rintro e V9_9 ⟨a6, c6, rfl, g, rr⟩
      have M' := (M.up rr).add g
      clear M rr g
      have M := M'; clear M'
      refine hK _ _ ⟨⟨M.box 6 rfl, M.box 5 rfl, M.box 2 rfl, M.box 1 rfl, M.old hcb⟩, ?_⟩
      clear hK K9
      have f0_0 := M.fr 0 rfl 0; have f0_1 := M.fr 0 rfl 1
      have z0_0 := M.cell 0 rfl 0 rfl; have z0_1 := M.cell 0 rfl 1 rfl
      refine one_op 11 rfl (fun Ks10 hK => ?_)
      go_simp
      have M' := ((M.put 0 rfl rfl 0 (.bool sZ)).put 0 rfl rfl 1 (.slice a6 LS.length c6))
      clear M f0_0 z0_0 f0_1 z0_1
      simp only [List.set_cons_zero, List.set_cons_succ] at M'
      have M := M'
      clear M'
      refine hK _ _ ⟨⟨M.box 6 rfl, M.box 5 rfl, M.box 2 rfl, M.box 1 rfl, M.old hcb⟩, ?_⟩
      clear hK Ks10
      refine wdn ?_
      exact ⟨rfl, b9, a4, c4, a5, c5, a6, c6, rfl, M⟩
  · refine wpOp_intro rfl (fun K1 hK => ?_)
    go_simp
    obtain ⟨b9, V1_10, hV, hb, M'⟩ := M.fresh 42 [.bool false, .slice none 0 0]
    rw [← hV, ← hb]
    clear M hV hb; have M := M'; clear M'
    refine hK _ _ ⟨⟨M.box 6 rfl, M.box 5 rfl, M.box 2 rfl, M.box 1 rfl, M.old hcb⟩, ?_⟩
    clear hK K1
    refine one_op 4 rfl (fun K11 hK => ?_)
    go_simp
    refine (kp _ (M.get 6 rfl) (M.get 0 rfl)).mono ?_
    rintro e V11_4 ⟨a4, c4, rfl, g, rr⟩
    have M' := (M.up rr).add g
    clear M rr g
    have M := M'; clear M'
    refine hK _ _ ⟨⟨M.box 6 rfl, M.box 5 rfl, M.box 2 rfl, M.box 1 rfl, M.old hcb⟩, ?_⟩
    clear hK K11
    refine one_op 8 rfl (fun K12 hK => ?_)
    go_simp
    refine (kq _ (M.get 5 rfl) (M.get 2 rfl)).mono ?_
    rintro e V12_8 ⟨a5, c5, rfl, g, rr⟩
    have M' := (M.up rr).add g
    clear M rr g
    have M := M'; clear M'
    refine hK _ _ ⟨⟨M.box 6 rfl, M.box 5 rfl, M.box 2 rfl, M.box 1 rfl, M.old hcb⟩, ?_⟩
    clear hK K12
    refine one_op 9 rfl (fun K13 hK => ?_)
    go_simp
    refine (ks _ (M.get 1 rfl) (M.get 0 rfl)).mono ?_
    rintro e V13_9 ⟨a6, c6, rfl, g, rr⟩
    have M' := (M.up rr).add g
    clear M rr g
    have M := M'; clear M'
    refine hK _ _ ⟨⟨M.box 6 rfl, M.box 5 rfl, M.box 2 rfl, M.box 1 rfl, M.old hcb⟩, ?_⟩
    clear hK K13
    have f0_0 := M.fr 0 rfl 0; have f0_1 := M.fr 0 rfl 1
    have z0_0 := M.cell 0 rfl 0 rfl; have z0_1 := M.cell 0 rfl 1 rfl
    refine one_op 11 rfl (fun Ks14 hK => ?_)
    go_simp
    have M' := ((M.put 0 rfl rfl 0 (.bool sZ)).put 0 rfl rfl 1 (.slice a6 LS.length c6))
    clear M f0_0 z0_0 f0_1 z0_1
    simp only [List.set_cons_zero, List.set_cons_succ] at M'
    have M := M'
    clear M'
    refine hK _ _ ⟨⟨M.box 6 rfl, M.box 5 rfl, M.box 2 rfl, M.box 1 rfl, M.old hcb⟩, ?_⟩
    clear hK Ks14
    refine wdn ?_
    exact ⟨rfl, b9, a4, c4, a5, c5, a6, c6, rfl, M⟩
 intro b9 a4 c4 a5 c5 a6 c6 V M
 have z0_0 := M.cell 0 rfl 0 rfl; have z0_1 := M.cell 0 rfl 1 rfl; have z3_0 := M.cell 3 rfl 0 rfl; have z3_1 := M.cell 3 rfl 1 rfl
 go_wp2_with (go_at_call 106; refine (kt _ (M.get 0 rfl) (M.get 5 rfl)).mono ?_; rintro e w2 ⟨a7, c7, rfl, g, rr⟩; have M' := ((M.up rr).add g).new 42 [.bool false, .slice a7 Lt.length c7]; clear M rr g; have M := M'; clear M')
 clear z0_0 z0_1 z3_0 z3_1
 obtain ⟨b10, W2, hb6, hW1⟩ : ∃ b V, b = w2.heap.size ∧ V = w2.alloc (.cells #[.bool false, .slice a7 Lt.length c7] 42) := ⟨_, _, rfl, rfl⟩
 rw [← hb6, ← hW1] at M ⊢
 clear hb6 hW1
 refine region_mem (S := (fun W => BoxN W (w.heap.size + 1) 93 #[.bool sY, .slice aY LY.length cY, .bool false, .slice oY DY.length rY] ∧ BoxN W (b7) 42 #[.bool false, .slice a2 Lx.length c2] ∧ BoxN W (b9) 42 #[.bool sZ, .slice a6 LS.length c6] ∧ BoxN W (b10) 42 #[.bool false, .slice a7 Lt.length c7])) M (by kernel_rfl) ?_
 intro V0 M
 have hS0 : (fun W => BoxN W (w.heap.size + 1) 93 #[.bool sY, .slice aY LY.length cY, .bool false, .slice oY DY.length rY] ∧ BoxN W (b7) 42 #[.bool false, .slice a2 Lx.length c2] ∧ BoxN W (b9) 42 #[.bool sZ, .slice a6 LS.length c6] ∧ BoxN W (b10) 42 #[.bool false, .slice a7 Lt.length c7]) V0 := ⟨M.box 6 rfl, M.box 3 rfl, M.box 1 rfl, M.box 0 rfl⟩
 refine wtk 0 (.agg #[.bool sZ, .slice a6 LS.length c6]) rfl (fun _ _ _ h => h) (Or.inl ⟨by rfl, fun W3 hS => by obtain ⟨hS1, hS2, hS3, hS4⟩ := hS; have c3_0 := hS3.cell 0 _ rfl; have c3_1 := hS3.cell 1 _ rfl; go_simp⟩) hS0 ?_
 refine wtk 1 (.agg #[.bool false, .slice a7 Lt.length c7]) rfl (fun _ _ _ h => h) (Or.inl ⟨by rfl, fun W3 hS => by obtain ⟨hS1, hS2, hS3, hS4⟩ := hS; have c4_0 := hS4.cell 0 _ rfl; have c4_1 := hS4.cell 1 _ rfl; go_simp⟩) hS0 ?_
 refine wtk 3 (.agg #[.bool false, .slice a2 Lx.length c2]) rfl (fun _ _ _ h => h) (Or.inl ⟨by rfl, fun W3 hS => by obtain ⟨hS1, hS2, hS3, hS4⟩ := hS; have c2_0 := hS2.cell 0 _ rfl; have c2_1 := hS2.cell 1 _ rfl; go_simp⟩) hS0 ?_
 refine wtk 4 (.pointer (some ⟨w.heap.size + 1, 2, none⟩)) rfl (fun _ _ _ h => h) (Or.inl ⟨by rfl, fun W3 hS => by obtain ⟨hS1, hS2, hS3, hS4⟩ := hS; go_simp⟩) hS0 ?_
 refine wtk 5 (.agg #[.bool false, .slice oY DY.length rY]) rfl (fun _ _ _ h => h) (Or.inl ⟨by rfl, fun W3 hS => by obtain ⟨hS1, hS2, hS3, hS4⟩ := hS; have c1_0 := hS1.cell 0 _ rfl; have c1_1 := hS1.cell 1 _ rfl; have c1_2 := hS1.cell 2 _ rfl; have c1_3 := hS1.cell 3 _ rfl; go_simp⟩) hS0 ?_
 refine wtk 6 (.agg #[.bool false, .slice a7 Lt.length c7]) rfl (fun _ _ _ h => h) (Or.inl ⟨by rfl, fun W3 hS => by obtain ⟨hS1, hS2, hS3, hS4⟩ := hS; have c4_0 := hS4.cell 0 _ rfl; have c4_1 := hS4.cell 1 _ rfl; go_simp⟩) hS0 ?_
 clear hS0
 try simp only [Act.put, List.setIfInBounds_toArray, List.set_cons_zero, List.set_cons_succ]
 refine one_op 2 rfl (fun K1 hK => ?_)
 go_simp
 refine (kn _ (M.get 1 rfl) (M.get 0 rfl)).mono ?_
 rintro e V1_2 ⟨a8, c8, rfl, g, rr⟩
 have M' := (M.up rr).add g
 clear M rr g
 have M := M'; clear M'
 refine hK _ _ ⟨⟨M.box 6 rfl, M.box 3 rfl, M.box 1 rfl, M.box 0 rfl⟩, ?_⟩
 clear hK K1
 refine one_op 7 rfl (fun K2 hK => ?_)
 go_simp
 refine (kr _ (M.get 8 rfl) (M.get 1 rfl)).mono ?_
 rintro e V2_7 ⟨a9, c9, rfl, g, rr⟩
 have M' := (M.up rr).add g
 clear M rr g
 have M := M'; clear M'
 refine hK _ _ ⟨⟨M.box 6 rfl, M.box 3 rfl, M.box 1 rfl, M.box 0 rfl⟩, ?_⟩
 clear hK K2
 refine one_op 8 rfl (fun K3 hK => ?_)
 go_simp
 refine (kd _ (M.get 7 rfl) (M.get 0 rfl)).mono ?_
 rintro e V3_8 ⟨a10, c10, rfl, g, rr⟩
 have M' := (M.up rr).add g
 clear M rr g
 have M := M'; clear M'
 refine hK _ _ ⟨⟨M.box 6 rfl, M.box 3 rfl, M.box 1 rfl, M.box 0 rfl⟩, ?_⟩
 clear hK K3
 have hS0 : (fun W => BoxN W (w.heap.size + 1) 93 #[.bool sY, .slice aY LY.length cY, .bool false, .slice oY DY.length rY] ∧ BoxN W (b7) 42 #[.bool false, .slice a2 Lx.length c2] ∧ BoxN W (b9) 42 #[.bool sZ, .slice a6 LS.length c6] ∧ BoxN W (b10) 42 #[.bool false, .slice a7 Lt.length c7]) _ := ⟨M.box 6 rfl, M.box 3 rfl, M.box 1 rfl, M.box 0 rfl⟩
 refine wtk 9 (.agg #[.bool sZ, .slice a8 LZ.length c8, .bool false, .slice a10 DZ.length c10]) rfl (fun _ _ _ h => h) (Or.inl ⟨by rfl, fun W3 hS => by obtain ⟨hS1, hS2, hS3, hS4⟩ := hS; go_simp⟩) hS0 ?_
 clear hS0
 try simp only [Act.put, List.setIfInBounds_toArray, List.set_cons_zero, List.set_cons_succ]
 refine one_op 10 rfl (fun K4 hK => ?_)
 go_simp
 refine (fraction_any _ _ _ _ _ _ _ _ _).mono ?_
 rintro e V4_10 ⟨rfl, rr⟩
 have M' := M.up rr
 clear M rr 
 have M := M'; clear M'
 refine hK _ _ ⟨⟨M.box 6 rfl, M.box 3 rfl, M.box 1 rfl, M.box 0 rfl⟩, ?_⟩
 clear hK K4
 have f5_0 := M.fr 5 rfl 0; have f5_1 := M.fr 5 rfl 1; have f5_2 := M.fr 5 rfl 2
 have z5_0 := M.cell 5 rfl 0 rfl; have z5_1 := M.cell 5 rfl 1 rfl; have z5_2 := M.cell 5 rfl 2 rfl
 refine one_op 11 rfl (fun Ks5 hK => ?_)
 go_simp
 have M' := (((M.put 5 rfl rfl 0 (.bool sZ)).put 5 rfl rfl 1 (.slice a8 LZ.length c8)).put 5 rfl rfl 2 (.slice a10 DZ.length c10))
 clear M f5_0 z5_0 f5_1 z5_1 f5_2 z5_2
 simp only [List.set_cons_zero, List.set_cons_succ] at M'
 have M := M'
 clear M'
 refine hK _ _ ⟨⟨M.box 6 rfl, M.box 3 rfl, M.box 1 rfl, M.box 0 rfl⟩, ?_⟩
 clear hK Ks5
 refine wdn ?_
 go_wp2
 refine ret_boxN rfl rfl (M.box 5 rfl) Tryz.underlying44 size_rat rfl ?_
 exact ⟨a8, c8, a10, c10, rfl, M.get 2 rfl, M.get 0 rfl, M.below⟩
end Go.Proofs.YtgmbaamfobhceaaGreat
