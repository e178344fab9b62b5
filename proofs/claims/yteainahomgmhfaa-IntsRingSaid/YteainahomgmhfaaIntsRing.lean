/- IntsRing: its walks. -/
import Derived.Test.YteainahomgmhfaaIntsAlive
import Derived.Deep.RegionHeld3
namespace Go.Proofs.Yteainahomgmhfaa
open Go Go.Proofs Go.RowKit Go.Shelf Nu

attribute [local go_sem] Oper.semAt_some

set_option maxRecDepth 100000 in
set_option maxHeartbeats 8000000 in
theorem iring_near {w : World} {n1 n2 n3 : Bool} {a1 a2 a3 : Option Addr} {d1 d2 d3 : Nat} {l1 l2 l3 : List Nat} (g1 : Reads w (.slice a1 l1.length d1) l1) (g2 : Reads w (.slice a2 l2.length d2) l2) (g3 : Reads w (.slice a3 l3.length d3) l3)
    (k1 : l1.length ≤ 60) (k2 : l2.length ≤ 60) (k3 : l3.length ≤ 60) (m1 : Sm l1) (m2 : Sm l2) (m3 : Sm l3) :
    Calls Try.prog 3 #[.agg #[.bool n1, .slice a1 l1.length d1], .agg #[.bool n2, .slice a2 l2.length d2], .agg #[.bool n3, .slice a3 l3.length d3]] w fun e w' => e = .returned (.bool true) ∧ Below w.heap.size w w' := by
  obtain ⟨X1, hX1⟩ : ∃ X, X = zv n1 l1 := ⟨_, rfl⟩
  have i1 : Is n1 l1 X1 := ⟨m1, hX1.symm⟩
  obtain ⟨X2, hX2⟩ : ∃ X, X = zv n2 l2 := ⟨_, rfl⟩
  have i2 : Is n2 l2 X2 := ⟨m2, hX2.symm⟩
  obtain ⟨X3, hX3⟩ : ∃ X, X = zv n3 l3 := ⟨_, rfl⟩
  have i3 : Is n3 l3 X3 := ⟨m3, hX3.symm⟩
  obtain ⟨sS, LS, cS⟩ := Can.ex (X1 + X2)
  have bS : LS.length ≤ 121 := Nat.le_trans (Can.len_add i1 i2 cS (.inl rfl)) (by omega)
  obtain ⟨sP, LP, cP⟩ := Can.ex (X1 * X2)
  have bP : LP.length ≤ 120 := Nat.le_trans (Can.len_mul i1 i2 cP rfl) (by omega)
  obtain ⟨sT, LT, cT⟩ := Can.ex (X1 + X2 + X3)
  have bT : LT.length ≤ 182 := Nat.le_trans (Can.len_add cS.is i3 cT (.inl rfl)) (by omega)
  obtain ⟨sU, LU, cU⟩ := Can.ex (X2 + X3)
  have bU : LU.length ≤ 121 := Nat.le_trans (Can.len_add i2 i3 cU (.inl rfl)) (by omega)
  obtain ⟨sQ, LQ, cQ⟩ := Can.ex (X1 * X2 * X3)
  have bQ : LQ.length ≤ 180 := Nat.le_trans (Can.len_mul cP.is i3 cQ rfl) (by omega)
  obtain ⟨sY, LY, cY⟩ := Can.ex (X2 * X3)
  have bY : LY.length ≤ 120 := Nat.le_trans (Can.len_mul i2 i3 cY rfl) (by omega)
  obtain ⟨sX, LX, cX⟩ := Can.ex (X1 * X3)
  have bX : LX.length ≤ 120 := Nat.le_trans (Can.len_mul i1 i3 cX rfl) (by omega)
  obtain ⟨sZ, LZ, cZ⟩ := Can.ex ((X1 + X2) * X3)
  have bZ : LZ.length ≤ 181 := Nat.le_trans (Can.len_mul cS.is i3 cZ rfl) (by omega)
  have a12 := fun (W : World) (h1 : Reads W (.slice a1 l1.length d1) l1) (h2 : Reads W (.slice a2 l2.length d2) l2) => q_add i1 i2 cS (rfl) (by omega) (by omega) h1 h2
  have m12 := fun (W : World) (h1 : Reads W (.slice a1 l1.length d1) l1) (h2 : Reads W (.slice a2 l2.length d2) l2) => q_mul i1 i2 cP (rfl) (by omega) (by omega) h1 h2
  have kS := fun (W : World) {p1 : Option Addr} {q1 : Nat} (h1 : Reads W (.slice p1 LS.length q1) LS) => q_check cS (by omega) h1
  have kP := fun (W : World) {p1 : Option Addr} {q1 : Nat} (h1 : Reads W (.slice p1 LP.length q1) LP) => q_check cP (by omega) h1
  have a21 := fun (W : World) (h1 : Reads W (.slice a2 l2.length d2) l2) (h2 : Reads W (.slice a1 l1.length d1) l1) => q_add i2 i1 cS (Int.add_comm _ _) (by omega) (by omega) h1 h2
  have eS := fun (W : World) {p1 : Option Addr} {q1 : Nat} {p2 : Option Addr} {q2 : Nat} (h1 : Reads W (.slice p1 LS.length q1) LS) (h2 : Reads W (.slice p2 LS.length q2) LS) => q_same true cS cS (by simp) (by omega) (by omega) h1 h2
  have m21 := fun (W : World) (h1 : Reads W (.slice a2 l2.length d2) l2) (h2 : Reads W (.slice a1 l1.length d1) l1) => q_mul i2 i1 cP (Int.mul_comm _ _) (by omega) (by omega) h1 h2
  have eP := fun (W : World) {p1 : Option Addr} {q1 : Nat} {p2 : Option Addr} {q2 : Nat} (h1 : Reads W (.slice p1 LP.length q1) LP) (h2 : Reads W (.slice p2 LP.length q2) LP) => q_same true cP cP (by simp) (by omega) (by omega) h1 h2
  have aS3 := fun (W : World) {p1 : Option Addr} {q1 : Nat} (h1 : Reads W (.slice p1 LS.length q1) LS) (h2 : Reads W (.slice a3 l3.length d3) l3) => q_add cS.is i3 cT (rfl) (by omega) (by omega) h1 h2
  have a23 := fun (W : World) (h1 : Reads W (.slice a2 l2.length d2) l2) (h2 : Reads W (.slice a3 l3.length d3) l3) => q_add i2 i3 cU (rfl) (by omega) (by omega) h1 h2
  have a1U := fun (W : World) {p2 : Option Addr} {q2 : Nat} (h1 : Reads W (.slice a1 l1.length d1) l1) (h2 : Reads W (.slice p2 LU.length q2) LU) => q_add i1 cU.is cT (Int.add_assoc _ _ _) (by omega) (by omega) h1 h2
  have eT := fun (W : World) {p1 : Option Addr} {q1 : Nat} {p2 : Option Addr} {q2 : Nat} (h1 : Reads W (.slice p1 LT.length q1) LT) (h2 : Reads W (.slice p2 LT.length q2) LT) => q_same true cT cT (by simp) (by omega) (by omega) h1 h2
  have mP3 := fun (W : World) {p1 : Option Addr} {q1 : Nat} (h1 : Reads W (.slice p1 LP.length q1) LP) (h2 : Reads W (.slice a3 l3.length d3) l3) => q_mul cP.is i3 cQ (rfl) (by omega) (by omega) h1 h2
  have m23 := fun (W : World) (h1 : Reads W (.slice a2 l2.length d2) l2) (h2 : Reads W (.slice a3 l3.length d3) l3) => q_mul i2 i3 cY (rfl) (by omega) (by omega) h1 h2
  have m1Y := fun (W : World) {p2 : Option Addr} {q2 : Nat} (h1 : Reads W (.slice a1 l1.length d1) l1) (h2 : Reads W (.slice p2 LY.length q2) LY) => q_mul i1 cY.is cQ (Int.mul_assoc _ _ _) (by omega) (by omega) h1 h2
  have eQ := fun (W : World) {p1 : Option Addr} {q1 : Nat} {p2 : Option Addr} {q2 : Nat} (h1 : Reads W (.slice p1 LQ.length q1) LQ) (h2 : Reads W (.slice p2 LQ.length q2) LQ) => q_same true cQ cQ (by simp) (by omega) (by omega) h1 h2
  have mS3 := fun (W : World) {p1 : Option Addr} {q1 : Nat} (h1 : Reads W (.slice p1 LS.length q1) LS) (h2 : Reads W (.slice a3 l3.length d3) l3) => q_mul cS.is i3 cZ (rfl) (by omega) (by omega) h1 h2
  have m13 := fun (W : World) (h1 : Reads W (.slice a1 l1.length d1) l1) (h2 : Reads W (.slice a3 l3.length d3) l3) => q_mul i1 i3 cX (rfl) (by omega) (by omega) h1 h2
  have aXY := fun (W : World) {p1 : Option Addr} {q1 : Nat} {p2 : Option Addr} {q2 : Nat} (h1 : Reads W (.slice p1 LX.length q1) LX) (h2 : Reads W (.slice p2 LY.length q2) LY) => q_add cX.is cY.is cZ (Int.add_mul _ _ _) (by omega) (by omega) h1 h2
  have eZ := fun (W : World) {p1 : Option Addr} {q1 : Nat} {p2 : Option Addr} {q2 : Nat} (h1 : Reads W (.slice p1 LZ.length q1) LZ) (h2 : Reads W (.slice p2 LZ.length q2) LZ) => q_same true cZ cZ (by simp) (by omega) (by omega) h1 h2
  have A := ((Box2.new w 25 (.bool n1) (.slice a1 l1.length d1)).alloc (.cells #[.bool n2, .slice a2 l2.length d2] 25)).alloc (.cells #[.bool n3, .slice a3 l3.length d3] 25)
  have B := (Box2.new1 w (.cells #[.bool n1, .slice a1 l1.length d1] 25) 25 (.bool n2) (.slice a2 l2.length d2)).alloc (.cells #[.bool n3, .slice a3 l3.length d3] 25)
  have C := Box2.new1 (w.alloc (.cells #[.bool n1, .slice a1 l1.length d1] 25)) (.cells #[.bool n2, .slice a2 l2.length d2] 25) 25 (.bool n3) (.slice a3 l3.length d3)
  rw [World.size_alloc] at C
  have r0 : Below w.heap.size w (((w.alloc (.cells #[.bool n1, .slice a1 l1.length d1] 25)).alloc (.cells #[.bool n2, .slice a2 l2.length d2] 25)).alloc (.cells #[.bool n3, .slice a3 l3.length d3] 25)) := (((Below.refl _ _).alloc (Nat.le_refl _) _).alloc (by simp) _).alloc (by simp; omega) _
  replace g1 := g1.below r0
  replace g2 := g2.below r0
  replace g3 := g3.below r0
  have j1 : ¬ 60 < (l1.length : Int) := by omega
  have j2 : ¬ 60 < (l2.length : Int) := by omega
  have j3 : ¬ 60 < (l3.length : Int) := by omega
  clear k1 k2 k3 m1 m2 m3 hX1 hX2 hX3 i1 i2 i3 bS cS bP cP bT cT bU cU bQ cQ bY cY bX cX bZ cZ
  go_enter Try.func3, Try.ntmps3
  go_wp2_with (first
    | (go_at_call 9; with_reducible refine (ialive_any _).mono ?_; rintro e w1 ⟨rfl, rr⟩; replace g1 := g1.below rr; replace g2 := g2.below rr; replace g3 := g3.below rr; replace A := A.below rr; replace B := B.below rr; replace C := C.below rr; replace r0 := then_below r0 rr; clear rr; have z1 := A.c0; have z2 := A.c1; have z3 := B.c0; have z4 := B.c1; have z5 := C.c0; have z6 := C.c1)
    | (go_at_call 10; with_reducible refine (a12 _ g1 g2).mono ?_; rintro e w2 ⟨x2, y2, rfl, gS, rr⟩; replace g1 := g1.below rr; replace g2 := g2.below rr; replace g3 := g3.below rr; replace A := A.below rr; replace B := B.below rr; replace C := C.below rr; replace r0 := then_below r0 rr; clear rr; have al := (Below.refl w2.heap.size w2).alloc (Nat.le_refl _) (.cells #[.bool sS, .slice x2 LS.length y2] 25); replace g1 := g1.below al; replace g2 := g2.below al; replace g3 := g3.below al; replace gS := gS.below al; replace A := A.below al; replace B := B.below al; replace C := C.below al; replace r0 := then_below r0 al; have D := Box2.new w2 25 (.bool sS) (.slice x2 LS.length y2); clear al z1 z2 z3 z4 z5 z6; have z1 := A.c0; have z2 := A.c1; have z3 := B.c0; have z4 := B.c1; have z5 := C.c0; have z6 := C.c1)
    | (go_at_call 11; with_reducible refine (m12 _ g1 g2).mono ?_; rintro e w3 ⟨x3, y3, rfl, gP, rr⟩; replace g1 := g1.below rr; replace g2 := g2.below rr; replace g3 := g3.below rr; replace gS := gS.below rr; replace A := A.below rr; replace B := B.below rr; replace C := C.below rr; replace D := D.below rr; replace r0 := then_below r0 rr; clear rr; have al := (Below.refl w3.heap.size w3).alloc (Nat.le_refl _) (.cells #[.bool sP, .slice x3 LP.length y3] 25); replace g1 := g1.below al; replace g2 := g2.below al; replace g3 := g3.below al; replace gS := gS.below al; replace gP := gP.below al; replace A := A.below al; replace B := B.below al; replace C := C.below al; replace D := D.below al; replace r0 := then_below r0 al; have E := Box2.new w3 25 (.bool sP) (.slice x3 LP.length y3); clear al z1 z2 z3 z4 z5 z6))
  have rd : Below (w3.alloc (.cells #[.bool sP, .slice x3 LP.length y3] 25)).heap.size (w3.alloc (.cells #[.bool sP, .slice x3 LP.length y3] 25)) (w3.alloc (.cells #[.bool sP, .slice x3 LP.length y3] 25)).drew := ⟨rfl, rfl, rfl, Nat.le_refl _, fun _ _ => rfl⟩
  replace g1 := g1.below rd; replace g2 := g2.below rd; replace g3 := g3.below rd; replace gS := gS.below rd; replace gP := gP.below rd; replace A := A.below rd; replace B := B.below rd; replace C := C.below rd; replace D := D.below rd; replace E := E.below rd
  replace r0 := then_below r0 rd
  clear rd
  go_region_held3 (fun W => W.cell? ⟨w.heap.size, 0, none⟩ = some (.bool n1) ∧ W.cell? ⟨w.heap.size, 1, none⟩ = some (.slice a1 l1.length d1) ∧ W.cell? ⟨w.heap.size + 1, 0, none⟩ = some (.bool n2) ∧ W.cell? ⟨w.heap.size + 1, 1, none⟩ = some (.slice a2 l2.length d2) ∧ W.cell? ⟨w.heap.size + 1 + 1, 0, none⟩ = some (.bool n3) ∧ W.cell? ⟨w.heap.size + 1 + 1, 1, none⟩ = some (.slice a3 l3.length d3) ∧ W.cell? ⟨w2.heap.size, 0, none⟩ = some (.bool sS) ∧ W.cell? ⟨w2.heap.size, 1, none⟩ = some (.slice x2 LS.length y2) ∧ W.cell? ⟨w3.heap.size, 0, none⟩ = some (.bool sP) ∧ W.cell? ⟨w3.heap.size, 1, none⟩ = some (.slice x3 LP.length y3)) (exact ⟨A.c0, A.c1, B.c0, B.c1, C.c0, C.c1, D.c0, D.c1, E.c0, E.c1⟩) (first
    | (go_at_call 12; with_reducible refine (kS _ gS).mono ?_; rintro e w4 ⟨rfl, rr⟩; replace g1 := g1.below rr; replace g2 := g2.below rr; replace g3 := g3.below rr; replace gS := gS.below rr; replace gP := gP.below rr; replace A := A.below rr; replace B := B.below rr; replace C := C.below rr; replace D := D.below rr; replace E := E.below rr; replace r0 := then_below r0 rr; clear rr)
    | (go_at_call 12; with_reducible refine (kP w4 gP).mono ?_; rintro e w5 ⟨rfl, rr⟩; replace g1 := g1.below rr; replace g2 := g2.below rr; replace g3 := g3.below rr; replace gS := gS.below rr; replace gP := gP.below rr; replace A := A.below rr; replace B := B.below rr; replace C := C.below rr; replace D := D.below rr; replace E := E.below rr; replace r0 := then_below r0 rr; clear rr)
    | (go_at_call 10; with_reducible refine (a21 w5 g2 g1).mono ?_; rintro e w6 ⟨x6, y6, rfl, gS2, rr⟩; replace g1 := g1.below rr; replace g2 := g2.below rr; replace g3 := g3.below rr; replace gS := gS.below rr; replace gP := gP.below rr; replace A := A.below rr; replace B := B.below rr; replace C := C.below rr; replace D := D.below rr; replace E := E.below rr; replace r0 := then_below r0 rr; clear rr)
    | (go_at_call 13; with_reducible refine (eS w6 gS gS2).mono ?_; rintro e w7 ⟨rfl, rr⟩; replace g1 := g1.below rr; replace g2 := g2.below rr; replace g3 := g3.below rr; replace gS := gS.below rr; replace gP := gP.below rr; replace A := A.below rr; replace B := B.below rr; replace C := C.below rr; replace D := D.below rr; replace E := E.below rr; replace r0 := then_below r0 rr; clear rr)
    | (go_at_call 11; with_reducible refine (m21 w7 g2 g1).mono ?_; rintro e w8 ⟨x8, y8, rfl, gP2, rr⟩; replace g1 := g1.below rr; replace g2 := g2.below rr; replace g3 := g3.below rr; replace gS := gS.below rr; replace gP := gP.below rr; replace A := A.below rr; replace B := B.below rr; replace C := C.below rr; replace D := D.below rr; replace E := E.below rr; replace r0 := then_below r0 rr; clear rr)
    | (go_at_call 13; with_reducible refine (eP w8 gP gP2).mono ?_; rintro e w9 ⟨rfl, rr⟩; replace g1 := g1.below rr; replace g2 := g2.below rr; replace g3 := g3.below rr; replace gS := gS.below rr; replace gP := gP.below rr; replace A := A.below rr; replace B := B.below rr; replace C := C.below rr; replace D := D.below rr; replace E := E.below rr; replace r0 := then_below r0 rr; clear rr)
    | (go_at_call 10; with_reducible refine (aS3 w9 gS g3).mono ?_; rintro e w10 ⟨x10, y10, rfl, gT, rr⟩; replace g1 := g1.below rr; replace g2 := g2.below rr; replace g3 := g3.below rr; replace gS := gS.below rr; replace gP := gP.below rr; replace A := A.below rr; replace B := B.below rr; replace C := C.below rr; replace D := D.below rr; replace E := E.below rr; replace r0 := then_below r0 rr; clear rr)
    | (go_at_call 10; with_reducible refine (a23 w10 g2 g3).mono ?_; rintro e w11 ⟨x11, y11, rfl, gU, rr⟩; replace g1 := g1.below rr; replace g2 := g2.below rr; replace g3 := g3.below rr; replace gS := gS.below rr; replace gP := gP.below rr; replace gT := gT.below rr; replace A := A.below rr; replace B := B.below rr; replace C := C.below rr; replace D := D.below rr; replace E := E.below rr; replace r0 := then_below r0 rr; clear rr)
    | (go_at_call 10; with_reducible refine (a1U w11 g1 gU).mono ?_; rintro e w12 ⟨x12, y12, rfl, gT2, rr⟩; replace g1 := g1.below rr; replace g2 := g2.below rr; replace g3 := g3.below rr; replace gS := gS.below rr; replace gP := gP.below rr; replace gT := gT.below rr; replace A := A.below rr; replace B := B.below rr; replace C := C.below rr; replace D := D.below rr; replace E := E.below rr; replace r0 := then_below r0 rr; clear rr)
    | (go_at_call 13; with_reducible refine (eT w12 gT gT2).mono ?_; rintro e w13 ⟨rfl, rr⟩; replace g1 := g1.below rr; replace g2 := g2.below rr; replace g3 := g3.below rr; replace gS := gS.below rr; replace gP := gP.below rr; replace A := A.below rr; replace B := B.below rr; replace C := C.below rr; replace D := D.below rr; replace E := E.below rr; replace r0 := then_below r0 rr; clear rr)
    | (go_at_call 11; with_reducible refine (mP3 w13 gP g3).mono ?_; rintro e w14 ⟨x14, y14, rfl, gQ, rr⟩; replace g1 := g1.below rr; replace g2 := g2.below rr; replace g3 := g3.below rr; replace gS := gS.below rr; replace A := A.below rr; replace B := B.below rr; replace C := C.below rr; replace D := D.below rr; replace E := E.below rr; replace r0 := then_below r0 rr; clear rr)
    | (go_at_call 11; with_reducible refine (m23 w14 g2 g3).mono ?_; rintro e w15 ⟨x15, y15, rfl, gY, rr⟩; replace g1 := g1.below rr; replace g2 := g2.below rr; replace g3 := g3.below rr; replace gS := gS.below rr; replace gQ := gQ.below rr; replace A := A.below rr; replace B := B.below rr; replace C := C.below rr; replace D := D.below rr; replace E := E.below rr; replace r0 := then_below r0 rr; clear rr)
    | (go_at_call 11; with_reducible refine (m1Y w15 g1 gY).mono ?_; rintro e w16 ⟨x16, y16, rfl, gQ2, rr⟩; replace g1 := g1.below rr; replace g2 := g2.below rr; replace g3 := g3.below rr; replace gS := gS.below rr; replace gQ := gQ.below rr; replace A := A.below rr; replace B := B.below rr; replace C := C.below rr; replace D := D.below rr; replace E := E.below rr; replace r0 := then_below r0 rr; clear rr)
    | (go_at_call 13; with_reducible refine (eQ w16 gQ gQ2).mono ?_; rintro e w17 ⟨rfl, rr⟩; replace g1 := g1.below rr; replace g2 := g2.below rr; replace g3 := g3.below rr; replace gS := gS.below rr; replace A := A.below rr; replace B := B.below rr; replace C := C.below rr; replace D := D.below rr; replace E := E.below rr; replace r0 := then_below r0 rr; clear rr)
    | (go_at_call 11; with_reducible refine (mS3 w17 gS g3).mono ?_; rintro e w18 ⟨x18, y18, rfl, gZ, rr⟩; replace g1 := g1.below rr; replace g2 := g2.below rr; replace g3 := g3.below rr; replace A := A.below rr; replace B := B.below rr; replace C := C.below rr; replace D := D.below rr; replace E := E.below rr; replace r0 := then_below r0 rr; clear rr)
    | (go_at_call 11; with_reducible refine (m13 w18 g1 g3).mono ?_; rintro e w19 ⟨x19, y19, rfl, gX, rr⟩; replace g2 := g2.below rr; replace g3 := g3.below rr; replace gZ := gZ.below rr; replace A := A.below rr; replace B := B.below rr; replace C := C.below rr; replace D := D.below rr; replace E := E.below rr; replace r0 := then_below r0 rr; clear rr)
    | (go_at_call 11; with_reducible refine (m23 w19 g2 g3).mono ?_; rintro e w20 ⟨x20, y20, rfl, gV, rr⟩; replace gZ := gZ.below rr; replace gX := gX.below rr; replace A := A.below rr; replace B := B.below rr; replace C := C.below rr; replace D := D.below rr; replace E := E.below rr; replace r0 := then_below r0 rr; clear rr)
    | (go_at_call 10; with_reducible refine (aXY w20 gX gV).mono ?_; rintro e w21 ⟨x21, y21, rfl, gZ2, rr⟩; replace gZ := gZ.below rr; replace A := A.below rr; replace B := B.below rr; replace C := C.below rr; replace D := D.below rr; replace E := E.below rr; replace r0 := then_below r0 rr; clear rr)
    | (go_at_call 13; with_reducible refine (eZ w21 gZ gZ2).mono ?_; rintro e w22 ⟨rfl, rr⟩; replace A := A.below rr; replace B := B.below rr; replace C := C.below rr; replace D := D.below rr; replace E := E.below rr; replace r0 := then_below r0 rr; clear rr))
  all_goals
    go_wp2
    go_ret
    exact ⟨rfl, r0⟩

set_option maxRecDepth 100000 in
set_option maxHeartbeats 2000000 in
theorem iring_far {w : World} {n1 n2 n3 : Bool} {a1 a2 a3 : Option Addr} {k1 k2 k3 d1 d2 d3 : Nat} (h : 60 < k1 ∨ 60 < k2 ∨ 60 < k3) :
    Calls Try.prog 3 #[.agg #[.bool n1, .slice a1 k1 d1], .agg #[.bool n2, .slice a2 k2 d2], .agg #[.bool n3, .slice a3 k3 d3]] w fun e w' => e = .returned (.bool true) ∧ Below w.heap.size w w' := by
  have hc : (60 < (k1 : Int)) ∨ (¬ 60 < (k1 : Int) ∧ 60 < (k2 : Int)) ∨ (¬ 60 < (k1 : Int) ∧ ¬ 60 < (k2 : Int) ∧ 60 < (k3 : Int)) := by omega
  clear h
  have A := ((Box2.new w 25 (.bool n1) (.slice a1 k1 d1)).alloc (.cells #[.bool n2, .slice a2 k2 d2] 25)).alloc (.cells #[.bool n3, .slice a3 k3 d3] 25)
  have B := (Box2.new1 w (.cells #[.bool n1, .slice a1 k1 d1] 25) 25 (.bool n2) (.slice a2 k2 d2)).alloc (.cells #[.bool n3, .slice a3 k3 d3] 25)
  have C := Box2.new1 (w.alloc (.cells #[.bool n1, .slice a1 k1 d1] 25)) (.cells #[.bool n2, .slice a2 k2 d2] 25) 25 (.bool n3) (.slice a3 k3 d3)
  rw [World.size_alloc] at C
  have r0 : Below w.heap.size w (((w.alloc (.cells #[.bool n1, .slice a1 k1 d1] 25)).alloc (.cells #[.bool n2, .slice a2 k2 d2] 25)).alloc (.cells #[.bool n3, .slice a3 k3 d3] 25)) := (((Below.refl _ _).alloc (Nat.le_refl _) _).alloc (by simp) _).alloc (by simp; omega) _
  rcases hc with h1 | ⟨h1, h2⟩ | ⟨h1, h2, h3⟩
  all_goals
    go_enter Try.func3, Try.ntmps3
    go_wp2_with (first
      | (go_at_call 9; with_reducible refine (ialive_any (((w.alloc (.cells #[.bool n1, .slice a1 k1 d1] 25)).alloc (.cells #[.bool n2, .slice a2 k2 d2] 25)).alloc (.cells #[.bool n3, .slice a3 k3 d3] 25))).mono ?_; rintro e w1 ⟨rfl, rr⟩; replace r0 := then_below r0 rr; replace A := A.below rr; replace B := B.below rr; replace C := C.below rr; have z1 := A.c0; have z2 := A.c1; have z3 := B.c0; have z4 := B.c1; have z5 := C.c0; have z6 := C.c1)
      | (go_at_call 9; with_reducible refine (ialive_any w1).mono ?_; rintro e w2 ⟨rfl, r2⟩))
    go_ret
    exact ⟨rfl, then_below r0 r2⟩

end Go.Proofs.Yteainahomgmhfaa
