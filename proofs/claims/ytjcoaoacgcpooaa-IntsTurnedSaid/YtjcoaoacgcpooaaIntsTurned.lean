/- IntsTurned: its walks. -/
import Derived.Test.YtjcoaoacgcpooaaIntsAlive
import Derived.Test.YtjcoaoacgcpooaaIntsGreat
import Derived.Deep.RegionHeld3
namespace Go.Proofs.Ytjcoaoacgcpooaa
open Go Go.Proofs Go.RowKit Go.Shelf Nu

attribute [local go_sem] Oper.semAt_some

theorem sgz_neg_i (X : Int) : IntKind.i64.wrap (-(sgz X 0)) = sgz (-X) 0 := by
  rcases Int.lt_trichotomy X 0 with h | h | h
  · rw [show sgz X 0 = -1 by simp [sgz, h], show sgz (-X) 0 = 1 by simp only [sgz]; split <;> (try split) <;> omega]; rfl
  · subst h; rfl
  · rw [show sgz X 0 = 1 by simp only [sgz]; split <;> (try split) <;> omega, show sgz (-X) 0 = -1 by simp only [sgz]; split <;> (try split) <;> omega]; rfl
theorem sgz_pos {X : Int} (h : 0 < X) : sgz X 0 = 1 := by simp only [sgz]; split <;> (try split) <;> omega
theorem sgz_lt0 {X : Int} (h : X < 0) : sgz X 0 = -1 := by simp only [sgz]; split <;> (try split) <;> omega
theorem sgz_zero : sgz 0 0 = 0 := rfl
theorem sgz_mul_i (X Y : Int) : IntKind.i64.wrap (sgz X 0 * sgz Y 0) = sgz (X * Y) 0 := by
  rcases Int.lt_trichotomy X 0 with h | h | h <;> rcases Int.lt_trichotomy Y 0 with k | k | k
  · rw [sgz_lt0 h, sgz_lt0 k, sgz_pos (Int.mul_pos_of_neg_of_neg h k)]; rfl
  · subst k; rw [sgz_lt0 h, Int.mul_zero]; rfl
  · rw [sgz_lt0 h, sgz_pos k, sgz_lt0 (Int.mul_neg_of_neg_of_pos h k)]; rfl
  · subst h; rw [Int.zero_mul, sgz_zero, Int.zero_mul]; rfl
  · subst h; rw [Int.zero_mul, sgz_zero, Int.zero_mul]; rfl
  · subst h; rw [Int.zero_mul, sgz_zero, Int.zero_mul]; rfl
  · rw [sgz_pos h, sgz_lt0 k, sgz_lt0 (Int.mul_neg_of_pos_of_neg h k)]; rfl
  · subst k; rw [sgz_pos h, Int.mul_zero]; rfl
  · rw [sgz_pos h, sgz_pos k, sgz_pos (Int.mul_pos h k)]; rfl
theorem can_zero : Can false [] 0 := ⟨by simp, by rw [show Int.natAbs 0 = 0 from rfl, digs_zero]⟩
theorem can_le {s t : Bool} {L M : List Nat} {X Y : Int} (h : Can s L X) (k : Can t M Y) (e : X.natAbs = Y.natAbs) : L.length ≤ M.length := by rw [h.2, k.2, e]; exact Nat.le_refl _

set_option maxRecDepth 100000 in
set_option maxHeartbeats 8000000 in
theorem iturn_near {w : World} {n1 n2 : Bool} {a1 a2 : Option Addr} {d1 d2 : Nat} {l1 l2 : List Nat} (g1 : Reads w (.slice a1 l1.length d1) l1) (g2 : Reads w (.slice a2 l2.length d2) l2) (k1' : l1.length ≤ 200) (k2' : l2.length ≤ 200) (m1 : Sm l1) (m2 : Sm l2) (v1 : ichk n1 l1 = true) (v2 : ichk n2 l2 = true) :
    Calls Try.prog 4 #[.agg #[.bool n1, .slice a1 l1.length d1], .agg #[.bool n2, .slice a2 l2.length d2]] w fun e w' => e = .returned (.bool true) ∧ Below w.heap.size w w' := by
  obtain ⟨X1, hX1⟩ : ∃ X, X = zv n1 l1 := ⟨_, rfl⟩
  have c1 : Can n1 l1 X1 := hX1 ▸ Can.of m1 v1
  obtain ⟨X2, hX2⟩ : ∃ X, X = zv n2 l2 := ⟨_, rfl⟩
  have c2 : Can n2 l2 X2 := hX2 ▸ Can.of m2 v2
  obtain ⟨sN, LN, cN⟩ := Can.ex (-X1)
  have bN : LN.length ≤ 200 := Nat.le_trans (can_le cN c1 (Int.natAbs_neg _)) (by omega)
  obtain ⟨sA, LA, cA⟩ := Can.ex (X1)
  have bA : LA.length ≤ 200 := Nat.le_trans (can_le cA c1 rfl) (by omega)
  obtain ⟨sO, LO, cO⟩ := Can.ex ((0 : Int))
  have bO : LO.length ≤ 0 := Nat.le_trans (show LO.length ≤ 0 from by have := can_le cO can_zero rfl; simpa using this) (by omega)
  obtain ⟨sD, LD, cD⟩ := Can.ex (X2 - X1)
  have bD : LD.length ≤ 401 := Nat.le_trans (Can.len_add c2.is c1.is cD (.inr rfl)) (by omega)
  obtain ⟨sS, LS, cS⟩ := Can.ex (X1 + X2)
  have bS : LS.length ≤ 401 := Nat.le_trans (Can.len_add c1.is c2.is cS (.inl rfl)) (by omega)
  obtain ⟨sP, LP, cP⟩ := Can.ex (X1 * X2)
  have bP : LP.length ≤ 400 := Nat.le_trans (Can.len_mul c1.is c2.is cP rfl) (by omega)
  obtain ⟨sM, LM, cM⟩ := Can.ex (-X1 * X2)
  have bM : LM.length ≤ 400 := Nat.le_trans (Can.len_mul cN.is c2.is cM rfl) (by omega)
  obtain ⟨za, hza⟩ : ∃ z, z = sgz X1 0 := ⟨_, rfl⟩
  obtain ⟨zb, hzb⟩ : ∃ z, z = sgz X2 0 := ⟨_, rfl⟩
  obtain ⟨zn, hzn⟩ : ∃ z, z = sgz (-X1) 0 := ⟨_, rfl⟩
  obtain ⟨zp, hzp⟩ : ∃ z, z = sgz (X1 * X2) 0 := ⟨_, rfl⟩
  have ew1 := sgz_neg_i X1
  rw [← hza, ← hzn] at ew1
  have ew2 := sgz_mul_i X1 X2
  rw [← hza, ← hzb, ← hzp] at ew2
  have k1 := fun (W : World) (h1 : Reads W (.slice a1 l1.length d1) l1) => q_check c1 (by omega) h1
  have k2 := fun (W : World) (h1 : Reads W (.slice a2 l2.length d2) l2) => q_check c2 (by omega) h1
  have k3 := fun (W : World) (h1 : Reads W (.slice a1 l1.length d1) l1) => q_neg c1.is cN (rfl) (by omega) h1
  have k4 := fun (W : World) {p2 : Option Addr} {q2 : Nat} (h1 : Reads W (.slice a1 l1.length d1) l1) (h2 : Reads W (.slice p2 LN.length q2) LN) => q_add c1.is cN.is cO ((Int.add_right_neg _).symm) (by omega) (by omega) h1 h2
  have k5 := fun (W : World) {p1 : Option Addr} {q1 : Nat} (h1 : Reads W (.slice p1 LO.length q1) LO) => q_same true cO can_zero (by simp) (by omega) (by simp) h1 (Reads.nil W)
  simp only [List.length_nil] at k5
  have k6 := fun (W : World) {p1 : Option Addr} {q1 : Nat} (h1 : Reads W (.slice p1 LN.length q1) LN) => q_neg cN.is cA ((Int.neg_neg _).symm) (by omega) h1
  have k7 := fun (W : World) {p1 : Option Addr} {q1 : Nat} (h1 : Reads W (.slice p1 LA.length q1) LA) (h2 : Reads W (.slice a1 l1.length d1) l1) => q_same true cA c1 (by simp) (by omega) (by omega) h1 h2
  have k8 := fun (W : World) (h1 : Reads W (.slice a2 l2.length d2) l2) (h2 : Reads W (.slice a1 l1.length d1) l1) => q_sub c2.is c1.is cD (rfl) (by omega) (by omega) h1 h2
  have k9 := fun (W : World) {p2 : Option Addr} {q2 : Nat} (h1 : Reads W (.slice a2 l2.length d2) l2) (h2 : Reads W (.slice p2 LN.length q2) LN) => q_add c2.is cN.is cD (Int.sub_eq_add_neg) (by omega) (by omega) h1 h2
  have k10 := fun (W : World) {p1 : Option Addr} {q1 : Nat} {p2 : Option Addr} {q2 : Nat} (h1 : Reads W (.slice p1 LD.length q1) LD) (h2 : Reads W (.slice p2 LD.length q2) LD) => q_same true cD cD (by simp) (by omega) (by omega) h1 h2
  have k11 := fun (W : World) (h1 : Reads W (.slice a1 l1.length d1) l1) (h2 : Reads W (.slice a2 l2.length d2) l2) => q_add c1.is c2.is cS (rfl) (by omega) (by omega) h1 h2
  have k12 := fun (W : World) {p1 : Option Addr} {q1 : Nat} (h1 : Reads W (.slice p1 LS.length q1) LS) (h2 : Reads W (.slice a2 l2.length d2) l2) => q_sub cS.is c2.is cA (by omega) (by omega) (by omega) h1 h2
  have k13 := fun (W : World) {p1 : Option Addr} {q1 : Nat} (h1 : Reads W (.slice p1 LA.length q1) LA) (h2 : Reads W (.slice a1 l1.length d1) l1) => q_same true cA c1 (by simp) (by omega) (by omega) h1 h2
  have k14 := fun (W : World) {p1 : Option Addr} {q1 : Nat} (h1 : Reads W (.slice p1 LN.length q1) LN) => q_sign (zn) cN.is (hzn.symm) (by omega) h1
  have k15 := fun (W : World) (h1 : Reads W (.slice a1 l1.length d1) l1) => q_sign (za) c1.is (hza.symm) (by omega) h1
  have k16 := fun (W : World) (h1 : Reads W (.slice a1 l1.length d1) l1) (h2 : Reads W (.slice a2 l2.length d2) l2) => q_mul c1.is c2.is cP (rfl) (by omega) (by omega) h1 h2
  have k17 := fun (W : World) {p1 : Option Addr} {q1 : Nat} (h1 : Reads W (.slice p1 LP.length q1) LP) => q_sign (zp) cP.is (hzp.symm) (by omega) h1
  have k18 := fun (W : World) (h1 : Reads W (.slice a1 l1.length d1) l1) => q_sign (za) c1.is (hza.symm) (by omega) h1
  have k19 := fun (W : World) (h1 : Reads W (.slice a2 l2.length d2) l2) => q_sign (zb) c2.is (hzb.symm) (by omega) h1
  have k20 := fun (W : World) {p1 : Option Addr} {q1 : Nat} (h1 : Reads W (.slice p1 LN.length q1) LN) (h2 : Reads W (.slice a2 l2.length d2) l2) => q_mul cN.is c2.is cM (rfl) (by omega) (by omega) h1 h2
  have k21 := fun (W : World) (h1 : Reads W (.slice a1 l1.length d1) l1) (h2 : Reads W (.slice a2 l2.length d2) l2) => q_mul c1.is c2.is cP (rfl) (by omega) (by omega) h1 h2
  have k22 := fun (W : World) {p1 : Option Addr} {q1 : Nat} (h1 : Reads W (.slice p1 LP.length q1) LP) => q_neg cP.is cM (Int.neg_mul _ _) (by omega) h1
  have k23 := fun (W : World) {p1 : Option Addr} {q1 : Nat} {p2 : Option Addr} {q2 : Nat} (h1 : Reads W (.slice p1 LM.length q1) LM) (h2 : Reads W (.slice p2 LM.length q2) LM) => q_same true cM cM (by simp) (by omega) (by omega) h1 h2
  have hG : Hid (false = [(n1, a1, l1.length, d1), (n2, a2, l2.length, d2)].any fun t => decide (200 < t.2.2.1)) := Lib.hid (by simp; omega)
  have A := ((Box2.new w 25 (.bool n1) (.slice a1 l1.length d1)).alloc (.cells #[.bool n2, .slice a2 l2.length d2] 25))
  have B := (Box2.new1 w (.cells #[.bool n1, .slice a1 l1.length d1] 25) 25 (.bool n2) (.slice a2 l2.length d2))
  have r0 : Below w.heap.size w ((w.alloc (.cells #[.bool n1, .slice a1 l1.length d1] 25)).alloc (.cells #[.bool n2, .slice a2 l2.length d2] 25)) := ((Below.refl _ _).alloc (Nat.le_refl _) _).alloc (by simp) _
  replace g1 := g1.below r0
  replace g2 := g2.below r0
  clear hza hzb hzn hzp
  clear k1' m1 hX1 c1 v1 k2' m2 hX2 c2 v2 bN cN bA cA bO cO bD cD bS cS bP cP bM cM
  go_enter Try.func4, Try.ntmps4
  go_wp2_with (first
    | (go_at_call 9; with_reducible refine (ialive_any _).mono ?_; rintro e w1 ⟨rfl, rr⟩; replace g1 := g1.below rr; replace g2 := g2.below rr; replace A := A.below rr; replace B := B.below rr; replace r0 := then_below r0 rr; clear rr; have z0 := A.c0; have y0 := A.c1; have z1 := B.c0; have y1 := B.c1)
    | (go_at_call 14; have kg := igreat_lit w1 [(n1, a1, l1.length, d1), (n2, a2, l2.length, d2)] (vs := #[.bool n1, .slice a1 l1.length d1, .bool n2, .slice a2 l2.length d2]) (by simp [q4v]) (m := 2) rfl (by simp) false hG.out; with_reducible refine kg.mono ?_; clear kg; rintro e w2 ⟨rfl, rr⟩; replace g1 := g1.below rr; replace g2 := g2.below rr; replace A := A.below rr; replace B := B.below rr; replace r0 := then_below r0 rr; clear rr; clear z0 y0 z1 y1; have z0 := A.c0; have y0 := A.c1; have z1 := B.c0; have y1 := B.c1)
    | (go_at_call 12; with_reducible refine (k1 w2 g1).mono ?_; rintro e w3 ⟨rfl, rr⟩; replace g1 := g1.below rr; replace g2 := g2.below rr; replace A := A.below rr; replace B := B.below rr; replace r0 := then_below r0 rr; clear rr; clear z0 y0 z1 y1; have z0 := A.c0; have y0 := A.c1; have z1 := B.c0; have y1 := B.c1)
    | (go_at_call 12; with_reducible refine (k2 w3 g2).mono ?_; rintro e w4 ⟨rfl, rr⟩; replace g1 := g1.below rr; replace g2 := g2.below rr; replace A := A.below rr; replace B := B.below rr; replace r0 := then_below r0 rr; clear rr; clear z0 y0 z1 y1; have z0 := A.c0; have y0 := A.c1; have z1 := B.c0; have y1 := B.c1)
    | (go_at_call 15; with_reducible refine (k3 w4 g1).mono ?_; rintro e w5 ⟨x5, y5, rfl, gN, rr⟩; replace g1 := g1.below rr; replace g2 := g2.below rr; replace A := A.below rr; replace B := B.below rr; replace r0 := then_below r0 rr; clear rr; clear z0 y0 z1 y1; have al := (Below.refl w5.heap.size w5).alloc (Nat.le_refl _) (.cells #[.bool sN, .slice x5 LN.length y5] 25); replace g1 := g1.below al; replace g2 := g2.below al; replace gN := gN.below al; replace A := A.below al; replace B := B.below al; replace r0 := then_below r0 al; have D := Box2.new w5 25 (.bool sN) (.slice x5 LN.length y5); clear al; have z0 := A.c0; have y0 := A.c1; have z1 := B.c0; have y1 := B.c1; have z2 := D.c0; have y2 := D.c1))
  have rd : Below (w5.alloc (.cells #[.bool sN, .slice x5 LN.length y5] 25)).heap.size (w5.alloc (.cells #[.bool sN, .slice x5 LN.length y5] 25)) (w5.alloc (.cells #[.bool sN, .slice x5 LN.length y5] 25)).drew := ⟨rfl, rfl, rfl, Nat.le_refl _, fun _ _ => rfl⟩
  replace g1 := g1.below rd; replace g2 := g2.below rd; replace gN := gN.below rd; replace A := A.below rd; replace B := B.below rd; replace D := D.below rd
  replace r0 := then_below r0 rd
  clear rd z0 y0 z1 y1 z2 y2
  go_region_held3 (fun W => W.cell? ⟨w.heap.size, 0, none⟩ = some (.bool n1) ∧ W.cell? ⟨w.heap.size, 1, none⟩ = some (.slice a1 l1.length d1) ∧ W.cell? ⟨w.heap.size + 1, 0, none⟩ = some (.bool n2) ∧ W.cell? ⟨w.heap.size + 1, 1, none⟩ = some (.slice a2 l2.length d2) ∧ W.cell? ⟨w5.heap.size, 0, none⟩ = some (.bool sN) ∧ W.cell? ⟨w5.heap.size, 1, none⟩ = some (.slice x5 LN.length y5)) (exact ⟨A.c0, A.c1, B.c0, B.c1, D.c0, D.c1⟩) (first
    | (go_at_call 10; with_reducible refine (k4 _ g1 gN).mono ?_; rintro e w6 ⟨x6, y6, rfl, gO, rr⟩; replace g1 := g1.below rr; replace g2 := g2.below rr; replace gN := gN.below rr; replace A := A.below rr; replace B := B.below rr; replace D := D.below rr; replace r0 := then_below r0 rr; clear rr)
    | (go_at_call 13; with_reducible refine (k5 w6 gO).mono ?_; rintro e w7 ⟨rfl, rr⟩; replace g1 := g1.below rr; replace g2 := g2.below rr; replace gN := gN.below rr; replace A := A.below rr; replace B := B.below rr; replace D := D.below rr; replace r0 := then_below r0 rr; clear rr)
    | (go_at_call 15; with_reducible refine (k6 w7 gN).mono ?_; rintro e w8 ⟨x8, y8, rfl, gA, rr⟩; replace g1 := g1.below rr; replace g2 := g2.below rr; replace gN := gN.below rr; replace A := A.below rr; replace B := B.below rr; replace D := D.below rr; replace r0 := then_below r0 rr; clear rr)
    | (go_at_call 13; with_reducible refine (k7 w8 gA g1).mono ?_; rintro e w9 ⟨rfl, rr⟩; replace g1 := g1.below rr; replace g2 := g2.below rr; replace gN := gN.below rr; replace A := A.below rr; replace B := B.below rr; replace D := D.below rr; replace r0 := then_below r0 rr; clear rr)
    | (go_at_call 16; with_reducible refine (k8 w9 g2 g1).mono ?_; rintro e w10 ⟨x10, y10, rfl, gD, rr⟩; replace g1 := g1.below rr; replace g2 := g2.below rr; replace gN := gN.below rr; replace A := A.below rr; replace B := B.below rr; replace D := D.below rr; replace r0 := then_below r0 rr; clear rr)
    | (go_at_call 10; with_reducible refine (k9 w10 g2 gN).mono ?_; rintro e w11 ⟨x11, y11, rfl, gD2, rr⟩; replace g1 := g1.below rr; replace g2 := g2.below rr; replace gN := gN.below rr; replace gD := gD.below rr; replace A := A.below rr; replace B := B.below rr; replace D := D.below rr; replace r0 := then_below r0 rr; clear rr)
    | (go_at_call 13; with_reducible refine (k10 w11 gD gD2).mono ?_; rintro e w12 ⟨rfl, rr⟩; replace g1 := g1.below rr; replace g2 := g2.below rr; replace gN := gN.below rr; replace A := A.below rr; replace B := B.below rr; replace D := D.below rr; replace r0 := then_below r0 rr; clear rr)
    | (go_at_call 10; with_reducible refine (k11 w12 g1 g2).mono ?_; rintro e w13 ⟨x13, y13, rfl, gS, rr⟩; replace g1 := g1.below rr; replace g2 := g2.below rr; replace gN := gN.below rr; replace A := A.below rr; replace B := B.below rr; replace D := D.below rr; replace r0 := then_below r0 rr; clear rr)
    | (go_at_call 16; with_reducible refine (k12 w13 gS g2).mono ?_; rintro e w14 ⟨x14, y14, rfl, gA2, rr⟩; replace g1 := g1.below rr; replace g2 := g2.below rr; replace gN := gN.below rr; replace A := A.below rr; replace B := B.below rr; replace D := D.below rr; replace r0 := then_below r0 rr; clear rr)
    | (go_at_call 13; with_reducible refine (k13 w14 gA2 g1).mono ?_; rintro e w15 ⟨rfl, rr⟩; replace g1 := g1.below rr; replace g2 := g2.below rr; replace gN := gN.below rr; replace A := A.below rr; replace B := B.below rr; replace D := D.below rr; replace r0 := then_below r0 rr; clear rr)
    | (go_at_call 17; with_reducible refine (k14 w15 gN).mono ?_; rintro e w16 ⟨rfl, rr⟩; replace g1 := g1.below rr; replace g2 := g2.below rr; replace gN := gN.below rr; replace A := A.below rr; replace B := B.below rr; replace D := D.below rr; replace r0 := then_below r0 rr; clear rr)
    | (go_at_call 17; with_reducible refine (k15 w16 g1).mono ?_; rintro e w17 ⟨rfl, rr⟩; replace g1 := g1.below rr; replace g2 := g2.below rr; replace gN := gN.below rr; replace A := A.below rr; replace B := B.below rr; replace D := D.below rr; replace r0 := then_below r0 rr; clear rr)
    | (go_at_call 11; with_reducible refine (k16 w17 g1 g2).mono ?_; rintro e w18 ⟨x18, y18, rfl, gP, rr⟩; replace g1 := g1.below rr; replace g2 := g2.below rr; replace gN := gN.below rr; replace A := A.below rr; replace B := B.below rr; replace D := D.below rr; replace r0 := then_below r0 rr; clear rr)
    | (go_at_call 17; with_reducible refine (k17 w18 gP).mono ?_; rintro e w19 ⟨rfl, rr⟩; replace g1 := g1.below rr; replace g2 := g2.below rr; replace gN := gN.below rr; replace A := A.below rr; replace B := B.below rr; replace D := D.below rr; replace r0 := then_below r0 rr; clear rr)
    | (go_at_call 17; with_reducible refine (k18 w19 g1).mono ?_; rintro e w20 ⟨rfl, rr⟩; replace g1 := g1.below rr; replace g2 := g2.below rr; replace gN := gN.below rr; replace A := A.below rr; replace B := B.below rr; replace D := D.below rr; replace r0 := then_below r0 rr; clear rr)
    | (go_at_call 17; with_reducible refine (k19 w20 g2).mono ?_; rintro e w21 ⟨rfl, rr⟩; replace g1 := g1.below rr; replace g2 := g2.below rr; replace gN := gN.below rr; replace A := A.below rr; replace B := B.below rr; replace D := D.below rr; replace r0 := then_below r0 rr; clear rr)
    | (go_at_call 11; with_reducible refine (k20 w21 gN g2).mono ?_; rintro e w22 ⟨x22, y22, rfl, gM, rr⟩; replace g1 := g1.below rr; replace g2 := g2.below rr; replace A := A.below rr; replace B := B.below rr; replace D := D.below rr; replace r0 := then_below r0 rr; clear rr)
    | (go_at_call 11; with_reducible refine (k21 w22 g1 g2).mono ?_; rintro e w23 ⟨x23, y23, rfl, gP2, rr⟩; replace gM := gM.below rr; replace A := A.below rr; replace B := B.below rr; replace D := D.below rr; replace r0 := then_below r0 rr; clear rr)
    | (go_at_call 15; with_reducible refine (k22 w23 gP2).mono ?_; rintro e w24 ⟨x24, y24, rfl, gM2, rr⟩; replace gM := gM.below rr; replace A := A.below rr; replace B := B.below rr; replace D := D.below rr; replace r0 := then_below r0 rr; clear rr)
    | (go_at_call 13; with_reducible refine (k23 w24 gM gM2).mono ?_; rintro e w25 ⟨rfl, rr⟩; replace A := A.below rr; replace B := B.below rr; replace D := D.below rr; replace r0 := then_below r0 rr; clear rr))
  all_goals
    go_wp2
    go_ret
    exact ⟨rfl, r0⟩

set_option maxRecDepth 100000 in
set_option maxHeartbeats 4000000 in
theorem iturn_far {w : World} {n1 n2 : Bool} {a1 a2 : Option Addr} {k1 d1 k2 d2 : Nat} (h : 200 < k1 ∨ 200 < k2) :
    Calls Try.prog 4 #[.agg #[.bool n1, .slice a1 k1 d1], .agg #[.bool n2, .slice a2 k2 d2]] w fun e w' => e = .returned (.bool true) ∧ Below w.heap.size w w' := by
  have hG : Hid (true = [(n1, a1, k1, d1), (n2, a2, k2, d2)].any fun t => decide (200 < t.2.2.1)) := Lib.hid (by simp; omega)
  have A := ((Box2.new w 25 (.bool n1) (.slice a1 k1 d1)).alloc (.cells #[.bool n2, .slice a2 k2 d2] 25))
  have B := (Box2.new1 w (.cells #[.bool n1, .slice a1 k1 d1] 25) 25 (.bool n2) (.slice a2 k2 d2))
  have r0 : Below w.heap.size w ((w.alloc (.cells #[.bool n1, .slice a1 k1 d1] 25)).alloc (.cells #[.bool n2, .slice a2 k2 d2] 25)) := ((Below.refl _ _).alloc (Nat.le_refl _) _).alloc (by simp) _
  clear h
  go_enter Try.func4, Try.ntmps4
  go_wp2_with (first
    | (go_at_call 9; with_reducible refine (ialive_any ((w.alloc (.cells #[.bool n1, .slice a1 k1 d1] 25)).alloc (.cells #[.bool n2, .slice a2 k2 d2] 25))).mono ?_; rintro e w1 ⟨rfl, rr⟩; replace A := A.below rr; replace B := B.below rr; replace r0 := then_below r0 rr; clear rr; have z0 := A.c0; have y0 := A.c1; have z1 := B.c0; have y1 := B.c1)
    | (go_at_call 14; have kg := igreat_lit w1 [(n1, a1, k1, d1), (n2, a2, k2, d2)] (vs := #[.bool n1, .slice a1 k1 d1, .bool n2, .slice a2 k2 d2]) (by simp [q4v]) (m := 2) rfl (by simp) true hG.out; with_reducible refine kg.mono ?_; clear kg; rintro e w2 ⟨rfl, rr⟩; replace A := A.below rr; replace B := B.below rr; replace r0 := then_below r0 rr; clear rr; clear z0 y0 z1 y1; have z0 := A.c0; have y0 := A.c1; have z1 := B.c0; have y1 := B.c1)
    | (go_at_call 9; with_reducible refine (ialive_any w2).mono ?_; rintro e w3 ⟨rfl, rr⟩))
  go_ret
  exact ⟨rfl, then_below r0 rr⟩

set_option maxRecDepth 100000 in
set_option maxHeartbeats 4000000 in
theorem iturn_bad1 {w : World} {n1 n2 : Bool} {a1 a2 : Option Addr} {d1 d2 : Nat} {l1 l2 : List Nat} (g1 : Reads w (.slice a1 l1.length d1) l1) (_g2 : Reads w (.slice a2 l2.length d2) l2) (k1' : l1.length ≤ 200) (k2' : l2.length ≤ 200) (v1 : ichk n1 l1 = false) :
    Calls Try.prog 4 #[.agg #[.bool n1, .slice a1 l1.length d1], .agg #[.bool n2, .slice a2 l2.length d2]] w fun e w' => e = .returned (.bool true) ∧ Below w.heap.size w w' := by
  have hG : Hid (false = [(n1, a1, l1.length, d1), (n2, a2, l2.length, d2)].any fun t => decide (200 < t.2.2.1)) := Lib.hid (by simp; omega)
  have A := ((Box2.new w 25 (.bool n1) (.slice a1 l1.length d1)).alloc (.cells #[.bool n2, .slice a2 l2.length d2] 25))
  have B := (Box2.new1 w (.cells #[.bool n1, .slice a1 l1.length d1] 25) 25 (.bool n2) (.slice a2 l2.length d2))
  have r0 : Below w.heap.size w ((w.alloc (.cells #[.bool n1, .slice a1 l1.length d1] 25)).alloc (.cells #[.bool n2, .slice a2 l2.length d2] 25)) := ((Below.refl _ _).alloc (Nat.le_refl _) _).alloc (by simp) _
  replace g1 := g1.below r0
  have e1 := fun (W : World) (g : Reads W (.slice a1 l1.length d1) l1) => icheck_any (n := n1) g (by omega)
  rw [v1] at e1
  clear k1' k2' v1
  go_enter Try.func4, Try.ntmps4
  go_wp2_with (first
    | (go_at_call 9; with_reducible refine (ialive_any ((w.alloc (.cells #[.bool n1, .slice a1 l1.length d1] 25)).alloc (.cells #[.bool n2, .slice a2 l2.length d2] 25))).mono ?_; rintro e w1 ⟨rfl, rr⟩; replace g1 := g1.below rr; replace A := A.below rr; replace B := B.below rr; replace r0 := then_below r0 rr; clear rr; have z0 := A.c0; have y0 := A.c1; have z1 := B.c0; have y1 := B.c1)
    | (go_at_call 14; have kg := igreat_lit w1 [(n1, a1, l1.length, d1), (n2, a2, l2.length, d2)] (vs := #[.bool n1, .slice a1 l1.length d1, .bool n2, .slice a2 l2.length d2]) (by simp [q4v]) (m := 2) rfl (by simp) false hG.out; with_reducible refine kg.mono ?_; clear kg; rintro e w2 ⟨rfl, rr⟩; replace g1 := g1.below rr; replace A := A.below rr; replace B := B.below rr; replace r0 := then_below r0 rr; clear rr; clear z0 y0 z1 y1; have z0 := A.c0; have y0 := A.c1; have z1 := B.c0; have y1 := B.c1)
    | (go_at_call 12; with_reducible refine (e1 w2 g1).mono ?_; rintro e w3 ⟨rfl, rr⟩; replace g1 := g1.below rr; replace A := A.below rr; replace B := B.below rr; replace r0 := then_below r0 rr; clear rr; clear z0 y0 z1 y1; have z0 := A.c0; have y0 := A.c1; have z1 := B.c0; have y1 := B.c1)
    | (go_at_call 9; with_reducible refine (ialive_any w3).mono ?_; rintro e w4 ⟨rfl, rr⟩))
  go_ret
  exact ⟨rfl, then_below r0 rr⟩

set_option maxRecDepth 100000 in
set_option maxHeartbeats 4000000 in
theorem iturn_bad2 {w : World} {n1 n2 : Bool} {a1 a2 : Option Addr} {d1 d2 : Nat} {l1 l2 : List Nat} (g1 : Reads w (.slice a1 l1.length d1) l1) (g2 : Reads w (.slice a2 l2.length d2) l2) (k1' : l1.length ≤ 200) (k2' : l2.length ≤ 200) (v1 : ichk n1 l1 = true) (v2 : ichk n2 l2 = false) :
    Calls Try.prog 4 #[.agg #[.bool n1, .slice a1 l1.length d1], .agg #[.bool n2, .slice a2 l2.length d2]] w fun e w' => e = .returned (.bool true) ∧ Below w.heap.size w w' := by
  have hG : Hid (false = [(n1, a1, l1.length, d1), (n2, a2, l2.length, d2)].any fun t => decide (200 < t.2.2.1)) := Lib.hid (by simp; omega)
  have A := ((Box2.new w 25 (.bool n1) (.slice a1 l1.length d1)).alloc (.cells #[.bool n2, .slice a2 l2.length d2] 25))
  have B := (Box2.new1 w (.cells #[.bool n1, .slice a1 l1.length d1] 25) 25 (.bool n2) (.slice a2 l2.length d2))
  have r0 : Below w.heap.size w ((w.alloc (.cells #[.bool n1, .slice a1 l1.length d1] 25)).alloc (.cells #[.bool n2, .slice a2 l2.length d2] 25)) := ((Below.refl _ _).alloc (Nat.le_refl _) _).alloc (by simp) _
  replace g1 := g1.below r0
  have e1 := fun (W : World) (g : Reads W (.slice a1 l1.length d1) l1) => icheck_any (n := n1) g (by omega)
  rw [v1] at e1
  replace g2 := g2.below r0
  have e2 := fun (W : World) (g : Reads W (.slice a2 l2.length d2) l2) => icheck_any (n := n2) g (by omega)
  rw [v2] at e2
  clear k1' k2' v1 v2
  go_enter Try.func4, Try.ntmps4
  go_wp2_with (first
    | (go_at_call 9; with_reducible refine (ialive_any ((w.alloc (.cells #[.bool n1, .slice a1 l1.length d1] 25)).alloc (.cells #[.bool n2, .slice a2 l2.length d2] 25))).mono ?_; rintro e w1 ⟨rfl, rr⟩; replace g1 := g1.below rr; replace g2 := g2.below rr; replace A := A.below rr; replace B := B.below rr; replace r0 := then_below r0 rr; clear rr; have z0 := A.c0; have y0 := A.c1; have z1 := B.c0; have y1 := B.c1)
    | (go_at_call 14; have kg := igreat_lit w1 [(n1, a1, l1.length, d1), (n2, a2, l2.length, d2)] (vs := #[.bool n1, .slice a1 l1.length d1, .bool n2, .slice a2 l2.length d2]) (by simp [q4v]) (m := 2) rfl (by simp) false hG.out; with_reducible refine kg.mono ?_; clear kg; rintro e w2 ⟨rfl, rr⟩; replace g1 := g1.below rr; replace g2 := g2.below rr; replace A := A.below rr; replace B := B.below rr; replace r0 := then_below r0 rr; clear rr; clear z0 y0 z1 y1; have z0 := A.c0; have y0 := A.c1; have z1 := B.c0; have y1 := B.c1)
    | (go_at_call 12; with_reducible refine (e1 w2 g1).mono ?_; rintro e w3 ⟨rfl, rr⟩; replace g1 := g1.below rr; replace g2 := g2.below rr; replace A := A.below rr; replace B := B.below rr; replace r0 := then_below r0 rr; clear rr; clear z0 y0 z1 y1; have z0 := A.c0; have y0 := A.c1; have z1 := B.c0; have y1 := B.c1)
    | (go_at_call 12; with_reducible refine (e2 w3 g2).mono ?_; rintro e w4 ⟨rfl, rr⟩; replace g1 := g1.below rr; replace g2 := g2.below rr; replace A := A.below rr; replace B := B.below rr; replace r0 := then_below r0 rr; clear rr; clear z0 y0 z1 y1; have z0 := A.c0; have y0 := A.c1; have z1 := B.c0; have y1 := B.c1)
    | (go_at_call 9; with_reducible refine (ialive_any w4).mono ?_; rintro e w5 ⟨rfl, rr⟩))
  go_ret
  exact ⟨rfl, then_below r0 rr⟩

end Go.Proofs.Ytjcoaoacgcpooaa
