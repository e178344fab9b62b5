/- IntsOrder: its walks. -/
import Derived.Test.YtjcoaoacgcpooaaIntsAlive
import Derived.Test.YtjcoaoacgcpooaaIntsGreat
import Derived.Deep.RegionHeld3
namespace Go.Proofs.Ytjcoaoacgcpooaa
open Go Go.Proofs Go.RowKit Go.Shelf Nu

attribute [local go_sem] Oper.semAt_some

set_option maxRecDepth 100000 in
set_option maxHeartbeats 8000000 in
theorem iorder_lty {w : World} {n1 n2 n3 : Bool} {a1 a2 a3 : Option Addr} {d1 d2 d3 : Nat} {l1 l2 l3 : List Nat} (g1 : Reads w (.slice a1 l1.length d1) l1) (g2 : Reads w (.slice a2 l2.length d2) l2) (g3 : Reads w (.slice a3 l3.length d3) l3) (k1' : l1.length ≤ 200) (k2' : l2.length ≤ 200) (k3' : l3.length ≤ 200) (m1 : Sm l1) (m2 : Sm l2) (m3 : Sm l3) (v1 : ichk n1 l1 = true) (v2 : ichk n2 l2 = true) (v3 : ichk n3 l3 = true) (ho : zv n1 l1 < zv n2 l2) (hy : zv n3 l3 < zv n2 l2) :
    Calls Try.prog 5 #[.agg #[.bool n1, .slice a1 l1.length d1], .agg #[.bool n2, .slice a2 l2.length d2], .agg #[.bool n3, .slice a3 l3.length d3]] w fun e w' => e = .returned (.bool true) ∧ Below w.heap.size w w' := by
  obtain ⟨X1, hX1⟩ : ∃ X, X = zv n1 l1 := ⟨_, rfl⟩
  have c1 : Can n1 l1 X1 := hX1 ▸ Can.of m1 v1
  obtain ⟨X2, hX2⟩ : ∃ X, X = zv n2 l2 := ⟨_, rfl⟩
  have c2 : Can n2 l2 X2 := hX2 ▸ Can.of m2 v2
  obtain ⟨X3, hX3⟩ : ∃ X, X = zv n3 l3 := ⟨_, rfl⟩
  have c3 : Can n3 l3 X3 := hX3 ▸ Can.of m3 v3
  obtain ⟨sS, LS, cS⟩ := Can.ex (X1 + X3)
  have bS : LS.length ≤ 401 := Nat.le_trans (Can.len_add c1.is c3.is cS (.inl rfl)) (by omega)
  obtain ⟨sT, LT, cT⟩ := Can.ex (X2 + X3)
  have bT : LT.length ≤ 401 := Nat.le_trans (Can.len_add c2.is c3.is cT (.inl rfl)) (by omega)
  obtain ⟨sD, LD, cD⟩ := Can.ex (X1 - X2)
  have bD : LD.length ≤ 401 := Nat.le_trans (Can.len_add c1.is c2.is cD (.inr rfl)) (by omega)
  rw [← hX1, ← hX2] at ho
  obtain ⟨z, hz⟩ : ∃ z, z = sgz X1 X2 := ⟨_, rfl⟩
  obtain ⟨z', hz'⟩ : ∃ z, z = sgz X2 X1 := ⟨_, rfl⟩
  have ez : z = -1 := by rw [hz]; simp only [sgz]; split <;> (try split) <;> omega
  have ez' : z' = 1 := by rw [hz']; simp only [sgz]; split <;> (try split) <;> omega
  have g1' : decide (z < -1) = false := decide_eq_false (by omega)
  have g2' : decide (1 < z) = false := decide_eq_false (by omega)
  have f1 : ¬ z < -1 := by omega
  have f2 : ¬ 1 < z := by omega
  have f3 : IntKind.i64.wrap (-z) = z' := by rw [ez, ez']; rfl
  have f4 : (z == 0) = false := by rw [ez]; rfl
  have f5 : ¬ 0 < z := by omega
  rw [← hX2, ← hX3] at hy
  obtain ⟨y, hye⟩ : ∃ y, y = sgz X2 X3 := ⟨_, rfl⟩
  obtain ⟨x, hxe⟩ : ∃ x, x = sgz X1 X3 := ⟨_, rfl⟩
  have hy1 : decide (0 < y) = true := decide_eq_true (by rw [hye]; simp only [sgz]; split <;> (try split) <;> omega)
  have f6 : decide (0 < z) = false := decide_eq_false (by omega)
  have k1 := fun (W : World) (h1 : Reads W (.slice a1 l1.length d1) l1) => q_check c1 (by omega) h1
  have k2 := fun (W : World) (h1 : Reads W (.slice a2 l2.length d2) l2) => q_check c2 (by omega) h1
  have k3 := fun (W : World) (h1 : Reads W (.slice a3 l3.length d3) l3) => q_check c3 (by omega) h1
  have k4 := fun (W : World) (h1 : Reads W (.slice a1 l1.length d1) l1) (h2 : Reads W (.slice a2 l2.length d2) l2) => q_cmp (z) c1.is c2.is (hz.symm) (by omega) (by omega) h1 h2
  have k5 := fun (W : World) (h1 : Reads W (.slice a2 l2.length d2) l2) (h2 : Reads W (.slice a1 l1.length d1) l1) => q_cmp (z') c2.is c1.is (hz'.symm) (by omega) (by omega) h1 h2
  have k6 := fun (W : World) (h1 : Reads W (.slice a1 l1.length d1) l1) (h2 : Reads W (.slice a2 l2.length d2) l2) => q_same false c1 c2 (by simp; omega) (by omega) (by omega) h1 h2
  have k7 := fun (W : World) (h1 : Reads W (.slice a1 l1.length d1) l1) (h2 : Reads W (.slice a3 l3.length d3) l3) => q_add c1.is c3.is cS (rfl) (by omega) (by omega) h1 h2
  have k8 := fun (W : World) (h1 : Reads W (.slice a2 l2.length d2) l2) (h2 : Reads W (.slice a3 l3.length d3) l3) => q_add c2.is c3.is cT (rfl) (by omega) (by omega) h1 h2
  have k9 := fun (W : World) {p1 : Option Addr} {q1 : Nat} {p2 : Option Addr} {q2 : Nat} (h1 : Reads W (.slice p1 LS.length q1) LS) (h2 : Reads W (.slice p2 LT.length q2) LT) => q_cmp (z) cS.is cT.is (by rw [hz]; simp only [sgz]; split <;> (try split) <;> (try split) <;> omega) (by omega) (by omega) h1 h2
  have k10 := fun (W : World) (h1 : Reads W (.slice a1 l1.length d1) l1) (h2 : Reads W (.slice a2 l2.length d2) l2) => q_sub c1.is c2.is cD (rfl) (by omega) (by omega) h1 h2
  have k11 := fun (W : World) {p1 : Option Addr} {q1 : Nat} (h1 : Reads W (.slice p1 LD.length q1) LD) => q_sign (z) cD.is (by rw [hz]; simp only [sgz]; split <;> (try split) <;> (try split) <;> omega) (by omega) h1
  have k12 := fun (W : World) (h1 : Reads W (.slice a2 l2.length d2) l2) (h2 : Reads W (.slice a3 l3.length d3) l3) => q_cmp (y) c2.is c3.is (hye.symm) (by omega) (by omega) h1 h2
  have hG : Hid (false = [(n1, a1, l1.length, d1), (n2, a2, l2.length, d2), (n3, a3, l3.length, d3)].any fun t => decide (200 < t.2.2.1)) := Lib.hid (by simp; omega)
  have A := (((Box2.new w 25 (.bool n1) (.slice a1 l1.length d1)).alloc (.cells #[.bool n2, .slice a2 l2.length d2] 25)).alloc (.cells #[.bool n3, .slice a3 l3.length d3] 25))
  have B := ((Box2.new1 w (.cells #[.bool n1, .slice a1 l1.length d1] 25) 25 (.bool n2) (.slice a2 l2.length d2)).alloc (.cells #[.bool n3, .slice a3 l3.length d3] 25))
  have C := (Box2.new1 (w.alloc (.cells #[.bool n1, .slice a1 l1.length d1] 25)) (.cells #[.bool n2, .slice a2 l2.length d2] 25) 25 (.bool n3) (.slice a3 l3.length d3))
  rw [World.size_alloc] at C
  have r0 : Below w.heap.size w (((w.alloc (.cells #[.bool n1, .slice a1 l1.length d1] 25)).alloc (.cells #[.bool n2, .slice a2 l2.length d2] 25)).alloc (.cells #[.bool n3, .slice a3 l3.length d3] 25)) := (((Below.refl _ _).alloc (Nat.le_refl _) _).alloc (by simp) _).alloc (by simp; omega) _
  replace g1 := g1.below r0
  replace g2 := g2.below r0
  replace g3 := g3.below r0
  clear ho hz hz' ez ez' hy hye hxe
  clear k1' m1 hX1 c1 v1 k2' m2 hX2 c2 v2 k3' m3 hX3 c3 v3 bS cS bT cT bD cD
  go_enter Try.func5, Try.ntmps5
  go_wp2_with (first
    | (go_at_call 9; with_reducible refine (ialive_any _).mono ?_; rintro e w1 ⟨rfl, rr⟩; replace g1 := g1.below rr; replace g2 := g2.below rr; replace g3 := g3.below rr; replace A := A.below rr; replace B := B.below rr; replace C := C.below rr; replace r0 := then_below r0 rr; clear rr; have z0 := A.c0; have y0 := A.c1; have z1 := B.c0; have y1 := B.c1; have z2 := C.c0; have y2 := C.c1)
    | (go_at_call 14; have kg := igreat_lit w1 [(n1, a1, l1.length, d1), (n2, a2, l2.length, d2), (n3, a3, l3.length, d3)] (vs := #[.bool n1, .slice a1 l1.length d1, .bool n2, .slice a2 l2.length d2, .bool n3, .slice a3 l3.length d3]) (by simp [q4v]) (m := 3) rfl (by simp) false hG.out; with_reducible refine kg.mono ?_; clear kg; rintro e w2 ⟨rfl, rr⟩; replace g1 := g1.below rr; replace g2 := g2.below rr; replace g3 := g3.below rr; replace A := A.below rr; replace B := B.below rr; replace C := C.below rr; replace r0 := then_below r0 rr; clear rr; clear z0 y0 z1 y1 z2 y2; have z0 := A.c0; have y0 := A.c1; have z1 := B.c0; have y1 := B.c1; have z2 := C.c0; have y2 := C.c1)
    | (go_at_call 12; with_reducible refine (k1 w2 g1).mono ?_; rintro e w3 ⟨rfl, rr⟩; replace g1 := g1.below rr; replace g2 := g2.below rr; replace g3 := g3.below rr; replace A := A.below rr; replace B := B.below rr; replace C := C.below rr; replace r0 := then_below r0 rr; clear rr; clear z0 y0 z1 y1 z2 y2; have z0 := A.c0; have y0 := A.c1; have z1 := B.c0; have y1 := B.c1; have z2 := C.c0; have y2 := C.c1)
    | (go_at_call 12; with_reducible refine (k2 w3 g2).mono ?_; rintro e w4 ⟨rfl, rr⟩; replace g1 := g1.below rr; replace g2 := g2.below rr; replace g3 := g3.below rr; replace A := A.below rr; replace B := B.below rr; replace C := C.below rr; replace r0 := then_below r0 rr; clear rr; clear z0 y0 z1 y1 z2 y2; have z0 := A.c0; have y0 := A.c1; have z1 := B.c0; have y1 := B.c1; have z2 := C.c0; have y2 := C.c1)
    | (go_at_call 12; with_reducible refine (k3 w4 g3).mono ?_; rintro e w5 ⟨rfl, rr⟩; replace g1 := g1.below rr; replace g2 := g2.below rr; replace g3 := g3.below rr; replace A := A.below rr; replace B := B.below rr; replace C := C.below rr; replace r0 := then_below r0 rr; clear rr; clear z0 y0 z1 y1 z2 y2; have z0 := A.c0; have y0 := A.c1; have z1 := B.c0; have y1 := B.c1; have z2 := C.c0; have y2 := C.c1)
    | (go_at_call 18; with_reducible refine (k4 w5 g1 g2).mono ?_; rintro e w6 ⟨rfl, rr⟩; replace g1 := g1.below rr; replace g2 := g2.below rr; replace g3 := g3.below rr; replace A := A.below rr; replace B := B.below rr; replace C := C.below rr; replace r0 := then_below r0 rr; clear rr; clear z0 y0 z1 y1 z2 y2; have z0 := A.c0; have y0 := A.c1; have z1 := B.c0; have y1 := B.c1; have z2 := C.c0; have y2 := C.c1))
  have rd : Below w6.heap.size w6 w6.drew := ⟨rfl, rfl, rfl, Nat.le_refl _, fun _ _ => rfl⟩
  replace g1 := g1.below rd; replace g2 := g2.below rd; replace g3 := g3.below rd; replace A := A.below rd; replace B := B.below rd; replace C := C.below rd
  replace r0 := then_below r0 rd
  clear rd z0 y0 z1 y1 z2 y2
  go_region_held3 (fun W => W.cell? ⟨w.heap.size, 0, none⟩ = some (.bool n1) ∧ W.cell? ⟨w.heap.size, 1, none⟩ = some (.slice a1 l1.length d1) ∧ W.cell? ⟨w.heap.size + 1, 0, none⟩ = some (.bool n2) ∧ W.cell? ⟨w.heap.size + 1, 1, none⟩ = some (.slice a2 l2.length d2) ∧ W.cell? ⟨w.heap.size + 1 + 1, 0, none⟩ = some (.bool n3) ∧ W.cell? ⟨w.heap.size + 1 + 1, 1, none⟩ = some (.slice a3 l3.length d3)) (exact ⟨A.c0, A.c1, B.c0, B.c1, C.c0, C.c1⟩) (first
    | (go_at_call 18; with_reducible refine (k5 _ g2 g1).mono ?_; rintro e w7 ⟨rfl, rr⟩; replace g1 := g1.below rr; replace g2 := g2.below rr; replace g3 := g3.below rr; replace A := A.below rr; replace B := B.below rr; replace C := C.below rr; replace r0 := then_below r0 rr; clear rr)
    | (go_at_call 13; with_reducible refine (k6 w7 g1 g2).mono ?_; rintro e w8 ⟨rfl, rr⟩; replace g1 := g1.below rr; replace g2 := g2.below rr; replace g3 := g3.below rr; replace A := A.below rr; replace B := B.below rr; replace C := C.below rr; replace r0 := then_below r0 rr; clear rr)
    | (go_at_call 10; with_reducible refine (k7 w8 g1 g3).mono ?_; rintro e w9 ⟨x9, y9, rfl, gS, rr⟩; replace g1 := g1.below rr; replace g2 := g2.below rr; replace g3 := g3.below rr; replace A := A.below rr; replace B := B.below rr; replace C := C.below rr; replace r0 := then_below r0 rr; clear rr)
    | (go_at_call 10; with_reducible refine (k8 w9 g2 g3).mono ?_; rintro e w10 ⟨x10, y10, rfl, gT, rr⟩; replace g1 := g1.below rr; replace g2 := g2.below rr; replace g3 := g3.below rr; replace gS := gS.below rr; replace A := A.below rr; replace B := B.below rr; replace C := C.below rr; replace r0 := then_below r0 rr; clear rr)
    | (go_at_call 18; with_reducible refine (k9 w10 gS gT).mono ?_; rintro e w11 ⟨rfl, rr⟩; replace g1 := g1.below rr; replace g2 := g2.below rr; replace g3 := g3.below rr; replace A := A.below rr; replace B := B.below rr; replace C := C.below rr; replace r0 := then_below r0 rr; clear rr)
    | (go_at_call 16; with_reducible refine (k10 w11 g1 g2).mono ?_; rintro e w12 ⟨x12, y12, rfl, gD, rr⟩; replace g1 := g1.below rr; replace g2 := g2.below rr; replace g3 := g3.below rr; replace A := A.below rr; replace B := B.below rr; replace C := C.below rr; replace r0 := then_below r0 rr; clear rr)
    | (go_at_call 17; with_reducible refine (k11 w12 gD).mono ?_; rintro e w13 ⟨rfl, rr⟩; replace g1 := g1.below rr; replace g2 := g2.below rr; replace g3 := g3.below rr; replace A := A.below rr; replace B := B.below rr; replace C := C.below rr; replace r0 := then_below r0 rr; clear rr))
  all_goals
    have z0 := A.c0; have y0 := A.c1; have z1 := B.c0; have y1' := B.c1; have z2 := C.c0; have y2 := C.c1
    go_wp2_with (first
      | (go_at_call 18; with_reducible refine (k12 _ g2 g3).mono ?_; rintro e w14 ⟨rfl, rr⟩; replace g1 := g1.below rr; replace g3 := g3.below rr; replace A := A.below rr; replace B := B.below rr; replace C := C.below rr; replace r0 := then_below r0 rr; clear rr; have z0 := A.c0; have y0 := A.c1; have z2 := C.c0; have y2 := C.c1))
    go_ret
    exact ⟨rfl, r0⟩

set_option maxRecDepth 100000 in
set_option maxHeartbeats 8000000 in
theorem iorder_ltn {w : World} {n1 n2 n3 : Bool} {a1 a2 a3 : Option Addr} {d1 d2 d3 : Nat} {l1 l2 l3 : List Nat} (g1 : Reads w (.slice a1 l1.length d1) l1) (g2 : Reads w (.slice a2 l2.length d2) l2) (g3 : Reads w (.slice a3 l3.length d3) l3) (k1' : l1.length ≤ 200) (k2' : l2.length ≤ 200) (k3' : l3.length ≤ 200) (m1 : Sm l1) (m2 : Sm l2) (m3 : Sm l3) (v1 : ichk n1 l1 = true) (v2 : ichk n2 l2 = true) (v3 : ichk n3 l3 = true) (ho : zv n1 l1 < zv n2 l2) (hy : ¬ zv n3 l3 < zv n2 l2) :
    Calls Try.prog 5 #[.agg #[.bool n1, .slice a1 l1.length d1], .agg #[.bool n2, .slice a2 l2.length d2], .agg #[.bool n3, .slice a3 l3.length d3]] w fun e w' => e = .returned (.bool true) ∧ Below w.heap.size w w' := by
  obtain ⟨X1, hX1⟩ : ∃ X, X = zv n1 l1 := ⟨_, rfl⟩
  have c1 : Can n1 l1 X1 := hX1 ▸ Can.of m1 v1
  obtain ⟨X2, hX2⟩ : ∃ X, X = zv n2 l2 := ⟨_, rfl⟩
  have c2 : Can n2 l2 X2 := hX2 ▸ Can.of m2 v2
  obtain ⟨X3, hX3⟩ : ∃ X, X = zv n3 l3 := ⟨_, rfl⟩
  have c3 : Can n3 l3 X3 := hX3 ▸ Can.of m3 v3
  obtain ⟨sS, LS, cS⟩ := Can.ex (X1 + X3)
  have bS : LS.length ≤ 401 := Nat.le_trans (Can.len_add c1.is c3.is cS (.inl rfl)) (by omega)
  obtain ⟨sT, LT, cT⟩ := Can.ex (X2 + X3)
  have bT : LT.length ≤ 401 := Nat.le_trans (Can.len_add c2.is c3.is cT (.inl rfl)) (by omega)
  obtain ⟨sD, LD, cD⟩ := Can.ex (X1 - X2)
  have bD : LD.length ≤ 401 := Nat.le_trans (Can.len_add c1.is c2.is cD (.inr rfl)) (by omega)
  rw [← hX1, ← hX2] at ho
  obtain ⟨z, hz⟩ : ∃ z, z = sgz X1 X2 := ⟨_, rfl⟩
  obtain ⟨z', hz'⟩ : ∃ z, z = sgz X2 X1 := ⟨_, rfl⟩
  have ez : z = -1 := by rw [hz]; simp only [sgz]; split <;> (try split) <;> omega
  have ez' : z' = 1 := by rw [hz']; simp only [sgz]; split <;> (try split) <;> omega
  have g1' : decide (z < -1) = false := decide_eq_false (by omega)
  have g2' : decide (1 < z) = false := decide_eq_false (by omega)
  have f1 : ¬ z < -1 := by omega
  have f2 : ¬ 1 < z := by omega
  have f3 : IntKind.i64.wrap (-z) = z' := by rw [ez, ez']; rfl
  have f4 : (z == 0) = false := by rw [ez]; rfl
  have f5 : ¬ 0 < z := by omega
  rw [← hX2, ← hX3] at hy
  obtain ⟨y, hye⟩ : ∃ y, y = sgz X2 X3 := ⟨_, rfl⟩
  obtain ⟨x, hxe⟩ : ∃ x, x = sgz X1 X3 := ⟨_, rfl⟩
  have hy1 : decide (0 < y) = false := decide_eq_false (by rw [hye]; simp only [sgz]; split <;> (try split) <;> omega)
  have hx1 : decide (x ≤ 0) = true := decide_eq_true (by rw [hxe]; simp only [sgz]; split <;> (try split) <;> omega)
  have f6 : decide (0 < z) = false := decide_eq_false (by omega)
  have k1 := fun (W : World) (h1 : Reads W (.slice a1 l1.length d1) l1) => q_check c1 (by omega) h1
  have k2 := fun (W : World) (h1 : Reads W (.slice a2 l2.length d2) l2) => q_check c2 (by omega) h1
  have k3 := fun (W : World) (h1 : Reads W (.slice a3 l3.length d3) l3) => q_check c3 (by omega) h1
  have k4 := fun (W : World) (h1 : Reads W (.slice a1 l1.length d1) l1) (h2 : Reads W (.slice a2 l2.length d2) l2) => q_cmp (z) c1.is c2.is (hz.symm) (by omega) (by omega) h1 h2
  have k5 := fun (W : World) (h1 : Reads W (.slice a2 l2.length d2) l2) (h2 : Reads W (.slice a1 l1.length d1) l1) => q_cmp (z') c2.is c1.is (hz'.symm) (by omega) (by omega) h1 h2
  have k6 := fun (W : World) (h1 : Reads W (.slice a1 l1.length d1) l1) (h2 : Reads W (.slice a2 l2.length d2) l2) => q_same false c1 c2 (by simp; omega) (by omega) (by omega) h1 h2
  have k7 := fun (W : World) (h1 : Reads W (.slice a1 l1.length d1) l1) (h2 : Reads W (.slice a3 l3.length d3) l3) => q_add c1.is c3.is cS (rfl) (by omega) (by omega) h1 h2
  have k8 := fun (W : World) (h1 : Reads W (.slice a2 l2.length d2) l2) (h2 : Reads W (.slice a3 l3.length d3) l3) => q_add c2.is c3.is cT (rfl) (by omega) (by omega) h1 h2
  have k9 := fun (W : World) {p1 : Option Addr} {q1 : Nat} {p2 : Option Addr} {q2 : Nat} (h1 : Reads W (.slice p1 LS.length q1) LS) (h2 : Reads W (.slice p2 LT.length q2) LT) => q_cmp (z) cS.is cT.is (by rw [hz]; simp only [sgz]; split <;> (try split) <;> (try split) <;> omega) (by omega) (by omega) h1 h2
  have k10 := fun (W : World) (h1 : Reads W (.slice a1 l1.length d1) l1) (h2 : Reads W (.slice a2 l2.length d2) l2) => q_sub c1.is c2.is cD (rfl) (by omega) (by omega) h1 h2
  have k11 := fun (W : World) {p1 : Option Addr} {q1 : Nat} (h1 : Reads W (.slice p1 LD.length q1) LD) => q_sign (z) cD.is (by rw [hz]; simp only [sgz]; split <;> (try split) <;> (try split) <;> omega) (by omega) h1
  have k12 := fun (W : World) (h1 : Reads W (.slice a2 l2.length d2) l2) (h2 : Reads W (.slice a3 l3.length d3) l3) => q_cmp (y) c2.is c3.is (hye.symm) (by omega) (by omega) h1 h2
  have k13 := fun (W : World) (h1 : Reads W (.slice a1 l1.length d1) l1) (h2 : Reads W (.slice a3 l3.length d3) l3) => q_cmp (x) c1.is c3.is (hxe.symm) (by omega) (by omega) h1 h2
  have hG : Hid (false = [(n1, a1, l1.length, d1), (n2, a2, l2.length, d2), (n3, a3, l3.length, d3)].any fun t => decide (200 < t.2.2.1)) := Lib.hid (by simp; omega)
  have A := (((Box2.new w 25 (.bool n1) (.slice a1 l1.length d1)).alloc (.cells #[.bool n2, .slice a2 l2.length d2] 25)).alloc (.cells #[.bool n3, .slice a3 l3.length d3] 25))
  have B := ((Box2.new1 w (.cells #[.bool n1, .slice a1 l1.length d1] 25) 25 (.bool n2) (.slice a2 l2.length d2)).alloc (.cells #[.bool n3, .slice a3 l3.length d3] 25))
  have C := (Box2.new1 (w.alloc (.cells #[.bool n1, .slice a1 l1.length d1] 25)) (.cells #[.bool n2, .slice a2 l2.length d2] 25) 25 (.bool n3) (.slice a3 l3.length d3))
  rw [World.size_alloc] at C
  have r0 : Below w.heap.size w (((w.alloc (.cells #[.bool n1, .slice a1 l1.length d1] 25)).alloc (.cells #[.bool n2, .slice a2 l2.length d2] 25)).alloc (.cells #[.bool n3, .slice a3 l3.length d3] 25)) := (((Below.refl _ _).alloc (Nat.le_refl _) _).alloc (by simp) _).alloc (by simp; omega) _
  replace g1 := g1.below r0
  replace g2 := g2.below r0
  replace g3 := g3.below r0
  clear ho hz hz' ez ez' hy hye hxe
  clear k1' m1 hX1 c1 v1 k2' m2 hX2 c2 v2 k3' m3 hX3 c3 v3 bS cS bT cT bD cD
  go_enter Try.func5, Try.ntmps5
  go_wp2_with (first
    | (go_at_call 9; with_reducible refine (ialive_any _).mono ?_; rintro e w1 ⟨rfl, rr⟩; replace g1 := g1.below rr; replace g2 := g2.below rr; replace g3 := g3.below rr; replace A := A.below rr; replace B := B.below rr; replace C := C.below rr; replace r0 := then_below r0 rr; clear rr; have z0 := A.c0; have y0 := A.c1; have z1 := B.c0; have y1 := B.c1; have z2 := C.c0; have y2 := C.c1)
    | (go_at_call 14; have kg := igreat_lit w1 [(n1, a1, l1.length, d1), (n2, a2, l2.length, d2), (n3, a3, l3.length, d3)] (vs := #[.bool n1, .slice a1 l1.length d1, .bool n2, .slice a2 l2.length d2, .bool n3, .slice a3 l3.length d3]) (by simp [q4v]) (m := 3) rfl (by simp) false hG.out; with_reducible refine kg.mono ?_; clear kg; rintro e w2 ⟨rfl, rr⟩; replace g1 := g1.below rr; replace g2 := g2.below rr; replace g3 := g3.below rr; replace A := A.below rr; replace B := B.below rr; replace C := C.below rr; replace r0 := then_below r0 rr; clear rr; clear z0 y0 z1 y1 z2 y2; have z0 := A.c0; have y0 := A.c1; have z1 := B.c0; have y1 := B.c1; have z2 := C.c0; have y2 := C.c1)
    | (go_at_call 12; with_reducible refine (k1 w2 g1).mono ?_; rintro e w3 ⟨rfl, rr⟩; replace g1 := g1.below rr; replace g2 := g2.below rr; replace g3 := g3.below rr; replace A := A.below rr; replace B := B.below rr; replace C := C.below rr; replace r0 := then_below r0 rr; clear rr; clear z0 y0 z1 y1 z2 y2; have z0 := A.c0; have y0 := A.c1; have z1 := B.c0; have y1 := B.c1; have z2 := C.c0; have y2 := C.c1)
    | (go_at_call 12; with_reducible refine (k2 w3 g2).mono ?_; rintro e w4 ⟨rfl, rr⟩; replace g1 := g1.below rr; replace g2 := g2.below rr; replace g3 := g3.below rr; replace A := A.below rr; replace B := B.below rr; replace C := C.below rr; replace r0 := then_below r0 rr; clear rr; clear z0 y0 z1 y1 z2 y2; have z0 := A.c0; have y0 := A.c1; have z1 := B.c0; have y1 := B.c1; have z2 := C.c0; have y2 := C.c1)
    | (go_at_call 12; with_reducible refine (k3 w4 g3).mono ?_; rintro e w5 ⟨rfl, rr⟩; replace g1 := g1.below rr; replace g2 := g2.below rr; replace g3 := g3.below rr; replace A := A.below rr; replace B := B.below rr; replace C := C.below rr; replace r0 := then_below r0 rr; clear rr; clear z0 y0 z1 y1 z2 y2; have z0 := A.c0; have y0 := A.c1; have z1 := B.c0; have y1 := B.c1; have z2 := C.c0; have y2 := C.c1)
    | (go_at_call 18; with_reducible refine (k4 w5 g1 g2).mono ?_; rintro e w6 ⟨rfl, rr⟩; replace g1 := g1.below rr; replace g2 := g2.below rr; replace g3 := g3.below rr; replace A := A.below rr; replace B := B.below rr; replace C := C.below rr; replace r0 := then_below r0 rr; clear rr; clear z0 y0 z1 y1 z2 y2; have z0 := A.c0; have y0 := A.c1; have z1 := B.c0; have y1 := B.c1; have z2 := C.c0; have y2 := C.c1))
  have rd : Below w6.heap.size w6 w6.drew := ⟨rfl, rfl, rfl, Nat.le_refl _, fun _ _ => rfl⟩
  replace g1 := g1.below rd; replace g2 := g2.below rd; replace g3 := g3.below rd; replace A := A.below rd; replace B := B.below rd; replace C := C.below rd
  replace r0 := then_below r0 rd
  clear rd z0 y0 z1 y1 z2 y2
  go_region_held3 (fun W => W.cell? ⟨w.heap.size, 0, none⟩ = some (.bool n1) ∧ W.cell? ⟨w.heap.size, 1, none⟩ = some (.slice a1 l1.length d1) ∧ W.cell? ⟨w.heap.size + 1, 0, none⟩ = some (.bool n2) ∧ W.cell? ⟨w.heap.size + 1, 1, none⟩ = some (.slice a2 l2.length d2) ∧ W.cell? ⟨w.heap.size + 1 + 1, 0, none⟩ = some (.bool n3) ∧ W.cell? ⟨w.heap.size + 1 + 1, 1, none⟩ = some (.slice a3 l3.length d3)) (exact ⟨A.c0, A.c1, B.c0, B.c1, C.c0, C.c1⟩) (first
    | (go_at_call 18; with_reducible refine (k5 _ g2 g1).mono ?_; rintro e w7 ⟨rfl, rr⟩; replace g1 := g1.below rr; replace g2 := g2.below rr; replace g3 := g3.below rr; replace A := A.below rr; replace B := B.below rr; replace C := C.below rr; replace r0 := then_below r0 rr; clear rr)
    | (go_at_call 13; with_reducible refine (k6 w7 g1 g2).mono ?_; rintro e w8 ⟨rfl, rr⟩; replace g1 := g1.below rr; replace g2 := g2.below rr; replace g3 := g3.below rr; replace A := A.below rr; replace B := B.below rr; replace C := C.below rr; replace r0 := then_below r0 rr; clear rr)
    | (go_at_call 10; with_reducible refine (k7 w8 g1 g3).mono ?_; rintro e w9 ⟨x9, y9, rfl, gS, rr⟩; replace g1 := g1.below rr; replace g2 := g2.below rr; replace g3 := g3.below rr; replace A := A.below rr; replace B := B.below rr; replace C := C.below rr; replace r0 := then_below r0 rr; clear rr)
    | (go_at_call 10; with_reducible refine (k8 w9 g2 g3).mono ?_; rintro e w10 ⟨x10, y10, rfl, gT, rr⟩; replace g1 := g1.below rr; replace g2 := g2.below rr; replace g3 := g3.below rr; replace gS := gS.below rr; replace A := A.below rr; replace B := B.below rr; replace C := C.below rr; replace r0 := then_below r0 rr; clear rr)
    | (go_at_call 18; with_reducible refine (k9 w10 gS gT).mono ?_; rintro e w11 ⟨rfl, rr⟩; replace g1 := g1.below rr; replace g2 := g2.below rr; replace g3 := g3.below rr; replace A := A.below rr; replace B := B.below rr; replace C := C.below rr; replace r0 := then_below r0 rr; clear rr)
    | (go_at_call 16; with_reducible refine (k10 w11 g1 g2).mono ?_; rintro e w12 ⟨x12, y12, rfl, gD, rr⟩; replace g1 := g1.below rr; replace g2 := g2.below rr; replace g3 := g3.below rr; replace A := A.below rr; replace B := B.below rr; replace C := C.below rr; replace r0 := then_below r0 rr; clear rr)
    | (go_at_call 17; with_reducible refine (k11 w12 gD).mono ?_; rintro e w13 ⟨rfl, rr⟩; replace g1 := g1.below rr; replace g2 := g2.below rr; replace g3 := g3.below rr; replace A := A.below rr; replace B := B.below rr; replace C := C.below rr; replace r0 := then_below r0 rr; clear rr))
  all_goals
    have z0 := A.c0; have y0 := A.c1; have z1 := B.c0; have y1' := B.c1; have z2 := C.c0; have y2 := C.c1
    go_wp2_with (first
      | (go_at_call 18; with_reducible refine (k12 _ g2 g3).mono ?_; rintro e w14 ⟨rfl, rr⟩; replace g1 := g1.below rr; replace g3 := g3.below rr; replace A := A.below rr; replace B := B.below rr; replace C := C.below rr; replace r0 := then_below r0 rr; clear rr; have z0 := A.c0; have y0 := A.c1; have z2 := C.c0; have y2 := C.c1)
      | (go_at_call 18; with_reducible refine (k13 _ g1 g3).mono ?_; rintro e w15 ⟨rfl, rr⟩; replace r0 := then_below r0 rr; clear rr))
    go_ret
    exact ⟨rfl, r0⟩

set_option maxRecDepth 100000 in
set_option maxHeartbeats 8000000 in
theorem iorder_eqy {w : World} {n1 n2 n3 : Bool} {a1 a2 a3 : Option Addr} {d1 d2 d3 : Nat} {l1 l2 l3 : List Nat} (g1 : Reads w (.slice a1 l1.length d1) l1) (g2 : Reads w (.slice a2 l2.length d2) l2) (g3 : Reads w (.slice a3 l3.length d3) l3) (k1' : l1.length ≤ 200) (k2' : l2.length ≤ 200) (k3' : l3.length ≤ 200) (m1 : Sm l1) (m2 : Sm l2) (m3 : Sm l3) (v1 : ichk n1 l1 = true) (v2 : ichk n2 l2 = true) (v3 : ichk n3 l3 = true) (ho : zv n1 l1 = zv n2 l2) (hy : zv n3 l3 < zv n2 l2) :
    Calls Try.prog 5 #[.agg #[.bool n1, .slice a1 l1.length d1], .agg #[.bool n2, .slice a2 l2.length d2], .agg #[.bool n3, .slice a3 l3.length d3]] w fun e w' => e = .returned (.bool true) ∧ Below w.heap.size w w' := by
  obtain ⟨X1, hX1⟩ : ∃ X, X = zv n1 l1 := ⟨_, rfl⟩
  have c1 : Can n1 l1 X1 := hX1 ▸ Can.of m1 v1
  obtain ⟨X2, hX2⟩ : ∃ X, X = zv n2 l2 := ⟨_, rfl⟩
  have c2 : Can n2 l2 X2 := hX2 ▸ Can.of m2 v2
  obtain ⟨X3, hX3⟩ : ∃ X, X = zv n3 l3 := ⟨_, rfl⟩
  have c3 : Can n3 l3 X3 := hX3 ▸ Can.of m3 v3
  obtain ⟨sS, LS, cS⟩ := Can.ex (X1 + X3)
  have bS : LS.length ≤ 401 := Nat.le_trans (Can.len_add c1.is c3.is cS (.inl rfl)) (by omega)
  obtain ⟨sT, LT, cT⟩ := Can.ex (X2 + X3)
  have bT : LT.length ≤ 401 := Nat.le_trans (Can.len_add c2.is c3.is cT (.inl rfl)) (by omega)
  obtain ⟨sD, LD, cD⟩ := Can.ex (X1 - X2)
  have bD : LD.length ≤ 401 := Nat.le_trans (Can.len_add c1.is c2.is cD (.inr rfl)) (by omega)
  rw [← hX1, ← hX2] at ho
  obtain ⟨z, hz⟩ : ∃ z, z = sgz X1 X2 := ⟨_, rfl⟩
  obtain ⟨z', hz'⟩ : ∃ z, z = sgz X2 X1 := ⟨_, rfl⟩
  have ez : z = 0 := by rw [hz]; simp only [sgz]; split <;> (try split) <;> omega
  have ez' : z' = 0 := by rw [hz']; simp only [sgz]; split <;> (try split) <;> omega
  have g1' : decide (z < -1) = false := decide_eq_false (by omega)
  have g2' : decide (1 < z) = false := decide_eq_false (by omega)
  have f1 : ¬ z < -1 := by omega
  have f2 : ¬ 1 < z := by omega
  have f3 : IntKind.i64.wrap (-z) = z' := by rw [ez, ez']; rfl
  have f4 : (z == 0) = true := by rw [ez]; rfl
  have f5 : ¬ 0 < z := by omega
  rw [← hX2, ← hX3] at hy
  obtain ⟨y, hye⟩ : ∃ y, y = sgz X2 X3 := ⟨_, rfl⟩
  obtain ⟨x, hxe⟩ : ∃ x, x = sgz X1 X3 := ⟨_, rfl⟩
  have hy1 : decide (0 < y) = true := decide_eq_true (by rw [hye]; simp only [sgz]; split <;> (try split) <;> omega)
  have f6 : decide (0 < z) = false := decide_eq_false (by omega)
  have k1 := fun (W : World) (h1 : Reads W (.slice a1 l1.length d1) l1) => q_check c1 (by omega) h1
  have k2 := fun (W : World) (h1 : Reads W (.slice a2 l2.length d2) l2) => q_check c2 (by omega) h1
  have k3 := fun (W : World) (h1 : Reads W (.slice a3 l3.length d3) l3) => q_check c3 (by omega) h1
  have k4 := fun (W : World) (h1 : Reads W (.slice a1 l1.length d1) l1) (h2 : Reads W (.slice a2 l2.length d2) l2) => q_cmp (z) c1.is c2.is (hz.symm) (by omega) (by omega) h1 h2
  have k5 := fun (W : World) (h1 : Reads W (.slice a2 l2.length d2) l2) (h2 : Reads W (.slice a1 l1.length d1) l1) => q_cmp (z') c2.is c1.is (hz'.symm) (by omega) (by omega) h1 h2
  have k6 := fun (W : World) (h1 : Reads W (.slice a1 l1.length d1) l1) (h2 : Reads W (.slice a2 l2.length d2) l2) => q_same true c1 c2 (by simp; omega) (by omega) (by omega) h1 h2
  have k7 := fun (W : World) (h1 : Reads W (.slice a1 l1.length d1) l1) (h2 : Reads W (.slice a3 l3.length d3) l3) => q_add c1.is c3.is cS (rfl) (by omega) (by omega) h1 h2
  have k8 := fun (W : World) (h1 : Reads W (.slice a2 l2.length d2) l2) (h2 : Reads W (.slice a3 l3.length d3) l3) => q_add c2.is c3.is cT (rfl) (by omega) (by omega) h1 h2
  have k9 := fun (W : World) {p1 : Option Addr} {q1 : Nat} {p2 : Option Addr} {q2 : Nat} (h1 : Reads W (.slice p1 LS.length q1) LS) (h2 : Reads W (.slice p2 LT.length q2) LT) => q_cmp (z) cS.is cT.is (by rw [hz]; simp only [sgz]; split <;> (try split) <;> (try split) <;> omega) (by omega) (by omega) h1 h2
  have k10 := fun (W : World) (h1 : Reads W (.slice a1 l1.length d1) l1) (h2 : Reads W (.slice a2 l2.length d2) l2) => q_sub c1.is c2.is cD (rfl) (by omega) (by omega) h1 h2
  have k11 := fun (W : World) {p1 : Option Addr} {q1 : Nat} (h1 : Reads W (.slice p1 LD.length q1) LD) => q_sign (z) cD.is (by rw [hz]; simp only [sgz]; split <;> (try split) <;> (try split) <;> omega) (by omega) h1
  have k12 := fun (W : World) (h1 : Reads W (.slice a2 l2.length d2) l2) (h2 : Reads W (.slice a3 l3.length d3) l3) => q_cmp (y) c2.is c3.is (hye.symm) (by omega) (by omega) h1 h2
  have hG : Hid (false = [(n1, a1, l1.length, d1), (n2, a2, l2.length, d2), (n3, a3, l3.length, d3)].any fun t => decide (200 < t.2.2.1)) := Lib.hid (by simp; omega)
  have A := (((Box2.new w 25 (.bool n1) (.slice a1 l1.length d1)).alloc (.cells #[.bool n2, .slice a2 l2.length d2] 25)).alloc (.cells #[.bool n3, .slice a3 l3.length d3] 25))
  have B := ((Box2.new1 w (.cells #[.bool n1, .slice a1 l1.length d1] 25) 25 (.bool n2) (.slice a2 l2.length d2)).alloc (.cells #[.bool n3, .slice a3 l3.length d3] 25))
  have C := (Box2.new1 (w.alloc (.cells #[.bool n1, .slice a1 l1.length d1] 25)) (.cells #[.bool n2, .slice a2 l2.length d2] 25) 25 (.bool n3) (.slice a3 l3.length d3))
  rw [World.size_alloc] at C
  have r0 : Below w.heap.size w (((w.alloc (.cells #[.bool n1, .slice a1 l1.length d1] 25)).alloc (.cells #[.bool n2, .slice a2 l2.length d2] 25)).alloc (.cells #[.bool n3, .slice a3 l3.length d3] 25)) := (((Below.refl _ _).alloc (Nat.le_refl _) _).alloc (by simp) _).alloc (by simp; omega) _
  replace g1 := g1.below r0
  replace g2 := g2.below r0
  replace g3 := g3.below r0
  clear ho hz hz' ez ez' hy hye hxe
  clear k1' m1 hX1 c1 v1 k2' m2 hX2 c2 v2 k3' m3 hX3 c3 v3 bS cS bT cT bD cD
  go_enter Try.func5, Try.ntmps5
  go_wp2_with (first
    | (go_at_call 9; with_reducible refine (ialive_any _).mono ?_; rintro e w1 ⟨rfl, rr⟩; replace g1 := g1.below rr; replace g2 := g2.below rr; replace g3 := g3.below rr; replace A := A.below rr; replace B := B.below rr; replace C := C.below rr; replace r0 := then_below r0 rr; clear rr; have z0 := A.c0; have y0 := A.c1; have z1 := B.c0; have y1 := B.c1; have z2 := C.c0; have y2 := C.c1)
    | (go_at_call 14; have kg := igreat_lit w1 [(n1, a1, l1.length, d1), (n2, a2, l2.length, d2), (n3, a3, l3.length, d3)] (vs := #[.bool n1, .slice a1 l1.length d1, .bool n2, .slice a2 l2.length d2, .bool n3, .slice a3 l3.length d3]) (by simp [q4v]) (m := 3) rfl (by simp) false hG.out; with_reducible refine kg.mono ?_; clear kg; rintro e w2 ⟨rfl, rr⟩; replace g1 := g1.below rr; replace g2 := g2.below rr; replace g3 := g3.below rr; replace A := A.below rr; replace B := B.below rr; replace C := C.below rr; replace r0 := then_below r0 rr; clear rr; clear z0 y0 z1 y1 z2 y2; have z0 := A.c0; have y0 := A.c1; have z1 := B.c0; have y1 := B.c1; have z2 := C.c0; have y2 := C.c1)
    | (go_at_call 12; with_reducible refine (k1 w2 g1).mono ?_; rintro e w3 ⟨rfl, rr⟩; replace g1 := g1.below rr; replace g2 := g2.below rr; replace g3 := g3.below rr; replace A := A.below rr; replace B := B.below rr; replace C := C.below rr; replace r0 := then_below r0 rr; clear rr; clear z0 y0 z1 y1 z2 y2; have z0 := A.c0; have y0 := A.c1; have z1 := B.c0; have y1 := B.c1; have z2 := C.c0; have y2 := C.c1)
    | (go_at_call 12; with_reducible refine (k2 w3 g2).mono ?_; rintro e w4 ⟨rfl, rr⟩; replace g1 := g1.below rr; replace g2 := g2.below rr; replace g3 := g3.below rr; replace A := A.below rr; replace B := B.below rr; replace C := C.below rr; replace r0 := then_below r0 rr; clear rr; clear z0 y0 z1 y1 z2 y2; have z0 := A.c0; have y0 := A.c1; have z1 := B.c0; have y1 := B.c1; have z2 := C.c0; have y2 := C.c1)
    | (go_at_call 12; with_reducible refine (k3 w4 g3).mono ?_; rintro e w5 ⟨rfl, rr⟩; replace g1 := g1.below rr; replace g2 := g2.below rr; replace g3 := g3.below rr; replace A := A.below rr; replace B := B.below rr; replace C := C.below rr; replace r0 := then_below r0 rr; clear rr; clear z0 y0 z1 y1 z2 y2; have z0 := A.c0; have y0 := A.c1; have z1 := B.c0; have y1 := B.c1; have z2 := C.c0; have y2 := C.c1)
    | (go_at_call 18; with_reducible refine (k4 w5 g1 g2).mono ?_; rintro e w6 ⟨rfl, rr⟩; replace g1 := g1.below rr; replace g2 := g2.below rr; replace g3 := g3.below rr; replace A := A.below rr; replace B := B.below rr; replace C := C.below rr; replace r0 := then_below r0 rr; clear rr; clear z0 y0 z1 y1 z2 y2; have z0 := A.c0; have y0 := A.c1; have z1 := B.c0; have y1 := B.c1; have z2 := C.c0; have y2 := C.c1))
  have rd : Below w6.heap.size w6 w6.drew := ⟨rfl, rfl, rfl, Nat.le_refl _, fun _ _ => rfl⟩
  replace g1 := g1.below rd; replace g2 := g2.below rd; replace g3 := g3.below rd; replace A := A.below rd; replace B := B.below rd; replace C := C.below rd
  replace r0 := then_below r0 rd
  clear rd z0 y0 z1 y1 z2 y2
  go_region_held3 (fun W => W.cell? ⟨w.heap.size, 0, none⟩ = some (.bool n1) ∧ W.cell? ⟨w.heap.size, 1, none⟩ = some (.slice a1 l1.length d1) ∧ W.cell? ⟨w.heap.size + 1, 0, none⟩ = some (.bool n2) ∧ W.cell? ⟨w.heap.size + 1, 1, none⟩ = some (.slice a2 l2.length d2) ∧ W.cell? ⟨w.heap.size + 1 + 1, 0, none⟩ = some (.bool n3) ∧ W.cell? ⟨w.heap.size + 1 + 1, 1, none⟩ = some (.slice a3 l3.length d3)) (exact ⟨A.c0, A.c1, B.c0, B.c1, C.c0, C.c1⟩) (first
    | (go_at_call 18; with_reducible refine (k5 _ g2 g1).mono ?_; rintro e w7 ⟨rfl, rr⟩; replace g1 := g1.below rr; replace g2 := g2.below rr; replace g3 := g3.below rr; replace A := A.below rr; replace B := B.below rr; replace C := C.below rr; replace r0 := then_below r0 rr; clear rr)
    | (go_at_call 13; with_reducible refine (k6 w7 g1 g2).mono ?_; rintro e w8 ⟨rfl, rr⟩; replace g1 := g1.below rr; replace g2 := g2.below rr; replace g3 := g3.below rr; replace A := A.below rr; replace B := B.below rr; replace C := C.below rr; replace r0 := then_below r0 rr; clear rr)
    | (go_at_call 10; with_reducible refine (k7 w8 g1 g3).mono ?_; rintro e w9 ⟨x9, y9, rfl, gS, rr⟩; replace g1 := g1.below rr; replace g2 := g2.below rr; replace g3 := g3.below rr; replace A := A.below rr; replace B := B.below rr; replace C := C.below rr; replace r0 := then_below r0 rr; clear rr)
    | (go_at_call 10; with_reducible refine (k8 w9 g2 g3).mono ?_; rintro e w10 ⟨x10, y10, rfl, gT, rr⟩; replace g1 := g1.below rr; replace g2 := g2.below rr; replace g3 := g3.below rr; replace gS := gS.below rr; replace A := A.below rr; replace B := B.below rr; replace C := C.below rr; replace r0 := then_below r0 rr; clear rr)
    | (go_at_call 18; with_reducible refine (k9 w10 gS gT).mono ?_; rintro e w11 ⟨rfl, rr⟩; replace g1 := g1.below rr; replace g2 := g2.below rr; replace g3 := g3.below rr; replace A := A.below rr; replace B := B.below rr; replace C := C.below rr; replace r0 := then_below r0 rr; clear rr)
    | (go_at_call 16; with_reducible refine (k10 w11 g1 g2).mono ?_; rintro e w12 ⟨x12, y12, rfl, gD, rr⟩; replace g1 := g1.below rr; replace g2 := g2.below rr; replace g3 := g3.below rr; replace A := A.below rr; replace B := B.below rr; replace C := C.below rr; replace r0 := then_below r0 rr; clear rr)
    | (go_at_call 17; with_reducible refine (k11 w12 gD).mono ?_; rintro e w13 ⟨rfl, rr⟩; replace g1 := g1.below rr; replace g2 := g2.below rr; replace g3 := g3.below rr; replace A := A.below rr; replace B := B.below rr; replace C := C.below rr; replace r0 := then_below r0 rr; clear rr))
  all_goals
    have z0 := A.c0; have y0 := A.c1; have z1 := B.c0; have y1' := B.c1; have z2 := C.c0; have y2 := C.c1
    go_wp2_with (first
      | (go_at_call 18; with_reducible refine (k12 _ g2 g3).mono ?_; rintro e w14 ⟨rfl, rr⟩; replace g1 := g1.below rr; replace g3 := g3.below rr; replace A := A.below rr; replace B := B.below rr; replace C := C.below rr; replace r0 := then_below r0 rr; clear rr; have z0 := A.c0; have y0 := A.c1; have z2 := C.c0; have y2 := C.c1))
    go_ret
    exact ⟨rfl, r0⟩

set_option maxRecDepth 100000 in
set_option maxHeartbeats 8000000 in
theorem iorder_eqn {w : World} {n1 n2 n3 : Bool} {a1 a2 a3 : Option Addr} {d1 d2 d3 : Nat} {l1 l2 l3 : List Nat} (g1 : Reads w (.slice a1 l1.length d1) l1) (g2 : Reads w (.slice a2 l2.length d2) l2) (g3 : Reads w (.slice a3 l3.length d3) l3) (k1' : l1.length ≤ 200) (k2' : l2.length ≤ 200) (k3' : l3.length ≤ 200) (m1 : Sm l1) (m2 : Sm l2) (m3 : Sm l3) (v1 : ichk n1 l1 = true) (v2 : ichk n2 l2 = true) (v3 : ichk n3 l3 = true) (ho : zv n1 l1 = zv n2 l2) (hy : ¬ zv n3 l3 < zv n2 l2) :
    Calls Try.prog 5 #[.agg #[.bool n1, .slice a1 l1.length d1], .agg #[.bool n2, .slice a2 l2.length d2], .agg #[.bool n3, .slice a3 l3.length d3]] w fun e w' => e = .returned (.bool true) ∧ Below w.heap.size w w' := by
  obtain ⟨X1, hX1⟩ : ∃ X, X = zv n1 l1 := ⟨_, rfl⟩
  have c1 : Can n1 l1 X1 := hX1 ▸ Can.of m1 v1
  obtain ⟨X2, hX2⟩ : ∃ X, X = zv n2 l2 := ⟨_, rfl⟩
  have c2 : Can n2 l2 X2 := hX2 ▸ Can.of m2 v2
  obtain ⟨X3, hX3⟩ : ∃ X, X = zv n3 l3 := ⟨_, rfl⟩
  have c3 : Can n3 l3 X3 := hX3 ▸ Can.of m3 v3
  obtain ⟨sS, LS, cS⟩ := Can.ex (X1 + X3)
  have bS : LS.length ≤ 401 := Nat.le_trans (Can.len_add c1.is c3.is cS (.inl rfl)) (by omega)
  obtain ⟨sT, LT, cT⟩ := Can.ex (X2 + X3)
  have bT : LT.length ≤ 401 := Nat.le_trans (Can.len_add c2.is c3.is cT (.inl rfl)) (by omega)
  obtain ⟨sD, LD, cD⟩ := Can.ex (X1 - X2)
  have bD : LD.length ≤ 401 := Nat.le_trans (Can.len_add c1.is c2.is cD (.inr rfl)) (by omega)
  rw [← hX1, ← hX2] at ho
  obtain ⟨z, hz⟩ : ∃ z, z = sgz X1 X2 := ⟨_, rfl⟩
  obtain ⟨z', hz'⟩ : ∃ z, z = sgz X2 X1 := ⟨_, rfl⟩
  have ez : z = 0 := by rw [hz]; simp only [sgz]; split <;> (try split) <;> omega
  have ez' : z' = 0 := by rw [hz']; simp only [sgz]; split <;> (try split) <;> omega
  have g1' : decide (z < -1) = false := decide_eq_false (by omega)
  have g2' : decide (1 < z) = false := decide_eq_false (by omega)
  have f1 : ¬ z < -1 := by omega
  have f2 : ¬ 1 < z := by omega
  have f3 : IntKind.i64.wrap (-z) = z' := by rw [ez, ez']; rfl
  have f4 : (z == 0) = true := by rw [ez]; rfl
  have f5 : ¬ 0 < z := by omega
  rw [← hX2, ← hX3] at hy
  obtain ⟨y, hye⟩ : ∃ y, y = sgz X2 X3 := ⟨_, rfl⟩
  obtain ⟨x, hxe⟩ : ∃ x, x = sgz X1 X3 := ⟨_, rfl⟩
  have hy1 : decide (0 < y) = false := decide_eq_false (by rw [hye]; simp only [sgz]; split <;> (try split) <;> omega)
  have hx1 : decide (x ≤ 0) = true := decide_eq_true (by rw [hxe]; simp only [sgz]; split <;> (try split) <;> omega)
  have f6 : decide (0 < z) = false := decide_eq_false (by omega)
  have k1 := fun (W : World) (h1 : Reads W (.slice a1 l1.length d1) l1) => q_check c1 (by omega) h1
  have k2 := fun (W : World) (h1 : Reads W (.slice a2 l2.length d2) l2) => q_check c2 (by omega) h1
  have k3 := fun (W : World) (h1 : Reads W (.slice a3 l3.length d3) l3) => q_check c3 (by omega) h1
  have k4 := fun (W : World) (h1 : Reads W (.slice a1 l1.length d1) l1) (h2 : Reads W (.slice a2 l2.length d2) l2) => q_cmp (z) c1.is c2.is (hz.symm) (by omega) (by omega) h1 h2
  have k5 := fun (W : World) (h1 : Reads W (.slice a2 l2.length d2) l2) (h2 : Reads W (.slice a1 l1.length d1) l1) => q_cmp (z') c2.is c1.is (hz'.symm) (by omega) (by omega) h1 h2
  have k6 := fun (W : World) (h1 : Reads W (.slice a1 l1.length d1) l1) (h2 : Reads W (.slice a2 l2.length d2) l2) => q_same true c1 c2 (by simp; omega) (by omega) (by omega) h1 h2
  have k7 := fun (W : World) (h1 : Reads W (.slice a1 l1.length d1) l1) (h2 : Reads W (.slice a3 l3.length d3) l3) => q_add c1.is c3.is cS (rfl) (by omega) (by omega) h1 h2
  have k8 := fun (W : World) (h1 : Reads W (.slice a2 l2.length d2) l2) (h2 : Reads W (.slice a3 l3.length d3) l3) => q_add c2.is c3.is cT (rfl) (by omega) (by omega) h1 h2
  have k9 := fun (W : World) {p1 : Option Addr} {q1 : Nat} {p2 : Option Addr} {q2 : Nat} (h1 : Reads W (.slice p1 LS.length q1) LS) (h2 : Reads W (.slice p2 LT.length q2) LT) => q_cmp (z) cS.is cT.is (by rw [hz]; simp only [sgz]; split <;> (try split) <;> (try split) <;> omega) (by omega) (by omega) h1 h2
  have k10 := fun (W : World) (h1 : Reads W (.slice a1 l1.length d1) l1) (h2 : Reads W (.slice a2 l2.length d2) l2) => q_sub c1.is c2.is cD (rfl) (by omega) (by omega) h1 h2
  have k11 := fun (W : World) {p1 : Option Addr} {q1 : Nat} (h1 : Reads W (.slice p1 LD.length q1) LD) => q_sign (z) cD.is (by rw [hz]; simp only [sgz]; split <;> (try split) <;> (try split) <;> omega) (by omega) h1
  have k12 := fun (W : World) (h1 : Reads W (.slice a2 l2.length d2) l2) (h2 : Reads W (.slice a3 l3.length d3) l3) => q_cmp (y) c2.is c3.is (hye.symm) (by omega) (by omega) h1 h2
  have k13 := fun (W : World) (h1 : Reads W (.slice a1 l1.length d1) l1) (h2 : Reads W (.slice a3 l3.length d3) l3) => q_cmp (x) c1.is c3.is (hxe.symm) (by omega) (by omega) h1 h2
  have hG : Hid (false = [(n1, a1, l1.length, d1), (n2, a2, l2.length, d2), (n3, a3, l3.length, d3)].any fun t => decide (200 < t.2.2.1)) := Lib.hid (by simp; omega)
  have A := (((Box2.new w 25 (.bool n1) (.slice a1 l1.length d1)).alloc (.cells #[.bool n2, .slice a2 l2.length d2] 25)).alloc (.cells #[.bool n3, .slice a3 l3.length d3] 25))
  have B := ((Box2.new1 w (.cells #[.bool n1, .slice a1 l1.length d1] 25) 25 (.bool n2) (.slice a2 l2.length d2)).alloc (.cells #[.bool n3, .slice a3 l3.length d3] 25))
  have C := (Box2.new1 (w.alloc (.cells #[.bool n1, .slice a1 l1.length d1] 25)) (.cells #[.bool n2, .slice a2 l2.length d2] 25) 25 (.bool n3) (.slice a3 l3.length d3))
  rw [World.size_alloc] at C
  have r0 : Below w.heap.size w (((w.alloc (.cells #[.bool n1, .slice a1 l1.length d1] 25)).alloc (.cells #[.bool n2, .slice a2 l2.length d2] 25)).alloc (.cells #[.bool n3, .slice a3 l3.length d3] 25)) := (((Below.refl _ _).alloc (Nat.le_refl _) _).alloc (by simp) _).alloc (by simp; omega) _
  replace g1 := g1.below r0
  replace g2 := g2.below r0
  replace g3 := g3.below r0
  clear ho hz hz' ez ez' hy hye hxe
  clear k1' m1 hX1 c1 v1 k2' m2 hX2 c2 v2 k3' m3 hX3 c3 v3 bS cS bT cT bD cD
  go_enter Try.func5, Try.ntmps5
  go_wp2_with (first
    | (go_at_call 9; with_reducible refine (ialive_any _).mono ?_; rintro e w1 ⟨rfl, rr⟩; replace g1 := g1.below rr; replace g2 := g2.below rr; replace g3 := g3.below rr; replace A := A.below rr; replace B := B.below rr; replace C := C.below rr; replace r0 := then_below r0 rr; clear rr; have z0 := A.c0; have y0 := A.c1; have z1 := B.c0; have y1 := B.c1; have z2 := C.c0; have y2 := C.c1)
    | (go_at_call 14; have kg := igreat_lit w1 [(n1, a1, l1.length, d1), (n2, a2, l2.length, d2), (n3, a3, l3.length, d3)] (vs := #[.bool n1, .slice a1 l1.length d1, .bool n2, .slice a2 l2.length d2, .bool n3, .slice a3 l3.length d3]) (by simp [q4v]) (m := 3) rfl (by simp) false hG.out; with_reducible refine kg.mono ?_; clear kg; rintro e w2 ⟨rfl, rr⟩; replace g1 := g1.below rr; replace g2 := g2.below rr; replace g3 := g3.below rr; replace A := A.below rr; replace B := B.below rr; replace C := C.below rr; replace r0 := then_below r0 rr; clear rr; clear z0 y0 z1 y1 z2 y2; have z0 := A.c0; have y0 := A.c1; have z1 := B.c0; have y1 := B.c1; have z2 := C.c0; have y2 := C.c1)
    | (go_at_call 12; with_reducible refine (k1 w2 g1).mono ?_; rintro e w3 ⟨rfl, rr⟩; replace g1 := g1.below rr; replace g2 := g2.below rr; replace g3 := g3.below rr; replace A := A.below rr; replace B := B.below rr; replace C := C.below rr; replace r0 := then_below r0 rr; clear rr; clear z0 y0 z1 y1 z2 y2; have z0 := A.c0; have y0 := A.c1; have z1 := B.c0; have y1 := B.c1; have z2 := C.c0; have y2 := C.c1)
    | (go_at_call 12; with_reducible refine (k2 w3 g2).mono ?_; rintro e w4 ⟨rfl, rr⟩; replace g1 := g1.below rr; replace g2 := g2.below rr; replace g3 := g3.below rr; replace A := A.below rr; replace B := B.below rr; replace C := C.below rr; replace r0 := then_below r0 rr; clear rr; clear z0 y0 z1 y1 z2 y2; have z0 := A.c0; have y0 := A.c1; have z1 := B.c0; have y1 := B.c1; have z2 := C.c0; have y2 := C.c1)
    | (go_at_call 12; with_reducible refine (k3 w4 g3).mono ?_; rintro e w5 ⟨rfl, rr⟩; replace g1 := g1.below rr; replace g2 := g2.below rr; replace g3 := g3.below rr; replace A := A.below rr; replace B := B.below rr; replace C := C.below rr; replace r0 := then_below r0 rr; clear rr; clear z0 y0 z1 y1 z2 y2; have z0 := A.c0; have y0 := A.c1; have z1 := B.c0; have y1 := B.c1; have z2 := C.c0; have y2 := C.c1)
    | (go_at_call 18; with_reducible refine (k4 w5 g1 g2).mono ?_; rintro e w6 ⟨rfl, rr⟩; replace g1 := g1.below rr; replace g2 := g2.below rr; replace g3 := g3.below rr; replace A := A.below rr; replace B := B.below rr; replace C := C.below rr; replace r0 := then_below r0 rr; clear rr; clear z0 y0 z1 y1 z2 y2; have z0 := A.c0; have y0 := A.c1; have z1 := B.c0; have y1 := B.c1; have z2 := C.c0; have y2 := C.c1))
  have rd : Below w6.heap.size w6 w6.drew := ⟨rfl, rfl, rfl, Nat.le_refl _, fun _ _ => rfl⟩
  replace g1 := g1.below rd; replace g2 := g2.below rd; replace g3 := g3.below rd; replace A := A.below rd; replace B := B.below rd; replace C := C.below rd
  replace r0 := then_below r0 rd
  clear rd z0 y0 z1 y1 z2 y2
  go_region_held3 (fun W => W.cell? ⟨w.heap.size, 0, none⟩ = some (.bool n1) ∧ W.cell? ⟨w.heap.size, 1, none⟩ = some (.slice a1 l1.length d1) ∧ W.cell? ⟨w.heap.size + 1, 0, none⟩ = some (.bool n2) ∧ W.cell? ⟨w.heap.size + 1, 1, none⟩ = some (.slice a2 l2.length d2) ∧ W.cell? ⟨w.heap.size + 1 + 1, 0, none⟩ = some (.bool n3) ∧ W.cell? ⟨w.heap.size + 1 + 1, 1, none⟩ = some (.slice a3 l3.length d3)) (exact ⟨A.c0, A.c1, B.c0, B.c1, C.c0, C.c1⟩) (first
    | (go_at_call 18; with_reducible refine (k5 _ g2 g1).mono ?_; rintro e w7 ⟨rfl, rr⟩; replace g1 := g1.below rr; replace g2 := g2.below rr; replace g3 := g3.below rr; replace A := A.below rr; replace B := B.below rr; replace C := C.below rr; replace r0 := then_below r0 rr; clear rr)
    | (go_at_call 13; with_reducible refine (k6 w7 g1 g2).mono ?_; rintro e w8 ⟨rfl, rr⟩; replace g1 := g1.below rr; replace g2 := g2.below rr; replace g3 := g3.below rr; replace A := A.below rr; replace B := B.below rr; replace C := C.below rr; replace r0 := then_below r0 rr; clear rr)
    | (go_at_call 10; with_reducible refine (k7 w8 g1 g3).mono ?_; rintro e w9 ⟨x9, y9, rfl, gS, rr⟩; replace g1 := g1.below rr; replace g2 := g2.below rr; replace g3 := g3.below rr; replace A := A.below rr; replace B := B.below rr; replace C := C.below rr; replace r0 := then_below r0 rr; clear rr)
    | (go_at_call 10; with_reducible refine (k8 w9 g2 g3).mono ?_; rintro e w10 ⟨x10, y10, rfl, gT, rr⟩; replace g1 := g1.below rr; replace g2 := g2.below rr; replace g3 := g3.below rr; replace gS := gS.below rr; replace A := A.below rr; replace B := B.below rr; replace C := C.below rr; replace r0 := then_below r0 rr; clear rr)
    | (go_at_call 18; with_reducible refine (k9 w10 gS gT).mono ?_; rintro e w11 ⟨rfl, rr⟩; replace g1 := g1.below rr; replace g2 := g2.below rr; replace g3 := g3.below rr; replace A := A.below rr; replace B := B.below rr; replace C := C.below rr; replace r0 := then_below r0 rr; clear rr)
    | (go_at_call 16; with_reducible refine (k10 w11 g1 g2).mono ?_; rintro e w12 ⟨x12, y12, rfl, gD, rr⟩; replace g1 := g1.below rr; replace g2 := g2.below rr; replace g3 := g3.below rr; replace A := A.below rr; replace B := B.below rr; replace C := C.below rr; replace r0 := then_below r0 rr; clear rr)
    | (go_at_call 17; with_reducible refine (k11 w12 gD).mono ?_; rintro e w13 ⟨rfl, rr⟩; replace g1 := g1.below rr; replace g2 := g2.below rr; replace g3 := g3.below rr; replace A := A.below rr; replace B := B.below rr; replace C := C.below rr; replace r0 := then_below r0 rr; clear rr))
  all_goals
    have z0 := A.c0; have y0 := A.c1; have z1 := B.c0; have y1' := B.c1; have z2 := C.c0; have y2 := C.c1
    go_wp2_with (first
      | (go_at_call 18; with_reducible refine (k12 _ g2 g3).mono ?_; rintro e w14 ⟨rfl, rr⟩; replace g1 := g1.below rr; replace g3 := g3.below rr; replace A := A.below rr; replace B := B.below rr; replace C := C.below rr; replace r0 := then_below r0 rr; clear rr; have z0 := A.c0; have y0 := A.c1; have z2 := C.c0; have y2 := C.c1)
      | (go_at_call 18; with_reducible refine (k13 _ g1 g3).mono ?_; rintro e w15 ⟨rfl, rr⟩; replace r0 := then_below r0 rr; clear rr))
    go_ret
    exact ⟨rfl, r0⟩

set_option maxRecDepth 100000 in
set_option maxHeartbeats 8000000 in
theorem iorder_gt {w : World} {n1 n2 n3 : Bool} {a1 a2 a3 : Option Addr} {d1 d2 d3 : Nat} {l1 l2 l3 : List Nat} (g1 : Reads w (.slice a1 l1.length d1) l1) (g2 : Reads w (.slice a2 l2.length d2) l2) (g3 : Reads w (.slice a3 l3.length d3) l3) (k1' : l1.length ≤ 200) (k2' : l2.length ≤ 200) (k3' : l3.length ≤ 200) (m1 : Sm l1) (m2 : Sm l2) (m3 : Sm l3) (v1 : ichk n1 l1 = true) (v2 : ichk n2 l2 = true) (v3 : ichk n3 l3 = true) (ho : zv n2 l2 < zv n1 l1) :
    Calls Try.prog 5 #[.agg #[.bool n1, .slice a1 l1.length d1], .agg #[.bool n2, .slice a2 l2.length d2], .agg #[.bool n3, .slice a3 l3.length d3]] w fun e w' => e = .returned (.bool true) ∧ Below w.heap.size w w' := by
  obtain ⟨X1, hX1⟩ : ∃ X, X = zv n1 l1 := ⟨_, rfl⟩
  have c1 : Can n1 l1 X1 := hX1 ▸ Can.of m1 v1
  obtain ⟨X2, hX2⟩ : ∃ X, X = zv n2 l2 := ⟨_, rfl⟩
  have c2 : Can n2 l2 X2 := hX2 ▸ Can.of m2 v2
  obtain ⟨X3, hX3⟩ : ∃ X, X = zv n3 l3 := ⟨_, rfl⟩
  have c3 : Can n3 l3 X3 := hX3 ▸ Can.of m3 v3
  obtain ⟨sS, LS, cS⟩ := Can.ex (X1 + X3)
  have bS : LS.length ≤ 401 := Nat.le_trans (Can.len_add c1.is c3.is cS (.inl rfl)) (by omega)
  obtain ⟨sT, LT, cT⟩ := Can.ex (X2 + X3)
  have bT : LT.length ≤ 401 := Nat.le_trans (Can.len_add c2.is c3.is cT (.inl rfl)) (by omega)
  obtain ⟨sD, LD, cD⟩ := Can.ex (X1 - X2)
  have bD : LD.length ≤ 401 := Nat.le_trans (Can.len_add c1.is c2.is cD (.inr rfl)) (by omega)
  rw [← hX1, ← hX2] at ho
  obtain ⟨z, hz⟩ : ∃ z, z = sgz X1 X2 := ⟨_, rfl⟩
  obtain ⟨z', hz'⟩ : ∃ z, z = sgz X2 X1 := ⟨_, rfl⟩
  have ez : z = 1 := by rw [hz]; simp only [sgz]; split <;> (try split) <;> omega
  have ez' : z' = -1 := by rw [hz']; simp only [sgz]; split <;> (try split) <;> omega
  have g1' : decide (z < -1) = false := decide_eq_false (by omega)
  have g2' : decide (1 < z) = false := decide_eq_false (by omega)
  have f1 : ¬ z < -1 := by omega
  have f2 : ¬ 1 < z := by omega
  have f3 : IntKind.i64.wrap (-z) = z' := by rw [ez, ez']; rfl
  have f4 : (z == 0) = false := by rw [ez]; rfl
  have f5 : 0 < z := by omega
  have f6 : decide (0 < z) = true := decide_eq_true (by omega)
  have k1 := fun (W : World) (h1 : Reads W (.slice a1 l1.length d1) l1) => q_check c1 (by omega) h1
  have k2 := fun (W : World) (h1 : Reads W (.slice a2 l2.length d2) l2) => q_check c2 (by omega) h1
  have k3 := fun (W : World) (h1 : Reads W (.slice a3 l3.length d3) l3) => q_check c3 (by omega) h1
  have k4 := fun (W : World) (h1 : Reads W (.slice a1 l1.length d1) l1) (h2 : Reads W (.slice a2 l2.length d2) l2) => q_cmp (z) c1.is c2.is (hz.symm) (by omega) (by omega) h1 h2
  have k5 := fun (W : World) (h1 : Reads W (.slice a2 l2.length d2) l2) (h2 : Reads W (.slice a1 l1.length d1) l1) => q_cmp (z') c2.is c1.is (hz'.symm) (by omega) (by omega) h1 h2
  have k6 := fun (W : World) (h1 : Reads W (.slice a1 l1.length d1) l1) (h2 : Reads W (.slice a2 l2.length d2) l2) => q_same false c1 c2 (by simp; omega) (by omega) (by omega) h1 h2
  have k7 := fun (W : World) (h1 : Reads W (.slice a1 l1.length d1) l1) (h2 : Reads W (.slice a3 l3.length d3) l3) => q_add c1.is c3.is cS (rfl) (by omega) (by omega) h1 h2
  have k8 := fun (W : World) (h1 : Reads W (.slice a2 l2.length d2) l2) (h2 : Reads W (.slice a3 l3.length d3) l3) => q_add c2.is c3.is cT (rfl) (by omega) (by omega) h1 h2
  have k9 := fun (W : World) {p1 : Option Addr} {q1 : Nat} {p2 : Option Addr} {q2 : Nat} (h1 : Reads W (.slice p1 LS.length q1) LS) (h2 : Reads W (.slice p2 LT.length q2) LT) => q_cmp (z) cS.is cT.is (by rw [hz]; simp only [sgz]; split <;> (try split) <;> (try split) <;> omega) (by omega) (by omega) h1 h2
  have k10 := fun (W : World) (h1 : Reads W (.slice a1 l1.length d1) l1) (h2 : Reads W (.slice a2 l2.length d2) l2) => q_sub c1.is c2.is cD (rfl) (by omega) (by omega) h1 h2
  have k11 := fun (W : World) {p1 : Option Addr} {q1 : Nat} (h1 : Reads W (.slice p1 LD.length q1) LD) => q_sign (z) cD.is (by rw [hz]; simp only [sgz]; split <;> (try split) <;> (try split) <;> omega) (by omega) h1
  have hG : Hid (false = [(n1, a1, l1.length, d1), (n2, a2, l2.length, d2), (n3, a3, l3.length, d3)].any fun t => decide (200 < t.2.2.1)) := Lib.hid (by simp; omega)
  have A := (((Box2.new w 25 (.bool n1) (.slice a1 l1.length d1)).alloc (.cells #[.bool n2, .slice a2 l2.length d2] 25)).alloc (.cells #[.bool n3, .slice a3 l3.length d3] 25))
  have B := ((Box2.new1 w (.cells #[.bool n1, .slice a1 l1.length d1] 25) 25 (.bool n2) (.slice a2 l2.length d2)).alloc (.cells #[.bool n3, .slice a3 l3.length d3] 25))
  have C := (Box2.new1 (w.alloc (.cells #[.bool n1, .slice a1 l1.length d1] 25)) (.cells #[.bool n2, .slice a2 l2.length d2] 25) 25 (.bool n3) (.slice a3 l3.length d3))
  rw [World.size_alloc] at C
  have r0 : Below w.heap.size w (((w.alloc (.cells #[.bool n1, .slice a1 l1.length d1] 25)).alloc (.cells #[.bool n2, .slice a2 l2.length d2] 25)).alloc (.cells #[.bool n3, .slice a3 l3.length d3] 25)) := (((Below.refl _ _).alloc (Nat.le_refl _) _).alloc (by simp) _).alloc (by simp; omega) _
  replace g1 := g1.below r0
  replace g2 := g2.below r0
  replace g3 := g3.below r0
  clear ho hz hz' ez ez'
  clear k1' m1 hX1 c1 v1 k2' m2 hX2 c2 v2 k3' m3 hX3 c3 v3 bS cS bT cT bD cD
  go_enter Try.func5, Try.ntmps5
  go_wp2_with (first
    | (go_at_call 9; with_reducible refine (ialive_any _).mono ?_; rintro e w1 ⟨rfl, rr⟩; replace g1 := g1.below rr; replace g2 := g2.below rr; replace g3 := g3.below rr; replace A := A.below rr; replace B := B.below rr; replace C := C.below rr; replace r0 := then_below r0 rr; clear rr; have z0 := A.c0; have y0 := A.c1; have z1 := B.c0; have y1 := B.c1; have z2 := C.c0; have y2 := C.c1)
    | (go_at_call 14; have kg := igreat_lit w1 [(n1, a1, l1.length, d1), (n2, a2, l2.length, d2), (n3, a3, l3.length, d3)] (vs := #[.bool n1, .slice a1 l1.length d1, .bool n2, .slice a2 l2.length d2, .bool n3, .slice a3 l3.length d3]) (by simp [q4v]) (m := 3) rfl (by simp) false hG.out; with_reducible refine kg.mono ?_; clear kg; rintro e w2 ⟨rfl, rr⟩; replace g1 := g1.below rr; replace g2 := g2.below rr; replace g3 := g3.below rr; replace A := A.below rr; replace B := B.below rr; replace C := C.below rr; replace r0 := then_below r0 rr; clear rr; clear z0 y0 z1 y1 z2 y2; have z0 := A.c0; have y0 := A.c1; have z1 := B.c0; have y1 := B.c1; have z2 := C.c0; have y2 := C.c1)
    | (go_at_call 12; with_reducible refine (k1 w2 g1).mono ?_; rintro e w3 ⟨rfl, rr⟩; replace g1 := g1.below rr; replace g2 := g2.below rr; replace g3 := g3.below rr; replace A := A.below rr; replace B := B.below rr; replace C := C.below rr; replace r0 := then_below r0 rr; clear rr; clear z0 y0 z1 y1 z2 y2; have z0 := A.c0; have y0 := A.c1; have z1 := B.c0; have y1 := B.c1; have z2 := C.c0; have y2 := C.c1)
    | (go_at_call 12; with_reducible refine (k2 w3 g2).mono ?_; rintro e w4 ⟨rfl, rr⟩; replace g1 := g1.below rr; replace g2 := g2.below rr; replace g3 := g3.below rr; replace A := A.below rr; replace B := B.below rr; replace C := C.below rr; replace r0 := then_below r0 rr; clear rr; clear z0 y0 z1 y1 z2 y2; have z0 := A.c0; have y0 := A.c1; have z1 := B.c0; have y1 := B.c1; have z2 := C.c0; have y2 := C.c1)
    | (go_at_call 12; with_reducible refine (k3 w4 g3).mono ?_; rintro e w5 ⟨rfl, rr⟩; replace g1 := g1.below rr; replace g2 := g2.below rr; replace g3 := g3.below rr; replace A := A.below rr; replace B := B.below rr; replace C := C.below rr; replace r0 := then_below r0 rr; clear rr; clear z0 y0 z1 y1 z2 y2; have z0 := A.c0; have y0 := A.c1; have z1 := B.c0; have y1 := B.c1; have z2 := C.c0; have y2 := C.c1)
    | (go_at_call 18; with_reducible refine (k4 w5 g1 g2).mono ?_; rintro e w6 ⟨rfl, rr⟩; replace g1 := g1.below rr; replace g2 := g2.below rr; replace g3 := g3.below rr; replace A := A.below rr; replace B := B.below rr; replace C := C.below rr; replace r0 := then_below r0 rr; clear rr; clear z0 y0 z1 y1 z2 y2; have z0 := A.c0; have y0 := A.c1; have z1 := B.c0; have y1 := B.c1; have z2 := C.c0; have y2 := C.c1))
  have rd : Below w6.heap.size w6 w6.drew := ⟨rfl, rfl, rfl, Nat.le_refl _, fun _ _ => rfl⟩
  replace g1 := g1.below rd; replace g2 := g2.below rd; replace g3 := g3.below rd; replace A := A.below rd; replace B := B.below rd; replace C := C.below rd
  replace r0 := then_below r0 rd
  clear rd z0 y0 z1 y1 z2 y2
  go_region_held3 (fun W => W.cell? ⟨w.heap.size, 0, none⟩ = some (.bool n1) ∧ W.cell? ⟨w.heap.size, 1, none⟩ = some (.slice a1 l1.length d1) ∧ W.cell? ⟨w.heap.size + 1, 0, none⟩ = some (.bool n2) ∧ W.cell? ⟨w.heap.size + 1, 1, none⟩ = some (.slice a2 l2.length d2) ∧ W.cell? ⟨w.heap.size + 1 + 1, 0, none⟩ = some (.bool n3) ∧ W.cell? ⟨w.heap.size + 1 + 1, 1, none⟩ = some (.slice a3 l3.length d3)) (exact ⟨A.c0, A.c1, B.c0, B.c1, C.c0, C.c1⟩) (first
    | (go_at_call 18; with_reducible refine (k5 _ g2 g1).mono ?_; rintro e w7 ⟨rfl, rr⟩; replace g1 := g1.below rr; replace g2 := g2.below rr; replace g3 := g3.below rr; replace A := A.below rr; replace B := B.below rr; replace C := C.below rr; replace r0 := then_below r0 rr; clear rr)
    | (go_at_call 13; with_reducible refine (k6 w7 g1 g2).mono ?_; rintro e w8 ⟨rfl, rr⟩; replace g1 := g1.below rr; replace g2 := g2.below rr; replace g3 := g3.below rr; replace A := A.below rr; replace B := B.below rr; replace C := C.below rr; replace r0 := then_below r0 rr; clear rr)
    | (go_at_call 10; with_reducible refine (k7 w8 g1 g3).mono ?_; rintro e w9 ⟨x9, y9, rfl, gS, rr⟩; replace g1 := g1.below rr; replace g2 := g2.below rr; replace g3 := g3.below rr; replace A := A.below rr; replace B := B.below rr; replace C := C.below rr; replace r0 := then_below r0 rr; clear rr)
    | (go_at_call 10; with_reducible refine (k8 w9 g2 g3).mono ?_; rintro e w10 ⟨x10, y10, rfl, gT, rr⟩; replace g1 := g1.below rr; replace g2 := g2.below rr; replace gS := gS.below rr; replace A := A.below rr; replace B := B.below rr; replace C := C.below rr; replace r0 := then_below r0 rr; clear rr)
    | (go_at_call 18; with_reducible refine (k9 w10 gS gT).mono ?_; rintro e w11 ⟨rfl, rr⟩; replace g1 := g1.below rr; replace g2 := g2.below rr; replace A := A.below rr; replace B := B.below rr; replace C := C.below rr; replace r0 := then_below r0 rr; clear rr)
    | (go_at_call 16; with_reducible refine (k10 w11 g1 g2).mono ?_; rintro e w12 ⟨x12, y12, rfl, gD, rr⟩; replace A := A.below rr; replace B := B.below rr; replace C := C.below rr; replace r0 := then_below r0 rr; clear rr)
    | (go_at_call 17; with_reducible refine (k11 w12 gD).mono ?_; rintro e w13 ⟨rfl, rr⟩; replace A := A.below rr; replace B := B.below rr; replace C := C.below rr; replace r0 := then_below r0 rr; clear rr))
  all_goals
    go_wp2
    go_ret
    exact ⟨rfl, r0⟩

set_option maxRecDepth 100000 in
set_option maxHeartbeats 4000000 in
theorem iorder_far {w : World} {n1 n2 n3 : Bool} {a1 a2 a3 : Option Addr} {k1 d1 k2 d2 k3 d3 : Nat} (h : 200 < k1 ∨ 200 < k2 ∨ 200 < k3) :
    Calls Try.prog 5 #[.agg #[.bool n1, .slice a1 k1 d1], .agg #[.bool n2, .slice a2 k2 d2], .agg #[.bool n3, .slice a3 k3 d3]] w fun e w' => e = .returned (.bool true) ∧ Below w.heap.size w w' := by
  have hG : Hid (true = [(n1, a1, k1, d1), (n2, a2, k2, d2), (n3, a3, k3, d3)].any fun t => decide (200 < t.2.2.1)) := Lib.hid (by simp; omega)
  have A := (((Box2.new w 25 (.bool n1) (.slice a1 k1 d1)).alloc (.cells #[.bool n2, .slice a2 k2 d2] 25)).alloc (.cells #[.bool n3, .slice a3 k3 d3] 25))
  have B := ((Box2.new1 w (.cells #[.bool n1, .slice a1 k1 d1] 25) 25 (.bool n2) (.slice a2 k2 d2)).alloc (.cells #[.bool n3, .slice a3 k3 d3] 25))
  have C := (Box2.new1 (w.alloc (.cells #[.bool n1, .slice a1 k1 d1] 25)) (.cells #[.bool n2, .slice a2 k2 d2] 25) 25 (.bool n3) (.slice a3 k3 d3))
  rw [World.size_alloc] at C
  have r0 : Below w.heap.size w (((w.alloc (.cells #[.bool n1, .slice a1 k1 d1] 25)).alloc (.cells #[.bool n2, .slice a2 k2 d2] 25)).alloc (.cells #[.bool n3, .slice a3 k3 d3] 25)) := (((Below.refl _ _).alloc (Nat.le_refl _) _).alloc (by simp) _).alloc (by simp; omega) _
  clear h
  go_enter Try.func5, Try.ntmps5
  go_wp2_with (first
    | (go_at_call 9; with_reducible refine (ialive_any (((w.alloc (.cells #[.bool n1, .slice a1 k1 d1] 25)).alloc (.cells #[.bool n2, .slice a2 k2 d2] 25)).alloc (.cells #[.bool n3, .slice a3 k3 d3] 25))).mono ?_; rintro e w1 ⟨rfl, rr⟩; replace A := A.below rr; replace B := B.below rr; replace C := C.below rr; replace r0 := then_below r0 rr; clear rr; have z0 := A.c0; have y0 := A.c1; have z1 := B.c0; have y1 := B.c1; have z2 := C.c0; have y2 := C.c1)
    | (go_at_call 14; have kg := igreat_lit w1 [(n1, a1, k1, d1), (n2, a2, k2, d2), (n3, a3, k3, d3)] (vs := #[.bool n1, .slice a1 k1 d1, .bool n2, .slice a2 k2 d2, .bool n3, .slice a3 k3 d3]) (by simp [q4v]) (m := 3) rfl (by simp) true hG.out; with_reducible refine kg.mono ?_; clear kg; rintro e w2 ⟨rfl, rr⟩; replace A := A.below rr; replace B := B.below rr; replace C := C.below rr; replace r0 := then_below r0 rr; clear rr; clear z0 y0 z1 y1 z2 y2; have z0 := A.c0; have y0 := A.c1; have z1 := B.c0; have y1 := B.c1; have z2 := C.c0; have y2 := C.c1)
    | (go_at_call 9; with_reducible refine (ialive_any w2).mono ?_; rintro e w3 ⟨rfl, rr⟩))
  go_ret
  exact ⟨rfl, then_below r0 rr⟩

set_option maxRecDepth 100000 in
set_option maxHeartbeats 4000000 in
theorem iorder_bad1 {w : World} {n1 n2 n3 : Bool} {a1 a2 a3 : Option Addr} {d1 d2 d3 : Nat} {l1 l2 l3 : List Nat} (g1 : Reads w (.slice a1 l1.length d1) l1) (_g2 : Reads w (.slice a2 l2.length d2) l2) (_g3 : Reads w (.slice a3 l3.length d3) l3) (k1' : l1.length ≤ 200) (k2' : l2.length ≤ 200) (k3' : l3.length ≤ 200) (v1 : ichk n1 l1 = false) :
    Calls Try.prog 5 #[.agg #[.bool n1, .slice a1 l1.length d1], .agg #[.bool n2, .slice a2 l2.length d2], .agg #[.bool n3, .slice a3 l3.length d3]] w fun e w' => e = .returned (.bool true) ∧ Below w.heap.size w w' := by
  have hG : Hid (false = [(n1, a1, l1.length, d1), (n2, a2, l2.length, d2), (n3, a3, l3.length, d3)].any fun t => decide (200 < t.2.2.1)) := Lib.hid (by simp; omega)
  have A := (((Box2.new w 25 (.bool n1) (.slice a1 l1.length d1)).alloc (.cells #[.bool n2, .slice a2 l2.length d2] 25)).alloc (.cells #[.bool n3, .slice a3 l3.length d3] 25))
  have B := ((Box2.new1 w (.cells #[.bool n1, .slice a1 l1.length d1] 25) 25 (.bool n2) (.slice a2 l2.length d2)).alloc (.cells #[.bool n3, .slice a3 l3.length d3] 25))
  have C := (Box2.new1 (w.alloc (.cells #[.bool n1, .slice a1 l1.length d1] 25)) (.cells #[.bool n2, .slice a2 l2.length d2] 25) 25 (.bool n3) (.slice a3 l3.length d3))
  rw [World.size_alloc] at C
  have r0 : Below w.heap.size w (((w.alloc (.cells #[.bool n1, .slice a1 l1.length d1] 25)).alloc (.cells #[.bool n2, .slice a2 l2.length d2] 25)).alloc (.cells #[.bool n3, .slice a3 l3.length d3] 25)) := (((Below.refl _ _).alloc (Nat.le_refl _) _).alloc (by simp) _).alloc (by simp; omega) _
  replace g1 := g1.below r0
  have e1 := fun (W : World) (g : Reads W (.slice a1 l1.length d1) l1) => icheck_any (n := n1) g (by omega)
  rw [v1] at e1
  clear k1' k2' k3' v1
  go_enter Try.func5, Try.ntmps5
  go_wp2_with (first
    | (go_at_call 9; with_reducible refine (ialive_any (((w.alloc (.cells #[.bool n1, .slice a1 l1.length d1] 25)).alloc (.cells #[.bool n2, .slice a2 l2.length d2] 25)).alloc (.cells #[.bool n3, .slice a3 l3.length d3] 25))).mono ?_; rintro e w1 ⟨rfl, rr⟩; replace g1 := g1.below rr; replace A := A.below rr; replace B := B.below rr; replace C := C.below rr; replace r0 := then_below r0 rr; clear rr; have z0 := A.c0; have y0 := A.c1; have z1 := B.c0; have y1 := B.c1; have z2 := C.c0; have y2 := C.c1)
    | (go_at_call 14; have kg := igreat_lit w1 [(n1, a1, l1.length, d1), (n2, a2, l2.length, d2), (n3, a3, l3.length, d3)] (vs := #[.bool n1, .slice a1 l1.length d1, .bool n2, .slice a2 l2.length d2, .bool n3, .slice a3 l3.length d3]) (by simp [q4v]) (m := 3) rfl (by simp) false hG.out; with_reducible refine kg.mono ?_; clear kg; rintro e w2 ⟨rfl, rr⟩; replace g1 := g1.below rr; replace A := A.below rr; replace B := B.below rr; replace C := C.below rr; replace r0 := then_below r0 rr; clear rr; clear z0 y0 z1 y1 z2 y2; have z0 := A.c0; have y0 := A.c1; have z1 := B.c0; have y1 := B.c1; have z2 := C.c0; have y2 := C.c1)
    | (go_at_call 12; with_reducible refine (e1 w2 g1).mono ?_; rintro e w3 ⟨rfl, rr⟩; replace g1 := g1.below rr; replace A := A.below rr; replace B := B.below rr; replace C := C.below rr; replace r0 := then_below r0 rr; clear rr; clear z0 y0 z1 y1 z2 y2; have z0 := A.c0; have y0 := A.c1; have z1 := B.c0; have y1 := B.c1; have z2 := C.c0; have y2 := C.c1)
    | (go_at_call 9; with_reducible refine (ialive_any w3).mono ?_; rintro e w4 ⟨rfl, rr⟩))
  go_ret
  exact ⟨rfl, then_below r0 rr⟩

set_option maxRecDepth 100000 in
set_option maxHeartbeats 4000000 in
theorem iorder_bad2 {w : World} {n1 n2 n3 : Bool} {a1 a2 a3 : Option Addr} {d1 d2 d3 : Nat} {l1 l2 l3 : List Nat} (g1 : Reads w (.slice a1 l1.length d1) l1) (g2 : Reads w (.slice a2 l2.length d2) l2) (_g3 : Reads w (.slice a3 l3.length d3) l3) (k1' : l1.length ≤ 200) (k2' : l2.length ≤ 200) (k3' : l3.length ≤ 200) (v1 : ichk n1 l1 = true) (v2 : ichk n2 l2 = false) :
    Calls Try.prog 5 #[.agg #[.bool n1, .slice a1 l1.length d1], .agg #[.bool n2, .slice a2 l2.length d2], .agg #[.bool n3, .slice a3 l3.length d3]] w fun e w' => e = .returned (.bool true) ∧ Below w.heap.size w w' := by
  have hG : Hid (false = [(n1, a1, l1.length, d1), (n2, a2, l2.length, d2), (n3, a3, l3.length, d3)].any fun t => decide (200 < t.2.2.1)) := Lib.hid (by simp; omega)
  have A := (((Box2.new w 25 (.bool n1) (.slice a1 l1.length d1)).alloc (.cells #[.bool n2, .slice a2 l2.length d2] 25)).alloc (.cells #[.bool n3, .slice a3 l3.length d3] 25))
  have B := ((Box2.new1 w (.cells #[.bool n1, .slice a1 l1.length d1] 25) 25 (.bool n2) (.slice a2 l2.length d2)).alloc (.cells #[.bool n3, .slice a3 l3.length d3] 25))
  have C := (Box2.new1 (w.alloc (.cells #[.bool n1, .slice a1 l1.length d1] 25)) (.cells #[.bool n2, .slice a2 l2.length d2] 25) 25 (.bool n3) (.slice a3 l3.length d3))
  rw [World.size_alloc] at C
  have r0 : Below w.heap.size w (((w.alloc (.cells #[.bool n1, .slice a1 l1.length d1] 25)).alloc (.cells #[.bool n2, .slice a2 l2.length d2] 25)).alloc (.cells #[.bool n3, .slice a3 l3.length d3] 25)) := (((Below.refl _ _).alloc (Nat.le_refl _) _).alloc (by simp) _).alloc (by simp; omega) _
  replace g1 := g1.below r0
  have e1 := fun (W : World) (g : Reads W (.slice a1 l1.length d1) l1) => icheck_any (n := n1) g (by omega)
  rw [v1] at e1
  replace g2 := g2.below r0
  have e2 := fun (W : World) (g : Reads W (.slice a2 l2.length d2) l2) => icheck_any (n := n2) g (by omega)
  rw [v2] at e2
  clear k1' k2' k3' v1 v2
  go_enter Try.func5, Try.ntmps5
  go_wp2_with (first
    | (go_at_call 9; with_reducible refine (ialive_any (((w.alloc (.cells #[.bool n1, .slice a1 l1.length d1] 25)).alloc (.cells #[.bool n2, .slice a2 l2.length d2] 25)).alloc (.cells #[.bool n3, .slice a3 l3.length d3] 25))).mono ?_; rintro e w1 ⟨rfl, rr⟩; replace g1 := g1.below rr; replace g2 := g2.below rr; replace A := A.below rr; replace B := B.below rr; replace C := C.below rr; replace r0 := then_below r0 rr; clear rr; have z0 := A.c0; have y0 := A.c1; have z1 := B.c0; have y1 := B.c1; have z2 := C.c0; have y2 := C.c1)
    | (go_at_call 14; have kg := igreat_lit w1 [(n1, a1, l1.length, d1), (n2, a2, l2.length, d2), (n3, a3, l3.length, d3)] (vs := #[.bool n1, .slice a1 l1.length d1, .bool n2, .slice a2 l2.length d2, .bool n3, .slice a3 l3.length d3]) (by simp [q4v]) (m := 3) rfl (by simp) false hG.out; with_reducible refine kg.mono ?_; clear kg; rintro e w2 ⟨rfl, rr⟩; replace g1 := g1.below rr; replace g2 := g2.below rr; replace A := A.below rr; replace B := B.below rr; replace C := C.below rr; replace r0 := then_below r0 rr; clear rr; clear z0 y0 z1 y1 z2 y2; have z0 := A.c0; have y0 := A.c1; have z1 := B.c0; have y1 := B.c1; have z2 := C.c0; have y2 := C.c1)
    | (go_at_call 12; with_reducible refine (e1 w2 g1).mono ?_; rintro e w3 ⟨rfl, rr⟩; replace g1 := g1.below rr; replace g2 := g2.below rr; replace A := A.below rr; replace B := B.below rr; replace C := C.below rr; replace r0 := then_below r0 rr; clear rr; clear z0 y0 z1 y1 z2 y2; have z0 := A.c0; have y0 := A.c1; have z1 := B.c0; have y1 := B.c1; have z2 := C.c0; have y2 := C.c1)
    | (go_at_call 12; with_reducible refine (e2 w3 g2).mono ?_; rintro e w4 ⟨rfl, rr⟩; replace g1 := g1.below rr; replace g2 := g2.below rr; replace A := A.below rr; replace B := B.below rr; replace C := C.below rr; replace r0 := then_below r0 rr; clear rr; clear z0 y0 z1 y1 z2 y2; have z0 := A.c0; have y0 := A.c1; have z1 := B.c0; have y1 := B.c1; have z2 := C.c0; have y2 := C.c1)
    | (go_at_call 9; with_reducible refine (ialive_any w4).mono ?_; rintro e w5 ⟨rfl, rr⟩))
  go_ret
  exact ⟨rfl, then_below r0 rr⟩

set_option maxRecDepth 100000 in
set_option maxHeartbeats 4000000 in
theorem iorder_bad3 {w : World} {n1 n2 n3 : Bool} {a1 a2 a3 : Option Addr} {d1 d2 d3 : Nat} {l1 l2 l3 : List Nat} (g1 : Reads w (.slice a1 l1.length d1) l1) (g2 : Reads w (.slice a2 l2.length d2) l2) (g3 : Reads w (.slice a3 l3.length d3) l3) (k1' : l1.length ≤ 200) (k2' : l2.length ≤ 200) (k3' : l3.length ≤ 200) (v1 : ichk n1 l1 = true) (v2 : ichk n2 l2 = true) (v3 : ichk n3 l3 = false) :
    Calls Try.prog 5 #[.agg #[.bool n1, .slice a1 l1.length d1], .agg #[.bool n2, .slice a2 l2.length d2], .agg #[.bool n3, .slice a3 l3.length d3]] w fun e w' => e = .returned (.bool true) ∧ Below w.heap.size w w' := by
  have hG : Hid (false = [(n1, a1, l1.length, d1), (n2, a2, l2.length, d2), (n3, a3, l3.length, d3)].any fun t => decide (200 < t.2.2.1)) := Lib.hid (by simp; omega)
  have A := (((Box2.new w 25 (.bool n1) (.slice a1 l1.length d1)).alloc (.cells #[.bool n2, .slice a2 l2.length d2] 25)).alloc (.cells #[.bool n3, .slice a3 l3.length d3] 25))
  have B := ((Box2.new1 w (.cells #[.bool n1, .slice a1 l1.length d1] 25) 25 (.bool n2) (.slice a2 l2.length d2)).alloc (.cells #[.bool n3, .slice a3 l3.length d3] 25))
  have C := (Box2.new1 (w.alloc (.cells #[.bool n1, .slice a1 l1.length d1] 25)) (.cells #[.bool n2, .slice a2 l2.length d2] 25) 25 (.bool n3) (.slice a3 l3.length d3))
  rw [World.size_alloc] at C
  have r0 : Below w.heap.size w (((w.alloc (.cells #[.bool n1, .slice a1 l1.length d1] 25)).alloc (.cells #[.bool n2, .slice a2 l2.length d2] 25)).alloc (.cells #[.bool n3, .slice a3 l3.length d3] 25)) := (((Below.refl _ _).alloc (Nat.le_refl _) _).alloc (by simp) _).alloc (by simp; omega) _
  replace g1 := g1.below r0
  have e1 := fun (W : World) (g : Reads W (.slice a1 l1.length d1) l1) => icheck_any (n := n1) g (by omega)
  rw [v1] at e1
  replace g2 := g2.below r0
  have e2 := fun (W : World) (g : Reads W (.slice a2 l2.length d2) l2) => icheck_any (n := n2) g (by omega)
  rw [v2] at e2
  replace g3 := g3.below r0
  have e3 := fun (W : World) (g : Reads W (.slice a3 l3.length d3) l3) => icheck_any (n := n3) g (by omega)
  rw [v3] at e3
  clear k1' k2' k3' v1 v2 v3
  go_enter Try.func5, Try.ntmps5
  go_wp2_with (first
    | (go_at_call 9; with_reducible refine (ialive_any (((w.alloc (.cells #[.bool n1, .slice a1 l1.length d1] 25)).alloc (.cells #[.bool n2, .slice a2 l2.length d2] 25)).alloc (.cells #[.bool n3, .slice a3 l3.length d3] 25))).mono ?_; rintro e w1 ⟨rfl, rr⟩; replace g1 := g1.below rr; replace g2 := g2.below rr; replace g3 := g3.below rr; replace A := A.below rr; replace B := B.below rr; replace C := C.below rr; replace r0 := then_below r0 rr; clear rr; have z0 := A.c0; have y0 := A.c1; have z1 := B.c0; have y1 := B.c1; have z2 := C.c0; have y2 := C.c1)
    | (go_at_call 14; have kg := igreat_lit w1 [(n1, a1, l1.length, d1), (n2, a2, l2.length, d2), (n3, a3, l3.length, d3)] (vs := #[.bool n1, .slice a1 l1.length d1, .bool n2, .slice a2 l2.length d2, .bool n3, .slice a3 l3.length d3]) (by simp [q4v]) (m := 3) rfl (by simp) false hG.out; with_reducible refine kg.mono ?_; clear kg; rintro e w2 ⟨rfl, rr⟩; replace g1 := g1.below rr; replace g2 := g2.below rr; replace g3 := g3.below rr; replace A := A.below rr; replace B := B.below rr; replace C := C.below rr; replace r0 := then_below r0 rr; clear rr; clear z0 y0 z1 y1 z2 y2; have z0 := A.c0; have y0 := A.c1; have z1 := B.c0; have y1 := B.c1; have z2 := C.c0; have y2 := C.c1)
    | (go_at_call 12; with_reducible refine (e1 w2 g1).mono ?_; rintro e w3 ⟨rfl, rr⟩; replace g1 := g1.below rr; replace g2 := g2.below rr; replace g3 := g3.below rr; replace A := A.below rr; replace B := B.below rr; replace C := C.below rr; replace r0 := then_below r0 rr; clear rr; clear z0 y0 z1 y1 z2 y2; have z0 := A.c0; have y0 := A.c1; have z1 := B.c0; have y1 := B.c1; have z2 := C.c0; have y2 := C.c1)
    | (go_at_call 12; with_reducible refine (e2 w3 g2).mono ?_; rintro e w4 ⟨rfl, rr⟩; replace g1 := g1.below rr; replace g2 := g2.below rr; replace g3 := g3.below rr; replace A := A.below rr; replace B := B.below rr; replace C := C.below rr; replace r0 := then_below r0 rr; clear rr; clear z0 y0 z1 y1 z2 y2; have z0 := A.c0; have y0 := A.c1; have z1 := B.c0; have y1 := B.c1; have z2 := C.c0; have y2 := C.c1)
    | (go_at_call 12; with_reducible refine (e3 w4 g3).mono ?_; rintro e w5 ⟨rfl, rr⟩; replace g1 := g1.below rr; replace g2 := g2.below rr; replace g3 := g3.below rr; replace A := A.below rr; replace B := B.below rr; replace C := C.below rr; replace r0 := then_below r0 rr; clear rr; clear z0 y0 z1 y1 z2 y2; have z0 := A.c0; have y0 := A.c1; have z1 := B.c0; have y1 := B.c1; have z2 := C.c0; have y2 := C.c1)
    | (go_at_call 9; with_reducible refine (ialive_any w5).mono ?_; rintro e w6 ⟨rfl, rr⟩))
  go_ret
  exact ⟨rfl, then_below r0 rr⟩

end Go.Proofs.Ytjcoaoacgcpooaa
