/- IntsRead: its walks (I). -/
import Derived.Test.YtlcbicdendelfaaGIRead
set_option linter.unusedSimpArgs false
set_option linter.unusedVariables false
namespace Go.Proofs.Ytlcbicdendelfaa
open Go Go.Proofs Go.RowKit Go.Shelf Nu

attribute [local go_sem] Oper.semAt_some

set_option maxRecDepth 100000 in
set_option maxHeartbeats 4000000 in
theorem iread_I_no3 {w : World} {n1 : Bool} {a1 : Option Addr} {c1 : Nat} {l1 : List Nat} {s tx : ByteArray} {z1 : Int} (hR : Reads w (.slice a1 l1.length c1) l1) (hl : l1.length ≤ 200) (hs : s.size ≤ 1048576) (KA : Hid (AKnow n1 l1 ⟨#[48]⟩ z1 false)) (hz : ¬ z1 < 0) {sB : Bool} {LB : List Nat} (KP : Hid (IYes ⟨#[48]⟩ sB LB)) (KQ : Hid (INo s 3)) :
    Calls Try.prog 3 #[.agg #[.bool n1, .slice a1 l1.length c1], .string s] w fun e w' => e = .returned (.bool true) ∧ Below w.heap.size w w' := by
  have hsz : ¬ 9223372036854775807 < 1 + s.size := by omega
  obtain ⟨u0, hu0⟩ : ∃ u0, u0 = w.alloc (.cells #[.bool n1, .slice a1 l1.length c1] 25) := ⟨_, rfl⟩
  have K0 := Lib.hid (show Box2 u0 w.heap.size 25 (.bool n1) (.slice a1 l1.length c1) by rw [hu0]; exact Box2.new w _ _ _)
  have b0 := Lib.hid (show Below w.heap.size w u0 by rw [hu0]; exact (Below.refl _ _).alloc (Nat.le_refl _) _)
  have RA := Lib.hid (hR.below b0.out)
  have hs0 := Lib.hid (show w.heap.size + 1 = u0.heap.size by rw [hu0]; simp)
  obtain ⟨B0, hB0⟩ : ∃ b, b = w.heap.size := ⟨_, rfl⟩
  rw [← hB0] at K0
  have hu0' := Lib.hid hu0
  have hB0' := Lib.hid hB0
  have HS9 := Lib.hid (show s.size < 9223372036854775808 by omega)
  have hG := Lib.hid (show false = [(n1, a1, l1.length, c1)].any (fun t => decide (200 < t.2.2.1)) by simp; omega)
  have hY := Lib.hid (show false = decide (1048576 < s.size) by simp; omega)
  clear hu0 hB0 hR
  go_enter Try.func3, Try.ntmps3
  go_wp2_with fail
  try rw [← hu0'.out]
  try rw [← hB0'.out]
  clear hu0' hs0 hB0'
  go_at_call 5
  refine (ialive_any _).mono ?_
  rintro e w1 ⟨rfl, r⟩
  replace K0 := Lib.hid (K0.out.below r)
  replace RA := Lib.hid (RA.out.below r)
  replace b0 := Lib.hid (then_below b0.out r)
  clear r
  have K0a := K0.out.c0; have K0b := K0.out.c1
  go_wp2_with fail
  go_at_call 6
  refine (igreat_lit _ [(n1, a1, l1.length, c1)] (vs := #[.bool n1, .slice a1 l1.length c1]) rfl (m := 1) rfl (by simp) false hG.out).mono ?_
  rintro e w2 ⟨rfl, r⟩
  replace K0 := Lib.hid (K0.out.below r)
  replace RA := Lib.hid (RA.out.below r)
  replace b0 := Lib.hid (then_below b0.out r)
  clear r
  clear K0a K0b
  go_wp2_with fail
  go_at_call 7
  refine (beyond_one _ s.size HS9.out false hY.out).mono ?_
  rintro e w3 ⟨rfl, r⟩
  replace K0 := Lib.hid (K0.out.below r)
  replace RA := Lib.hid (RA.out.below r)
  replace b0 := Lib.hid (then_below b0.out r)
  clear r
  have K0a := K0.out.c0; have K0b := K0.out.c1
  go_wp2_with fail
  go_at_call 8
  refine (KA.out.1 _ _ _ RA.out).mono ?_
  rintro e w4 ⟨rfl, r⟩
  replace K0 := Lib.hid (K0.out.below r)
  replace RA := Lib.hid (RA.out.below r)
  replace b0 := Lib.hid (then_below b0.out r)
  clear r
  clear K0a K0b
  go_wp2_with fail
  go_at_call 9
  refine (KP.out _).mono ?_
  rintro e w5 ⟨ab, cb, rfl, g, r⟩
  replace K0 := Lib.hid (K0.out.below r)
  replace RA := Lib.hid (RA.out.below r)
  replace b0 := Lib.hid (then_below b0.out r)
  have RB := Lib.hid g
  clear r g
  have K0a := (K0.out.alloc (.cells #[.bool sB, .slice ab LB.length cb] 25)).c0; have K0b := (K0.out.alloc (.cells #[.bool sB, .slice ab LB.length cb] 25)).c1
  go_wp2_with fail
  clear K0a K0b
  obtain ⟨v5, hv⟩ : ∃ v, v = w5.alloc (.cells #[.bool sB, .slice ab LB.length cb] 25) := ⟨_, rfl⟩
  obtain ⟨B1, hB⟩ : ∃ b, b = w5.heap.size := ⟨_, rfl⟩
  have K1x : Box2 v5 B1 25 (.bool sB) (.slice ab LB.length cb) := by rw [hv, hB]; exact Box2.new _ _ _ _
  have r : Below w5.heap.size w5 v5 := by rw [hv]; exact (Below.refl _ _).alloc (Nat.le_refl _) _
  replace K0 := Lib.hid (K0.out.below r)
  replace RA := Lib.hid (RA.out.below r)
  replace RB := Lib.hid (RB.out.below r)
  replace b0 := Lib.hid (then_below b0.out r)
  have K1 := Lib.hid K1x
  rw [← hv, ← hB]
  clear hv hB r K1x
  go_at_call 10
  refine (KA.out.2.1 _ _ _ RA.out).mono ?_
  rintro e w6 ⟨rfl, r⟩
  replace K0 := Lib.hid (K0.out.below r)
  replace RA := Lib.hid (RA.out.below r)
  replace RB := Lib.hid (RB.out.below r)
  replace K1 := Lib.hid (K1.out.below r)
  replace b0 := Lib.hid (then_below b0.out r)
  clear r
  have K0a := K0.out.c0; have K0b := K0.out.c1
  go_wp2_with fail
  go_at_call 11
  refine (KA.out.2.2 _ _ _ RA.out).mono ?_
  rintro e w7 ⟨rfl, r⟩
  replace K0 := Lib.hid (K0.out.below r)
  replace RA := Lib.hid (RA.out.below r)
  replace RB := Lib.hid (RB.out.below r)
  replace K1 := Lib.hid (K1.out.below r)
  replace b0 := Lib.hid (then_below b0.out r)
  clear r
  clear K0a K0b
  have K0a := K0.out.c0; have K0b := K0.out.c1
  go_wp2_with fail
  go_at_call 11
  refine (KA.out.2.2 _ _ _ RA.out).mono ?_
  rintro e w8 ⟨rfl, r⟩
  replace K0 := Lib.hid (K0.out.below r)
  replace RA := Lib.hid (RA.out.below r)
  replace RB := Lib.hid (RB.out.below r)
  replace K1 := Lib.hid (K1.out.below r)
  replace b0 := Lib.hid (then_below b0.out r)
  clear r
  clear K0a K0b
  go_wp2_with fail
  go_at_call 9
  refine (KQ.out _).mono ?_
  rintro e w9 ⟨rfl, r⟩
  replace K0 := Lib.hid (K0.out.below r)
  replace RA := Lib.hid (RA.out.below r)
  replace RB := Lib.hid (RB.out.below r)
  replace K1 := Lib.hid (K1.out.below r)
  replace b0 := Lib.hid (then_below b0.out r)
  clear r
  have b1 := Lib.hid (then_below b0.out (show Below w9.heap.size w9 (w9.alloc (.cells #[.bool false, .slice none 0 0] 25)) from (Below.refl _ _).alloc (Nat.le_refl _) _))
  have nba := (Box2.new w9 25 (.bool false) (.slice none 0 0)).c0; have nbb := (Box2.new w9 25 (.bool false) (.slice none 0 0)).c1
  go_wp2_with fail
  clear nba nbb
  go_ret
  exact ⟨rfl, b1.out⟩

set_option maxRecDepth 100000 in
set_option maxHeartbeats 4000000 in
theorem iread_I_no4 {w : World} {n1 : Bool} {a1 : Option Addr} {c1 : Nat} {l1 : List Nat} {s tx : ByteArray} {z1 : Int} (hR : Reads w (.slice a1 l1.length c1) l1) (hl : l1.length ≤ 200) (hs : s.size ≤ 1048576) (KA : Hid (AKnow n1 l1 ⟨#[48]⟩ z1 false)) (hz : ¬ z1 < 0) {sB : Bool} {LB : List Nat} (KP : Hid (IYes ⟨#[48]⟩ sB LB)) (KQ : Hid (INo s 4)) :
    Calls Try.prog 3 #[.agg #[.bool n1, .slice a1 l1.length c1], .string s] w fun e w' => e = .returned (.bool true) ∧ Below w.heap.size w w' := by
  have hsz : ¬ 9223372036854775807 < 1 + s.size := by omega
  obtain ⟨u0, hu0⟩ : ∃ u0, u0 = w.alloc (.cells #[.bool n1, .slice a1 l1.length c1] 25) := ⟨_, rfl⟩
  have K0 := Lib.hid (show Box2 u0 w.heap.size 25 (.bool n1) (.slice a1 l1.length c1) by rw [hu0]; exact Box2.new w _ _ _)
  have b0 := Lib.hid (show Below w.heap.size w u0 by rw [hu0]; exact (Below.refl _ _).alloc (Nat.le_refl _) _)
  have RA := Lib.hid (hR.below b0.out)
  have hs0 := Lib.hid (show w.heap.size + 1 = u0.heap.size by rw [hu0]; simp)
  obtain ⟨B0, hB0⟩ : ∃ b, b = w.heap.size := ⟨_, rfl⟩
  rw [← hB0] at K0
  have hu0' := Lib.hid hu0
  have hB0' := Lib.hid hB0
  have HS9 := Lib.hid (show s.size < 9223372036854775808 by omega)
  have hG := Lib.hid (show false = [(n1, a1, l1.length, c1)].any (fun t => decide (200 < t.2.2.1)) by simp; omega)
  have hY := Lib.hid (show false = decide (1048576 < s.size) by simp; omega)
  clear hu0 hB0 hR
  go_enter Try.func3, Try.ntmps3
  go_wp2_with fail
  try rw [← hu0'.out]
  try rw [← hB0'.out]
  clear hu0' hs0 hB0'
  go_at_call 5
  refine (ialive_any _).mono ?_
  rintro e w1 ⟨rfl, r⟩
  replace K0 := Lib.hid (K0.out.below r)
  replace RA := Lib.hid (RA.out.below r)
  replace b0 := Lib.hid (then_below b0.out r)
  clear r
  have K0a := K0.out.c0; have K0b := K0.out.c1
  go_wp2_with fail
  go_at_call 6
  refine (igreat_lit _ [(n1, a1, l1.length, c1)] (vs := #[.bool n1, .slice a1 l1.length c1]) rfl (m := 1) rfl (by simp) false hG.out).mono ?_
  rintro e w2 ⟨rfl, r⟩
  replace K0 := Lib.hid (K0.out.below r)
  replace RA := Lib.hid (RA.out.below r)
  replace b0 := Lib.hid (then_below b0.out r)
  clear r
  clear K0a K0b
  go_wp2_with fail
  go_at_call 7
  refine (beyond_one _ s.size HS9.out false hY.out).mono ?_
  rintro e w3 ⟨rfl, r⟩
  replace K0 := Lib.hid (K0.out.below r)
  replace RA := Lib.hid (RA.out.below r)
  replace b0 := Lib.hid (then_below b0.out r)
  clear r
  have K0a := K0.out.c0; have K0b := K0.out.c1
  go_wp2_with fail
  go_at_call 8
  refine (KA.out.1 _ _ _ RA.out).mono ?_
  rintro e w4 ⟨rfl, r⟩
  replace K0 := Lib.hid (K0.out.below r)
  replace RA := Lib.hid (RA.out.below r)
  replace b0 := Lib.hid (then_below b0.out r)
  clear r
  clear K0a K0b
  go_wp2_with fail
  go_at_call 9
  refine (KP.out _).mono ?_
  rintro e w5 ⟨ab, cb, rfl, g, r⟩
  replace K0 := Lib.hid (K0.out.below r)
  replace RA := Lib.hid (RA.out.below r)
  replace b0 := Lib.hid (then_below b0.out r)
  have RB := Lib.hid g
  clear r g
  have K0a := (K0.out.alloc (.cells #[.bool sB, .slice ab LB.length cb] 25)).c0; have K0b := (K0.out.alloc (.cells #[.bool sB, .slice ab LB.length cb] 25)).c1
  go_wp2_with fail
  clear K0a K0b
  obtain ⟨v5, hv⟩ : ∃ v, v = w5.alloc (.cells #[.bool sB, .slice ab LB.length cb] 25) := ⟨_, rfl⟩
  obtain ⟨B1, hB⟩ : ∃ b, b = w5.heap.size := ⟨_, rfl⟩
  have K1x : Box2 v5 B1 25 (.bool sB) (.slice ab LB.length cb) := by rw [hv, hB]; exact Box2.new _ _ _ _
  have r : Below w5.heap.size w5 v5 := by rw [hv]; exact (Below.refl _ _).alloc (Nat.le_refl _) _
  replace K0 := Lib.hid (K0.out.below r)
  replace RA := Lib.hid (RA.out.below r)
  replace RB := Lib.hid (RB.out.below r)
  replace b0 := Lib.hid (then_below b0.out r)
  have K1 := Lib.hid K1x
  rw [← hv, ← hB]
  clear hv hB r K1x
  go_at_call 10
  refine (KA.out.2.1 _ _ _ RA.out).mono ?_
  rintro e w6 ⟨rfl, r⟩
  replace K0 := Lib.hid (K0.out.below r)
  replace RA := Lib.hid (RA.out.below r)
  replace RB := Lib.hid (RB.out.below r)
  replace K1 := Lib.hid (K1.out.below r)
  replace b0 := Lib.hid (then_below b0.out r)
  clear r
  have K0a := K0.out.c0; have K0b := K0.out.c1
  go_wp2_with fail
  go_at_call 11
  refine (KA.out.2.2 _ _ _ RA.out).mono ?_
  rintro e w7 ⟨rfl, r⟩
  replace K0 := Lib.hid (K0.out.below r)
  replace RA := Lib.hid (RA.out.below r)
  replace RB := Lib.hid (RB.out.below r)
  replace K1 := Lib.hid (K1.out.below r)
  replace b0 := Lib.hid (then_below b0.out r)
  clear r
  clear K0a K0b
  have K0a := K0.out.c0; have K0b := K0.out.c1
  go_wp2_with fail
  go_at_call 11
  refine (KA.out.2.2 _ _ _ RA.out).mono ?_
  rintro e w8 ⟨rfl, r⟩
  replace K0 := Lib.hid (K0.out.below r)
  replace RA := Lib.hid (RA.out.below r)
  replace RB := Lib.hid (RB.out.below r)
  replace K1 := Lib.hid (K1.out.below r)
  replace b0 := Lib.hid (then_below b0.out r)
  clear r
  clear K0a K0b
  go_wp2_with fail
  go_at_call 9
  refine (KQ.out _).mono ?_
  rintro e w9 ⟨rfl, r⟩
  replace K0 := Lib.hid (K0.out.below r)
  replace RA := Lib.hid (RA.out.below r)
  replace RB := Lib.hid (RB.out.below r)
  replace K1 := Lib.hid (K1.out.below r)
  replace b0 := Lib.hid (then_below b0.out r)
  clear r
  have b1 := Lib.hid (then_below b0.out (show Below w9.heap.size w9 (w9.alloc (.cells #[.bool false, .slice none 0 0] 25)) from (Below.refl _ _).alloc (Nat.le_refl _) _))
  have nba := (Box2.new w9 25 (.bool false) (.slice none 0 0)).c0; have nbb := (Box2.new w9 25 (.bool false) (.slice none 0 0)).c1
  go_wp2_with fail
  clear nba nbb
  go_ret
  exact ⟨rfl, b1.out⟩

set_option maxRecDepth 100000 in
set_option maxHeartbeats 4000000 in
theorem iread_I_np {w : World} {n1 : Bool} {a1 : Option Addr} {c1 : Nat} {l1 : List Nat} {s tx : ByteArray} {z1 : Int} (hR : Reads w (.slice a1 l1.length c1) l1) (hl : l1.length ≤ 200) (hs : s.size ≤ 1048576) (KA : Hid (AKnow n1 l1 ⟨#[48]⟩ z1 false)) (hz : ¬ z1 < 0) {sB : Bool} {LB : List Nat} (KP : Hid (IYes ⟨#[48]⟩ sB LB)) {sC : Bool} {LC : List Nat} {zC : Int} (KQ : Hid (IYes s sC LC)) (KC : Hid (AKnow sC LC s zC true)) (hzc : zC ≤ 0) (KD : Hid (INo (⟨#[45]⟩ ++ s) 4)) :
    Calls Try.prog 3 #[.agg #[.bool n1, .slice a1 l1.length c1], .string s] w fun e w' => e = .returned (.bool true) ∧ Below w.heap.size w w' := by
  have hsz : ¬ 9223372036854775807 < 1 + s.size := by omega
  have hz1 : decide ((0 : Int) < zC) = false := by simp; omega
  have hz2 : decide (zC ≤ 0) = true := by simp; omega
  obtain ⟨u0, hu0⟩ : ∃ u0, u0 = w.alloc (.cells #[.bool n1, .slice a1 l1.length c1] 25) := ⟨_, rfl⟩
  have K0 := Lib.hid (show Box2 u0 w.heap.size 25 (.bool n1) (.slice a1 l1.length c1) by rw [hu0]; exact Box2.new w _ _ _)
  have b0 := Lib.hid (show Below w.heap.size w u0 by rw [hu0]; exact (Below.refl _ _).alloc (Nat.le_refl _) _)
  have RA := Lib.hid (hR.below b0.out)
  have hs0 := Lib.hid (show w.heap.size + 1 = u0.heap.size by rw [hu0]; simp)
  obtain ⟨B0, hB0⟩ : ∃ b, b = w.heap.size := ⟨_, rfl⟩
  rw [← hB0] at K0
  have hu0' := Lib.hid hu0
  have hB0' := Lib.hid hB0
  have HS9 := Lib.hid (show s.size < 9223372036854775808 by omega)
  have hG := Lib.hid (show false = [(n1, a1, l1.length, c1)].any (fun t => decide (200 < t.2.2.1)) by simp; omega)
  have hY := Lib.hid (show false = decide (1048576 < s.size) by simp; omega)
  clear hu0 hB0 hR
  go_enter Try.func3, Try.ntmps3
  go_wp2_with fail
  try rw [← hu0'.out]
  try rw [← hB0'.out]
  clear hu0' hs0 hB0'
  go_at_call 5
  refine (ialive_any _).mono ?_
  rintro e w1 ⟨rfl, r⟩
  replace K0 := Lib.hid (K0.out.below r)
  replace RA := Lib.hid (RA.out.below r)
  replace b0 := Lib.hid (then_below b0.out r)
  clear r
  have K0a := K0.out.c0; have K0b := K0.out.c1
  go_wp2_with fail
  go_at_call 6
  refine (igreat_lit _ [(n1, a1, l1.length, c1)] (vs := #[.bool n1, .slice a1 l1.length c1]) rfl (m := 1) rfl (by simp) false hG.out).mono ?_
  rintro e w2 ⟨rfl, r⟩
  replace K0 := Lib.hid (K0.out.below r)
  replace RA := Lib.hid (RA.out.below r)
  replace b0 := Lib.hid (then_below b0.out r)
  clear r
  clear K0a K0b
  go_wp2_with fail
  go_at_call 7
  refine (beyond_one _ s.size HS9.out false hY.out).mono ?_
  rintro e w3 ⟨rfl, r⟩
  replace K0 := Lib.hid (K0.out.below r)
  replace RA := Lib.hid (RA.out.below r)
  replace b0 := Lib.hid (then_below b0.out r)
  clear r
  have K0a := K0.out.c0; have K0b := K0.out.c1
  go_wp2_with fail
  go_at_call 8
  refine (KA.out.1 _ _ _ RA.out).mono ?_
  rintro e w4 ⟨rfl, r⟩
  replace K0 := Lib.hid (K0.out.below r)
  replace RA := Lib.hid (RA.out.below r)
  replace b0 := Lib.hid (then_below b0.out r)
  clear r
  clear K0a K0b
  go_wp2_with fail
  go_at_call 9
  refine (KP.out _).mono ?_
  rintro e w5 ⟨ab, cb, rfl, g, r⟩
  replace K0 := Lib.hid (K0.out.below r)
  replace RA := Lib.hid (RA.out.below r)
  replace b0 := Lib.hid (then_below b0.out r)
  have RB := Lib.hid g
  clear r g
  have K0a := (K0.out.alloc (.cells #[.bool sB, .slice ab LB.length cb] 25)).c0; have K0b := (K0.out.alloc (.cells #[.bool sB, .slice ab LB.length cb] 25)).c1
  go_wp2_with fail
  clear K0a K0b
  obtain ⟨v5, hv⟩ : ∃ v, v = w5.alloc (.cells #[.bool sB, .slice ab LB.length cb] 25) := ⟨_, rfl⟩
  obtain ⟨B1, hB⟩ : ∃ b, b = w5.heap.size := ⟨_, rfl⟩
  have K1x : Box2 v5 B1 25 (.bool sB) (.slice ab LB.length cb) := by rw [hv, hB]; exact Box2.new _ _ _ _
  have r : Below w5.heap.size w5 v5 := by rw [hv]; exact (Below.refl _ _).alloc (Nat.le_refl _) _
  replace K0 := Lib.hid (K0.out.below r)
  replace RA := Lib.hid (RA.out.below r)
  replace RB := Lib.hid (RB.out.below r)
  replace b0 := Lib.hid (then_below b0.out r)
  have K1 := Lib.hid K1x
  rw [← hv, ← hB]
  clear hv hB r K1x
  go_at_call 10
  refine (KA.out.2.1 _ _ _ RA.out).mono ?_
  rintro e w6 ⟨rfl, r⟩
  replace K0 := Lib.hid (K0.out.below r)
  replace RA := Lib.hid (RA.out.below r)
  replace RB := Lib.hid (RB.out.below r)
  replace K1 := Lib.hid (K1.out.below r)
  replace b0 := Lib.hid (then_below b0.out r)
  clear r
  have K0a := K0.out.c0; have K0b := K0.out.c1
  go_wp2_with fail
  go_at_call 11
  refine (KA.out.2.2 _ _ _ RA.out).mono ?_
  rintro e w7 ⟨rfl, r⟩
  replace K0 := Lib.hid (K0.out.below r)
  replace RA := Lib.hid (RA.out.below r)
  replace RB := Lib.hid (RB.out.below r)
  replace K1 := Lib.hid (K1.out.below r)
  replace b0 := Lib.hid (then_below b0.out r)
  clear r
  clear K0a K0b
  have K0a := K0.out.c0; have K0b := K0.out.c1
  go_wp2_with fail
  go_at_call 11
  refine (KA.out.2.2 _ _ _ RA.out).mono ?_
  rintro e w8 ⟨rfl, r⟩
  replace K0 := Lib.hid (K0.out.below r)
  replace RA := Lib.hid (RA.out.below r)
  replace RB := Lib.hid (RB.out.below r)
  replace K1 := Lib.hid (K1.out.below r)
  replace b0 := Lib.hid (then_below b0.out r)
  clear r
  clear K0a K0b
  go_wp2_with fail
  go_at_call 9
  refine (KQ.out _).mono ?_
  rintro e w9 ⟨ac, cc, rfl, g, r⟩
  replace K0 := Lib.hid (K0.out.below r)
  replace RA := Lib.hid (RA.out.below r)
  replace RB := Lib.hid (RB.out.below r)
  replace K1 := Lib.hid (K1.out.below r)
  replace b0 := Lib.hid (then_below b0.out r)
  have RC := Lib.hid g
  clear r g
  go_wp2_with fail
  obtain ⟨v9, hv⟩ : ∃ v, v = w9.alloc (.cells #[.bool sC, .slice ac LC.length cc] 25) := ⟨_, rfl⟩
  obtain ⟨B2, hB⟩ : ∃ b, b = w9.heap.size := ⟨_, rfl⟩
  have K2x : Box2 v9 B2 25 (.bool sC) (.slice ac LC.length cc) := by rw [hv, hB]; exact Box2.new _ _ _ _
  have r : Below w9.heap.size w9 v9 := by rw [hv]; exact (Below.refl _ _).alloc (Nat.le_refl _) _
  replace K0 := Lib.hid (K0.out.below r)
  replace RA := Lib.hid (RA.out.below r)
  replace RB := Lib.hid (RB.out.below r)
  replace K1 := Lib.hid (K1.out.below r)
  replace RC := Lib.hid (RC.out.below r)
  replace b0 := Lib.hid (then_below b0.out r)
  have K2 := Lib.hid K2x
  rw [← hv, ← hB]
  clear hv hB r K2x
  go_at_call 9
  refine (KD.out _).mono ?_
  rintro e w10 ⟨rfl, r⟩
  replace K0 := Lib.hid (K0.out.below r)
  replace RA := Lib.hid (RA.out.below r)
  replace RB := Lib.hid (RB.out.below r)
  replace K1 := Lib.hid (K1.out.below r)
  replace RC := Lib.hid (RC.out.below r)
  replace K2 := Lib.hid (K2.out.below r)
  replace b0 := Lib.hid (then_below b0.out r)
  clear r
  have K2a := (K2.out.alloc (.cells #[.bool false, .slice none 0 0] 25)).c0; have K2b := (K2.out.alloc (.cells #[.bool false, .slice none 0 0] 25)).c1
  go_wp2_with fail
  clear K2a K2b
  obtain ⟨v10, hv⟩ : ∃ v, v = w10.alloc (.cells #[.bool false, .slice none 0 0] 25) := ⟨_, rfl⟩
  obtain ⟨B3, hB⟩ : ∃ b, b = w10.heap.size := ⟨_, rfl⟩
  have K3x : Box2 v10 B3 25 (.bool false) (.slice none 0 0) := by rw [hv, hB]; exact Box2.new _ _ _ _
  have r : Below w10.heap.size w10 v10 := by rw [hv]; exact (Below.refl _ _).alloc (Nat.le_refl _) _
  replace K0 := Lib.hid (K0.out.below r)
  replace RA := Lib.hid (RA.out.below r)
  replace RB := Lib.hid (RB.out.below r)
  replace K1 := Lib.hid (K1.out.below r)
  replace RC := Lib.hid (RC.out.below r)
  replace K2 := Lib.hid (K2.out.below r)
  replace b0 := Lib.hid (then_below b0.out r)
  have K3 := Lib.hid K3x
  rw [← hv, ← hB]
  clear hv hB r K3x
  go_at_call 11
  refine (KC.out.2.2 _ _ _ RC.out).mono ?_
  rintro e w11 ⟨rfl, r⟩
  replace K0 := Lib.hid (K0.out.below r)
  replace RA := Lib.hid (RA.out.below r)
  replace RB := Lib.hid (RB.out.below r)
  replace K1 := Lib.hid (K1.out.below r)
  replace RC := Lib.hid (RC.out.below r)
  replace K2 := Lib.hid (K2.out.below r)
  replace K3 := Lib.hid (K3.out.below r)
  replace b0 := Lib.hid (then_below b0.out r)
  clear r
  have K2a := K2.out.c0; have K2b := K2.out.c1
  go_wp2_with fail
  go_at_call 8
  refine (KC.out.1 _ _ _ RC.out).mono ?_
  rintro e w12 ⟨rfl, r⟩
  replace K0 := Lib.hid (K0.out.below r)
  replace RA := Lib.hid (RA.out.below r)
  replace RB := Lib.hid (RB.out.below r)
  replace K1 := Lib.hid (K1.out.below r)
  replace RC := Lib.hid (RC.out.below r)
  replace K2 := Lib.hid (K2.out.below r)
  replace K3 := Lib.hid (K3.out.below r)
  replace b0 := Lib.hid (then_below b0.out r)
  clear r
  clear K2a K2b
  go_wp2_with fail
  have r : Below w12.heap.size w12 w12.drew := ⟨rfl, rfl, rfl, Nat.le_refl _, fun _ _ => rfl⟩
  replace K0 := Lib.hid (K0.out.below r)
  replace RA := Lib.hid (RA.out.below r)
  replace RB := Lib.hid (RB.out.below r)
  replace K1 := Lib.hid (K1.out.below r)
  replace RC := Lib.hid (RC.out.below r)
  replace K2 := Lib.hid (K2.out.below r)
  replace K3 := Lib.hid (K3.out.below r)
  replace b0 := Lib.hid (then_below b0.out r)
  clear r
  have hS0 : (fun w' => w'.cell? ⟨B2, 0, none⟩ = some (.bool sC) ∧ w'.cell? ⟨B2, 1, none⟩ = some (.slice ac LC.length cc)) w12.drew := ⟨K2.out.c0, K2.out.c1⟩
  refine wp_region_held (S := fun w' => w'.cell? ⟨B2, 0, none⟩ = some (.bool sC) ∧ w'.cell? ⟨B2, 1, none⟩ = some (.slice ac LC.length cc)) (by kernel_rfl) ?_
  change wpAnyH _ _ _ _ _ _ _ _ w12.drew
  refine wpAnyH_take (i := 0) (oi := ⟨_, _, _, _, _, _⟩) (v := .agg #[.bool sC, .slice ac LC.length cc]) rfl (by kernel_rfl) (by kernel_rfl) (by kernel_rfl) (fun _ _ _ h => h) (Or.inl ⟨by rfl, fun W3 hS => by obtain ⟨hS1, hS2⟩ := hS; go_simp⟩) hS0 ?_
  try simp only [Act.put, List.setIfInBounds_toArray, List.set_cons_zero, List.set_cons_succ]
  clear hS0
  refine wpAnyH_all (rs := [1]) (by kernel_rfl) (by simp) ?_
  intro i hi
  obtain rfl : i = 1 := by simpa using hi
  refine wpOp_intro rfl (fun Kop1 hK => ?_)
  clear hi
  go_simp
  refine (KC.out.2.1 _ _ _ RC.out).mono ?_
  rintro e x1 ⟨rfl, r⟩
  replace K0 := Lib.hid (K0.out.below r)
  replace RA := Lib.hid (RA.out.below r)
  replace RB := Lib.hid (RB.out.below r)
  replace K1 := Lib.hid (K1.out.below r)
  replace RC := Lib.hid (RC.out.below r)
  replace K2 := Lib.hid (K2.out.below r)
  replace K3 := Lib.hid (K3.out.below r)
  replace b0 := Lib.hid (then_below b0.out r)
  clear r
  have hS0 : (fun w' => w'.cell? ⟨B2, 0, none⟩ = some (.bool sC) ∧ w'.cell? ⟨B2, 1, none⟩ = some (.slice ac LC.length cc)) x1 := ⟨K2.out.c0, K2.out.c1⟩
  refine hK _ _ ⟨hS0, ?_⟩
  clear hK Kop1
  refine wpAnyH_take (i := 2) (oi := ⟨_, _, _, _, _, _⟩) (v := .bool false) rfl (by kernel_rfl) (by kernel_rfl) (by kernel_rfl) (fun _ _ _ h => h) (Or.inl ⟨by rfl, fun W3 hS => by obtain ⟨hS1, hS2⟩ := hS; go_simp⟩) hS0 ?_
  try simp only [Act.put, List.setIfInBounds_toArray, List.set_cons_zero, List.set_cons_succ]
  refine wpAnyH_take (i := 3) (oi := ⟨_, _, _, _, _, _⟩) (v := .bool false) rfl (by kernel_rfl) (by kernel_rfl) (by kernel_rfl) (fun _ _ _ h => h) (Or.inl ⟨by rfl, fun W3 hS => by obtain ⟨hS1, hS2⟩ := hS; go_simp⟩) hS0 ?_
  try simp only [Act.put, List.setIfInBounds_toArray, List.set_cons_zero, List.set_cons_succ]
  refine wpAnyH_take (i := 4) (oi := ⟨_, _, _, _, _, _⟩) (v := undef) rfl (by kernel_rfl) (by kernel_rfl) (by kernel_rfl) (fun _ _ _ h => h) (Or.inr ⟨by rfl, rfl⟩) hS0 ?_
  try simp only [Act.put, List.setIfInBounds_toArray, List.set_cons_zero, List.set_cons_succ]
  refine wpAnyH_take (i := 5) (oi := ⟨_, _, _, _, _, _⟩) (v := undef) rfl (by kernel_rfl) (by kernel_rfl) (by kernel_rfl) (fun _ _ _ h => h) (Or.inr ⟨by rfl, rfl⟩) hS0 ?_
  try simp only [Act.put, List.setIfInBounds_toArray, List.set_cons_zero, List.set_cons_succ]
  refine wpAnyH_take (i := 6) (oi := ⟨_, _, _, _, _, _⟩) (v := .bool false) rfl (by kernel_rfl) (by kernel_rfl) (by kernel_rfl) (fun _ _ _ h => h) (Or.inl ⟨by rfl, fun W3 hS => by obtain ⟨hS1, hS2⟩ := hS; go_simp⟩) hS0 ?_
  try simp only [Act.put, List.setIfInBounds_toArray, List.set_cons_zero, List.set_cons_succ]
  refine wpAnyH_take (i := 7) (oi := ⟨_, _, _, _, _, _⟩) (v := .bool false) rfl (by kernel_rfl) (by kernel_rfl) (by kernel_rfl) (fun _ _ _ h => h) (Or.inl ⟨by rfl, fun W3 hS => by obtain ⟨hS1, hS2⟩ := hS; go_simp⟩) hS0 ?_
  try simp only [Act.put, List.setIfInBounds_toArray, List.set_cons_zero, List.set_cons_succ]
  refine wpAnyH_take (i := 8) (oi := ⟨_, _, _, _, _, _⟩) (v := undef) rfl (by kernel_rfl) (by kernel_rfl) (by kernel_rfl) (fun _ _ _ h => h) (Or.inr ⟨by rfl, rfl⟩) hS0 ?_
  try simp only [Act.put, List.setIfInBounds_toArray, List.set_cons_zero, List.set_cons_succ]
  refine wpAnyH_take (i := 9) (oi := ⟨_, _, _, _, _, _⟩) (v := undef) rfl (by kernel_rfl) (by kernel_rfl) (by kernel_rfl) (fun _ _ _ h => h) (Or.inr ⟨by rfl, rfl⟩) hS0 ?_
  try simp only [Act.put, List.setIfInBounds_toArray, List.set_cons_zero, List.set_cons_succ]
  refine wpAnyH_take (i := 10) (oi := ⟨_, _, _, _, _, _⟩) (v := undef) rfl (by kernel_rfl) (by kernel_rfl) (by kernel_rfl) (fun _ _ _ h => h) (Or.inr ⟨by rfl, rfl⟩) hS0 ?_
  try simp only [Act.put, List.setIfInBounds_toArray, List.set_cons_zero, List.set_cons_succ]
  refine wpAnyH_take (i := 11) (oi := ⟨_, _, _, _, _, _⟩) (v := undef) rfl (by kernel_rfl) (by kernel_rfl) (by kernel_rfl) (fun _ _ _ h => h) (Or.inr ⟨by rfl, rfl⟩) hS0 ?_
  try simp only [Act.put, List.setIfInBounds_toArray, List.set_cons_zero, List.set_cons_succ]
  refine wpAnyH_take (i := 12) (oi := ⟨_, _, _, _, _, _⟩) (v := .bool false) rfl (by kernel_rfl) (by kernel_rfl) (by kernel_rfl) (fun _ _ _ h => h) (Or.inl ⟨by rfl, fun W3 hS => by obtain ⟨hS1, hS2⟩ := hS; go_simp⟩) hS0 ?_
  try simp only [Act.put, List.setIfInBounds_toArray, List.set_cons_zero, List.set_cons_succ]
  refine wpAnyH_take (i := 13) (oi := ⟨_, _, _, _, _, _⟩) (v := .bool false) rfl (by kernel_rfl) (by kernel_rfl) (by kernel_rfl) (fun _ _ _ h => h) (Or.inl ⟨by rfl, fun W3 hS => by obtain ⟨hS1, hS2⟩ := hS; go_simp⟩) hS0 ?_
  try simp only [Act.put, List.setIfInBounds_toArray, List.set_cons_zero, List.set_cons_succ]
  refine wpAnyH_take (i := 14) (oi := ⟨_, _, _, _, _, _⟩) (v := .agg #[.bool sC, .slice ac LC.length cc]) rfl (by kernel_rfl) (by kernel_rfl) (by kernel_rfl) (fun _ _ _ h => h) (Or.inl ⟨by rfl, fun W3 hS => by obtain ⟨hS1, hS2⟩ := hS; go_simp⟩) hS0 ?_
  try simp only [Act.put, List.setIfInBounds_toArray, List.set_cons_zero, List.set_cons_succ]
  clear hS0
  refine wpAnyH_all (rs := [15]) (by kernel_rfl) (by simp) ?_
  intro i hi
  obtain rfl : i = 15 := by simpa using hi
  refine wpOp_intro rfl (fun Kop15 hK => ?_)
  clear hi
  go_simp
  refine (KC.out.2.1 _ _ _ RC.out).mono ?_
  rintro e x2 ⟨rfl, r⟩
  replace K0 := Lib.hid (K0.out.below r)
  replace RA := Lib.hid (RA.out.below r)
  replace RB := Lib.hid (RB.out.below r)
  replace K1 := Lib.hid (K1.out.below r)
  replace RC := Lib.hid (RC.out.below r)
  replace K2 := Lib.hid (K2.out.below r)
  replace K3 := Lib.hid (K3.out.below r)
  replace b0 := Lib.hid (then_below b0.out r)
  clear r
  have hS0 : (fun w' => w'.cell? ⟨B2, 0, none⟩ = some (.bool sC) ∧ w'.cell? ⟨B2, 1, none⟩ = some (.slice ac LC.length cc)) x2 := ⟨K2.out.c0, K2.out.c1⟩
  refine hK _ _ ⟨hS0, ?_⟩
  clear hK Kop15
  refine wpAnyH_take (i := 16) (oi := ⟨_, _, _, _, _, _⟩) (v := .bool true) rfl (by kernel_rfl) (by kernel_rfl) (by kernel_rfl) (fun _ _ _ h => h) (Or.inl ⟨by rfl, fun W3 hS => by obtain ⟨hS1, hS2⟩ := hS; go_simp⟩) hS0 ?_
  try simp only [Act.put, List.setIfInBounds_toArray, List.set_cons_zero, List.set_cons_succ]
  refine wpAnyH_take (i := 17) (oi := ⟨_, _, _, _, _, _⟩) (v := .bool true) rfl (by kernel_rfl) (by kernel_rfl) (by kernel_rfl) (fun _ _ _ h => h) (Or.inl ⟨by rfl, fun W3 hS => by obtain ⟨hS1, hS2⟩ := hS; go_simp⟩) hS0 ?_
  try simp only [Act.put, List.setIfInBounds_toArray, List.set_cons_zero, List.set_cons_succ]
  refine wpAnyH_take (i := 18) (oi := ⟨_, _, _, _, _, _⟩) (v := .int .i64 4) rfl (by kernel_rfl) (by kernel_rfl) (by kernel_rfl) (fun _ _ _ h => h) (Or.inl ⟨by rfl, fun W3 hS => by obtain ⟨hS1, hS2⟩ := hS; go_simp⟩) hS0 ?_
  try simp only [Act.put, List.setIfInBounds_toArray, List.set_cons_zero, List.set_cons_succ]
  refine wpAnyH_take (i := 19) (oi := ⟨_, _, _, _, _, _⟩) (v := .bool true) rfl (by kernel_rfl) (by kernel_rfl) (by kernel_rfl) (fun _ _ _ h => h) (Or.inl ⟨by rfl, fun W3 hS => by obtain ⟨hS1, hS2⟩ := hS; go_simp⟩) hS0 ?_
  try simp only [Act.put, List.setIfInBounds_toArray, List.set_cons_zero, List.set_cons_succ]
  refine wpAnyH_take (i := 20) (oi := ⟨_, _, _, _, _, _⟩) (v := .bool true) rfl (by kernel_rfl) (by kernel_rfl) (by kernel_rfl) (fun _ _ _ h => h) (Or.inl ⟨by rfl, fun W3 hS => by obtain ⟨hS1, hS2⟩ := hS; go_simp⟩) hS0 ?_
  try simp only [Act.put, List.setIfInBounds_toArray, List.set_cons_zero, List.set_cons_succ]
  refine wpAnyH_take (i := 21) (oi := ⟨_, _, _, _, _, _⟩) (v := .bool true) rfl (by kernel_rfl) (by kernel_rfl) (by kernel_rfl) (fun _ _ _ h => h) (Or.inl ⟨by rfl, fun W3 hS => by obtain ⟨hS1, hS2⟩ := hS; go_simp⟩) hS0 ?_
  try simp only [Act.put, List.setIfInBounds_toArray, List.set_cons_zero, List.set_cons_succ]
  refine wpAnyH_take (i := 22) (oi := ⟨_, _, _, _, _, _⟩) (v := .bool true) rfl (by kernel_rfl) (by kernel_rfl) (by kernel_rfl) (fun _ _ _ h => h) (Or.inl ⟨by rfl, fun W3 hS => by obtain ⟨hS1, hS2⟩ := hS; go_simp⟩) hS0 ?_
  try simp only [Act.put, List.setIfInBounds_toArray, List.set_cons_zero, List.set_cons_succ]
  clear hS0
  refine wpAnyH_done (by kernel_rfl) ?_ _
  go_wp2_with fail
  go_ret
  exact ⟨rfl, b0.out⟩

set_option maxRecDepth 100000 in
set_option maxHeartbeats 4000000 in
theorem iread_I_pos {w : World} {n1 : Bool} {a1 : Option Addr} {c1 : Nat} {l1 : List Nat} {s tx : ByteArray} {z1 : Int} (hR : Reads w (.slice a1 l1.length c1) l1) (hl : l1.length ≤ 200) (hs : s.size ≤ 1048576) (KA : Hid (AKnow n1 l1 ⟨#[48]⟩ z1 false)) (hz : ¬ z1 < 0) {sB : Bool} {LB : List Nat} (KP : Hid (IYes ⟨#[48]⟩ sB LB)) {sC : Bool} {LC : List Nat} {zC : Int} (KQ : Hid (IYes s sC LC)) (KC : Hid (AKnow sC LC s zC true)) (hzc : 0 < zC) {sD sN : Bool} {LD LN : List Nat} (KD : Hid (IYes (⟨#[45]⟩ ++ s) sD LD)) (KN : Hid (ANeg sC LC sN LN)) (KM2 : Hid (ASame sD LD sN LN)) :
    Calls Try.prog 3 #[.agg #[.bool n1, .slice a1 l1.length c1], .string s] w fun e w' => e = .returned (.bool true) ∧ Below w.heap.size w w' := by
  have hsz : ¬ 9223372036854775807 < 1 + s.size := by omega
  have hz1 : decide ((0 : Int) < zC) = true := by simp; omega
  have hz2 : decide (zC ≤ 0) = false := by simp; omega
  obtain ⟨u0, hu0⟩ : ∃ u0, u0 = w.alloc (.cells #[.bool n1, .slice a1 l1.length c1] 25) := ⟨_, rfl⟩
  have K0 := Lib.hid (show Box2 u0 w.heap.size 25 (.bool n1) (.slice a1 l1.length c1) by rw [hu0]; exact Box2.new w _ _ _)
  have b0 := Lib.hid (show Below w.heap.size w u0 by rw [hu0]; exact (Below.refl _ _).alloc (Nat.le_refl _) _)
  have RA := Lib.hid (hR.below b0.out)
  have hs0 := Lib.hid (show w.heap.size + 1 = u0.heap.size by rw [hu0]; simp)
  obtain ⟨B0, hB0⟩ : ∃ b, b = w.heap.size := ⟨_, rfl⟩
  rw [← hB0] at K0
  have hu0' := Lib.hid hu0
  have hB0' := Lib.hid hB0
  have HS9 := Lib.hid (show s.size < 9223372036854775808 by omega)
  have hG := Lib.hid (show false = [(n1, a1, l1.length, c1)].any (fun t => decide (200 < t.2.2.1)) by simp; omega)
  have hY := Lib.hid (show false = decide (1048576 < s.size) by simp; omega)
  clear hu0 hB0 hR
  go_enter Try.func3, Try.ntmps3
  go_wp2_with fail
  try rw [← hu0'.out]
  try rw [← hB0'.out]
  clear hu0' hs0 hB0'
  go_at_call 5
  refine (ialive_any _).mono ?_
  rintro e w1 ⟨rfl, r⟩
  replace K0 := Lib.hid (K0.out.below r)
  replace RA := Lib.hid (RA.out.below r)
  replace b0 := Lib.hid (then_below b0.out r)
  clear r
  have K0a := K0.out.c0; have K0b := K0.out.c1
  go_wp2_with fail
  go_at_call 6
  refine (igreat_lit _ [(n1, a1, l1.length, c1)] (vs := #[.bool n1, .slice a1 l1.length c1]) rfl (m := 1) rfl (by simp) false hG.out).mono ?_
  rintro e w2 ⟨rfl, r⟩
  replace K0 := Lib.hid (K0.out.below r)
  replace RA := Lib.hid (RA.out.below r)
  replace b0 := Lib.hid (then_below b0.out r)
  clear r
  clear K0a K0b
  go_wp2_with fail
  go_at_call 7
  refine (beyond_one _ s.size HS9.out false hY.out).mono ?_
  rintro e w3 ⟨rfl, r⟩
  replace K0 := Lib.hid (K0.out.below r)
  replace RA := Lib.hid (RA.out.below r)
  replace b0 := Lib.hid (then_below b0.out r)
  clear r
  have K0a := K0.out.c0; have K0b := K0.out.c1
  go_wp2_with fail
  go_at_call 8
  refine (KA.out.1 _ _ _ RA.out).mono ?_
  rintro e w4 ⟨rfl, r⟩
  replace K0 := Lib.hid (K0.out.below r)
  replace RA := Lib.hid (RA.out.below r)
  replace b0 := Lib.hid (then_below b0.out r)
  clear r
  clear K0a K0b
  go_wp2_with fail
  go_at_call 9
  refine (KP.out _).mono ?_
  rintro e w5 ⟨ab, cb, rfl, g, r⟩
  replace K0 := Lib.hid (K0.out.below r)
  replace RA := Lib.hid (RA.out.below r)
  replace b0 := Lib.hid (then_below b0.out r)
  have RB := Lib.hid g
  clear r g
  have K0a := (K0.out.alloc (.cells #[.bool sB, .slice ab LB.length cb] 25)).c0; have K0b := (K0.out.alloc (.cells #[.bool sB, .slice ab LB.length cb] 25)).c1
  go_wp2_with fail
  clear K0a K0b
  obtain ⟨v5, hv⟩ : ∃ v, v = w5.alloc (.cells #[.bool sB, .slice ab LB.length cb] 25) := ⟨_, rfl⟩
  obtain ⟨B1, hB⟩ : ∃ b, b = w5.heap.size := ⟨_, rfl⟩
  have K1x : Box2 v5 B1 25 (.bool sB) (.slice ab LB.length cb) := by rw [hv, hB]; exact Box2.new _ _ _ _
  have r : Below w5.heap.size w5 v5 := by rw [hv]; exact (Below.refl _ _).alloc (Nat.le_refl _) _
  replace K0 := Lib.hid (K0.out.below r)
  replace RA := Lib.hid (RA.out.below r)
  replace RB := Lib.hid (RB.out.below r)
  replace b0 := Lib.hid (then_below b0.out r)
  have K1 := Lib.hid K1x
  rw [← hv, ← hB]
  clear hv hB r K1x
  go_at_call 10
  refine (KA.out.2.1 _ _ _ RA.out).mono ?_
  rintro e w6 ⟨rfl, r⟩
  replace K0 := Lib.hid (K0.out.below r)
  replace RA := Lib.hid (RA.out.below r)
  replace RB := Lib.hid (RB.out.below r)
  replace K1 := Lib.hid (K1.out.below r)
  replace b0 := Lib.hid (then_below b0.out r)
  clear r
  have K0a := K0.out.c0; have K0b := K0.out.c1
  go_wp2_with fail
  go_at_call 11
  refine (KA.out.2.2 _ _ _ RA.out).mono ?_
  rintro e w7 ⟨rfl, r⟩
  replace K0 := Lib.hid (K0.out.below r)
  replace RA := Lib.hid (RA.out.below r)
  replace RB := Lib.hid (RB.out.below r)
  replace K1 := Lib.hid (K1.out.below r)
  replace b0 := Lib.hid (then_below b0.out r)
  clear r
  clear K0a K0b
  have K0a := K0.out.c0; have K0b := K0.out.c1
  go_wp2_with fail
  go_at_call 11
  refine (KA.out.2.2 _ _ _ RA.out).mono ?_
  rintro e w8 ⟨rfl, r⟩
  replace K0 := Lib.hid (K0.out.below r)
  replace RA := Lib.hid (RA.out.below r)
  replace RB := Lib.hid (RB.out.below r)
  replace K1 := Lib.hid (K1.out.below r)
  replace b0 := Lib.hid (then_below b0.out r)
  clear r
  clear K0a K0b
  go_wp2_with fail
  go_at_call 9
  refine (KQ.out _).mono ?_
  rintro e w9 ⟨ac, cc, rfl, g, r⟩
  replace K0 := Lib.hid (K0.out.below r)
  replace RA := Lib.hid (RA.out.below r)
  replace RB := Lib.hid (RB.out.below r)
  replace K1 := Lib.hid (K1.out.below r)
  replace b0 := Lib.hid (then_below b0.out r)
  have RC := Lib.hid g
  clear r g
  go_wp2_with fail
  obtain ⟨v9, hv⟩ : ∃ v, v = w9.alloc (.cells #[.bool sC, .slice ac LC.length cc] 25) := ⟨_, rfl⟩
  obtain ⟨B2, hB⟩ : ∃ b, b = w9.heap.size := ⟨_, rfl⟩
  have K2x : Box2 v9 B2 25 (.bool sC) (.slice ac LC.length cc) := by rw [hv, hB]; exact Box2.new _ _ _ _
  have r : Below w9.heap.size w9 v9 := by rw [hv]; exact (Below.refl _ _).alloc (Nat.le_refl _) _
  replace K0 := Lib.hid (K0.out.below r)
  replace RA := Lib.hid (RA.out.below r)
  replace RB := Lib.hid (RB.out.below r)
  replace K1 := Lib.hid (K1.out.below r)
  replace RC := Lib.hid (RC.out.below r)
  replace b0 := Lib.hid (then_below b0.out r)
  have K2 := Lib.hid K2x
  rw [← hv, ← hB]
  clear hv hB r K2x
  go_at_call 9
  refine (KD.out _).mono ?_
  rintro e w10 ⟨ad, cd, rfl, g, r⟩
  replace K0 := Lib.hid (K0.out.below r)
  replace RA := Lib.hid (RA.out.below r)
  replace RB := Lib.hid (RB.out.below r)
  replace K1 := Lib.hid (K1.out.below r)
  replace RC := Lib.hid (RC.out.below r)
  replace K2 := Lib.hid (K2.out.below r)
  replace b0 := Lib.hid (then_below b0.out r)
  have RD := Lib.hid g
  clear r g
  have K2a := (K2.out.alloc (.cells #[.bool sD, .slice ad LD.length cd] 25)).c0; have K2b := (K2.out.alloc (.cells #[.bool sD, .slice ad LD.length cd] 25)).c1
  go_wp2_with fail
  clear K2a K2b
  obtain ⟨v10, hv⟩ : ∃ v, v = w10.alloc (.cells #[.bool sD, .slice ad LD.length cd] 25) := ⟨_, rfl⟩
  obtain ⟨B3, hB⟩ : ∃ b, b = w10.heap.size := ⟨_, rfl⟩
  have K3x : Box2 v10 B3 25 (.bool sD) (.slice ad LD.length cd) := by rw [hv, hB]; exact Box2.new _ _ _ _
  have r : Below w10.heap.size w10 v10 := by rw [hv]; exact (Below.refl _ _).alloc (Nat.le_refl _) _
  replace K0 := Lib.hid (K0.out.below r)
  replace RA := Lib.hid (RA.out.below r)
  replace RB := Lib.hid (RB.out.below r)
  replace K1 := Lib.hid (K1.out.below r)
  replace RC := Lib.hid (RC.out.below r)
  replace K2 := Lib.hid (K2.out.below r)
  replace RD := Lib.hid (RD.out.below r)
  replace b0 := Lib.hid (then_below b0.out r)
  have K3 := Lib.hid K3x
  rw [← hv, ← hB]
  clear hv hB r K3x
  go_at_call 11
  refine (KC.out.2.2 _ _ _ RC.out).mono ?_
  rintro e w11 ⟨rfl, r⟩
  replace K0 := Lib.hid (K0.out.below r)
  replace RA := Lib.hid (RA.out.below r)
  replace RB := Lib.hid (RB.out.below r)
  replace K1 := Lib.hid (K1.out.below r)
  replace RC := Lib.hid (RC.out.below r)
  replace K2 := Lib.hid (K2.out.below r)
  replace RD := Lib.hid (RD.out.below r)
  replace K3 := Lib.hid (K3.out.below r)
  replace b0 := Lib.hid (then_below b0.out r)
  clear r
  have K2a := K2.out.c0; have K2b := K2.out.c1
  go_wp2_with fail
  go_at_call 8
  refine (KC.out.1 _ _ _ RC.out).mono ?_
  rintro e w12 ⟨rfl, r⟩
  replace K0 := Lib.hid (K0.out.below r)
  replace RA := Lib.hid (RA.out.below r)
  replace RB := Lib.hid (RB.out.below r)
  replace K1 := Lib.hid (K1.out.below r)
  replace RC := Lib.hid (RC.out.below r)
  replace K2 := Lib.hid (K2.out.below r)
  replace RD := Lib.hid (RD.out.below r)
  replace K3 := Lib.hid (K3.out.below r)
  replace b0 := Lib.hid (then_below b0.out r)
  clear r
  clear K2a K2b
  go_wp2_with fail
  have r : Below w12.heap.size w12 w12.drew := ⟨rfl, rfl, rfl, Nat.le_refl _, fun _ _ => rfl⟩
  replace K0 := Lib.hid (K0.out.below r)
  replace RA := Lib.hid (RA.out.below r)
  replace RB := Lib.hid (RB.out.below r)
  replace K1 := Lib.hid (K1.out.below r)
  replace RC := Lib.hid (RC.out.below r)
  replace K2 := Lib.hid (K2.out.below r)
  replace RD := Lib.hid (RD.out.below r)
  replace K3 := Lib.hid (K3.out.below r)
  replace b0 := Lib.hid (then_below b0.out r)
  clear r
  have hS0 : (fun w' => w'.cell? ⟨B2, 0, none⟩ = some (.bool sC) ∧ w'.cell? ⟨B2, 1, none⟩ = some (.slice ac LC.length cc) ∧ w'.cell? ⟨B3, 0, none⟩ = some (.bool sD) ∧ w'.cell? ⟨B3, 1, none⟩ = some (.slice ad LD.length cd)) w12.drew := ⟨K2.out.c0, K2.out.c1, K3.out.c0, K3.out.c1⟩
  refine wp_region_held (S := fun w' => w'.cell? ⟨B2, 0, none⟩ = some (.bool sC) ∧ w'.cell? ⟨B2, 1, none⟩ = some (.slice ac LC.length cc) ∧ w'.cell? ⟨B3, 0, none⟩ = some (.bool sD) ∧ w'.cell? ⟨B3, 1, none⟩ = some (.slice ad LD.length cd)) (by kernel_rfl) ?_
  change wpAnyH _ _ _ _ _ _ _ _ w12.drew
  refine wpAnyH_take (i := 0) (oi := ⟨_, _, _, _, _, _⟩) (v := .agg #[.bool sC, .slice ac LC.length cc]) rfl (by kernel_rfl) (by kernel_rfl) (by kernel_rfl) (fun _ _ _ h => h) (Or.inl ⟨by rfl, fun W3 hS => by obtain ⟨hS1, hS2, hS3, hS4⟩ := hS; go_simp⟩) hS0 ?_
  try simp only [Act.put, List.setIfInBounds_toArray, List.set_cons_zero, List.set_cons_succ]
  clear hS0
  refine wpAnyH_all (rs := [1]) (by kernel_rfl) (by simp) ?_
  intro i hi
  obtain rfl : i = 1 := by simpa using hi
  refine wpOp_intro rfl (fun Kop1 hK => ?_)
  clear hi
  go_simp
  refine (KC.out.2.1 _ _ _ RC.out).mono ?_
  rintro e x1 ⟨rfl, r⟩
  replace K0 := Lib.hid (K0.out.below r)
  replace RA := Lib.hid (RA.out.below r)
  replace RB := Lib.hid (RB.out.below r)
  replace K1 := Lib.hid (K1.out.below r)
  replace RC := Lib.hid (RC.out.below r)
  replace K2 := Lib.hid (K2.out.below r)
  replace RD := Lib.hid (RD.out.below r)
  replace K3 := Lib.hid (K3.out.below r)
  replace b0 := Lib.hid (then_below b0.out r)
  clear r
  have hS0 : (fun w' => w'.cell? ⟨B2, 0, none⟩ = some (.bool sC) ∧ w'.cell? ⟨B2, 1, none⟩ = some (.slice ac LC.length cc) ∧ w'.cell? ⟨B3, 0, none⟩ = some (.bool sD) ∧ w'.cell? ⟨B3, 1, none⟩ = some (.slice ad LD.length cd)) x1 := ⟨K2.out.c0, K2.out.c1, K3.out.c0, K3.out.c1⟩
  refine hK _ _ ⟨hS0, ?_⟩
  clear hK Kop1
  refine wpAnyH_take (i := 2) (oi := ⟨_, _, _, _, _, _⟩) (v := .bool true) rfl (by kernel_rfl) (by kernel_rfl) (by kernel_rfl) (fun _ _ _ h => h) (Or.inl ⟨by rfl, fun W3 hS => by obtain ⟨hS1, hS2, hS3, hS4⟩ := hS; go_simp⟩) hS0 ?_
  try simp only [Act.put, List.setIfInBounds_toArray, List.set_cons_zero, List.set_cons_succ]
  refine wpAnyH_take (i := 3) (oi := ⟨_, _, _, _, _, _⟩) (v := .bool true) rfl (by kernel_rfl) (by kernel_rfl) (by kernel_rfl) (fun _ _ _ h => h) (Or.inl ⟨by rfl, fun W3 hS => by obtain ⟨hS1, hS2, hS3, hS4⟩ := hS; go_simp⟩) hS0 ?_
  try simp only [Act.put, List.setIfInBounds_toArray, List.set_cons_zero, List.set_cons_succ]
  refine wpAnyH_take (i := 4) (oi := ⟨_, _, _, _, _, _⟩) (v := .int .i64 0) rfl (by kernel_rfl) (by kernel_rfl) (by kernel_rfl) (fun _ _ _ h => h) (Or.inl ⟨by rfl, fun W3 hS => by obtain ⟨hS1, hS2, hS3, hS4⟩ := hS; go_simp⟩) hS0 ?_
  try simp only [Act.put, List.setIfInBounds_toArray, List.set_cons_zero, List.set_cons_succ]
  refine wpAnyH_take (i := 5) (oi := ⟨_, _, _, _, _, _⟩) (v := .bool true) rfl (by kernel_rfl) (by kernel_rfl) (by kernel_rfl) (fun _ _ _ h => h) (Or.inl ⟨by rfl, fun W3 hS => by obtain ⟨hS1, hS2, hS3, hS4⟩ := hS; go_simp⟩) hS0 ?_
  try simp only [Act.put, List.setIfInBounds_toArray, List.set_cons_zero, List.set_cons_succ]
  refine wpAnyH_take (i := 6) (oi := ⟨_, _, _, _, _, _⟩) (v := .bool true) rfl (by kernel_rfl) (by kernel_rfl) (by kernel_rfl) (fun _ _ _ h => h) (Or.inl ⟨by rfl, fun W3 hS => by obtain ⟨hS1, hS2, hS3, hS4⟩ := hS; go_simp⟩) hS0 ?_
  try simp only [Act.put, List.setIfInBounds_toArray, List.set_cons_zero, List.set_cons_succ]
  refine wpAnyH_take (i := 7) (oi := ⟨_, _, _, _, _, _⟩) (v := .bool true) rfl (by kernel_rfl) (by kernel_rfl) (by kernel_rfl) (fun _ _ _ h => h) (Or.inl ⟨by rfl, fun W3 hS => by obtain ⟨hS1, hS2, hS3, hS4⟩ := hS; go_simp⟩) hS0 ?_
  try simp only [Act.put, List.setIfInBounds_toArray, List.set_cons_zero, List.set_cons_succ]
  refine wpAnyH_take (i := 8) (oi := ⟨_, _, _, _, _, _⟩) (v := .agg #[.bool sD, .slice ad LD.length cd]) rfl (by kernel_rfl) (by kernel_rfl) (by kernel_rfl) (fun _ _ _ h => h) (Or.inl ⟨by rfl, fun W3 hS => by obtain ⟨hS1, hS2, hS3, hS4⟩ := hS; go_simp⟩) hS0 ?_
  try simp only [Act.put, List.setIfInBounds_toArray, List.set_cons_zero, List.set_cons_succ]
  refine wpAnyH_take (i := 9) (oi := ⟨_, _, _, _, _, _⟩) (v := .agg #[.bool sC, .slice ac LC.length cc]) rfl (by kernel_rfl) (by kernel_rfl) (by kernel_rfl) (fun _ _ _ h => h) (Or.inl ⟨by rfl, fun W3 hS => by obtain ⟨hS1, hS2, hS3, hS4⟩ := hS; go_simp⟩) hS0 ?_
  try simp only [Act.put, List.setIfInBounds_toArray, List.set_cons_zero, List.set_cons_succ]
  clear hS0
  refine wpAnyH_all (rs := [10]) (by kernel_rfl) (by simp) ?_
  intro i hi
  obtain rfl : i = 10 := by simpa using hi
  refine wpOp_intro rfl (fun Kop10 hK => ?_)
  clear hi
  go_simp
  refine (KN.out _ _ _ RC.out).mono ?_
  rintro e x2 ⟨an, cn, rfl, g, r⟩
  replace K0 := Lib.hid (K0.out.below r)
  replace RA := Lib.hid (RA.out.below r)
  replace RB := Lib.hid (RB.out.below r)
  replace K1 := Lib.hid (K1.out.below r)
  replace RC := Lib.hid (RC.out.below r)
  replace K2 := Lib.hid (K2.out.below r)
  replace RD := Lib.hid (RD.out.below r)
  replace K3 := Lib.hid (K3.out.below r)
  replace b0 := Lib.hid (then_below b0.out r)
  have RN := Lib.hid g
  clear g
  clear r
  have hS0 : (fun w' => w'.cell? ⟨B2, 0, none⟩ = some (.bool sC) ∧ w'.cell? ⟨B2, 1, none⟩ = some (.slice ac LC.length cc) ∧ w'.cell? ⟨B3, 0, none⟩ = some (.bool sD) ∧ w'.cell? ⟨B3, 1, none⟩ = some (.slice ad LD.length cd)) x2 := ⟨K2.out.c0, K2.out.c1, K3.out.c0, K3.out.c1⟩
  refine hK _ _ ⟨hS0, ?_⟩
  clear hK Kop10
  clear hS0
  refine wpAnyH_all (rs := [11]) (by kernel_rfl) (by simp) ?_
  intro i hi
  obtain rfl : i = 11 := by simpa using hi
  refine wpOp_intro rfl (fun Kop11 hK => ?_)
  clear hi
  go_simp
  refine (KM2.out _ _ _ _ _ RD.out RN.out).mono ?_
  rintro e x3 ⟨rfl, r⟩
  replace K0 := Lib.hid (K0.out.below r)
  replace RA := Lib.hid (RA.out.below r)
  replace RB := Lib.hid (RB.out.below r)
  replace K1 := Lib.hid (K1.out.below r)
  replace RC := Lib.hid (RC.out.below r)
  replace K2 := Lib.hid (K2.out.below r)
  replace RD := Lib.hid (RD.out.below r)
  replace K3 := Lib.hid (K3.out.below r)
  replace RN := Lib.hid (RN.out.below r)
  replace b0 := Lib.hid (then_below b0.out r)
  clear r
  have hS0 : (fun w' => w'.cell? ⟨B2, 0, none⟩ = some (.bool sC) ∧ w'.cell? ⟨B2, 1, none⟩ = some (.slice ac LC.length cc) ∧ w'.cell? ⟨B3, 0, none⟩ = some (.bool sD) ∧ w'.cell? ⟨B3, 1, none⟩ = some (.slice ad LD.length cd)) x3 := ⟨K2.out.c0, K2.out.c1, K3.out.c0, K3.out.c1⟩
  refine hK _ _ ⟨hS0, ?_⟩
  clear hK Kop11
  refine wpAnyH_take (i := 12) (oi := ⟨_, _, _, _, _, _⟩) (v := .bool true) rfl (by kernel_rfl) (by kernel_rfl) (by kernel_rfl) (fun _ _ _ h => h) (Or.inl ⟨by rfl, fun W3 hS => by obtain ⟨hS1, hS2, hS3, hS4⟩ := hS; go_simp⟩) hS0 ?_
  try simp only [Act.put, List.setIfInBounds_toArray, List.set_cons_zero, List.set_cons_succ]
  refine wpAnyH_take (i := 13) (oi := ⟨_, _, _, _, _, _⟩) (v := .bool true) rfl (by kernel_rfl) (by kernel_rfl) (by kernel_rfl) (fun _ _ _ h => h) (Or.inl ⟨by rfl, fun W3 hS => by obtain ⟨hS1, hS2, hS3, hS4⟩ := hS; go_simp⟩) hS0 ?_
  try simp only [Act.put, List.setIfInBounds_toArray, List.set_cons_zero, List.set_cons_succ]
  refine wpAnyH_take (i := 14) (oi := ⟨_, _, _, _, _, _⟩) (v := undef) rfl (by kernel_rfl) (by kernel_rfl) (by kernel_rfl) (fun _ _ _ h => h) (Or.inr ⟨by rfl, rfl⟩) hS0 ?_
  try simp only [Act.put, List.setIfInBounds_toArray, List.set_cons_zero, List.set_cons_succ]
  refine wpAnyH_take (i := 15) (oi := ⟨_, _, _, _, _, _⟩) (v := undef) rfl (by kernel_rfl) (by kernel_rfl) (by kernel_rfl) (fun _ _ _ h => h) (Or.inr ⟨by rfl, rfl⟩) hS0 ?_
  try simp only [Act.put, List.setIfInBounds_toArray, List.set_cons_zero, List.set_cons_succ]
  refine wpAnyH_take (i := 16) (oi := ⟨_, _, _, _, _, _⟩) (v := undef) rfl (by kernel_rfl) (by kernel_rfl) (by kernel_rfl) (fun _ _ _ h => h) (Or.inr ⟨by rfl, rfl⟩) hS0 ?_
  try simp only [Act.put, List.setIfInBounds_toArray, List.set_cons_zero, List.set_cons_succ]
  refine wpAnyH_take (i := 17) (oi := ⟨_, _, _, _, _, _⟩) (v := undef) rfl (by kernel_rfl) (by kernel_rfl) (by kernel_rfl) (fun _ _ _ h => h) (Or.inr ⟨by rfl, rfl⟩) hS0 ?_
  try simp only [Act.put, List.setIfInBounds_toArray, List.set_cons_zero, List.set_cons_succ]
  refine wpAnyH_take (i := 18) (oi := ⟨_, _, _, _, _, _⟩) (v := undef) rfl (by kernel_rfl) (by kernel_rfl) (by kernel_rfl) (fun _ _ _ h => h) (Or.inr ⟨by rfl, rfl⟩) hS0 ?_
  try simp only [Act.put, List.setIfInBounds_toArray, List.set_cons_zero, List.set_cons_succ]
  refine wpAnyH_take (i := 19) (oi := ⟨_, _, _, _, _, _⟩) (v := undef) rfl (by kernel_rfl) (by kernel_rfl) (by kernel_rfl) (fun _ _ _ h => h) (Or.inr ⟨by rfl, rfl⟩) hS0 ?_
  try simp only [Act.put, List.setIfInBounds_toArray, List.set_cons_zero, List.set_cons_succ]
  refine wpAnyH_take (i := 20) (oi := ⟨_, _, _, _, _, _⟩) (v := undef) rfl (by kernel_rfl) (by kernel_rfl) (by kernel_rfl) (fun _ _ _ h => h) (Or.inr ⟨by rfl, rfl⟩) hS0 ?_
  try simp only [Act.put, List.setIfInBounds_toArray, List.set_cons_zero, List.set_cons_succ]
  refine wpAnyH_take (i := 21) (oi := ⟨_, _, _, _, _, _⟩) (v := .bool true) rfl (by kernel_rfl) (by kernel_rfl) (by kernel_rfl) (fun _ _ _ h => h) (Or.inl ⟨by rfl, fun W3 hS => by obtain ⟨hS1, hS2, hS3, hS4⟩ := hS; go_simp⟩) hS0 ?_
  try simp only [Act.put, List.setIfInBounds_toArray, List.set_cons_zero, List.set_cons_succ]
  refine wpAnyH_take (i := 22) (oi := ⟨_, _, _, _, _, _⟩) (v := .bool true) rfl (by kernel_rfl) (by kernel_rfl) (by kernel_rfl) (fun _ _ _ h => h) (Or.inl ⟨by rfl, fun W3 hS => by obtain ⟨hS1, hS2, hS3, hS4⟩ := hS; go_simp⟩) hS0 ?_
  try simp only [Act.put, List.setIfInBounds_toArray, List.set_cons_zero, List.set_cons_succ]
  clear hS0
  refine wpAnyH_done (by kernel_rfl) ?_ _
  go_wp2_with fail
  go_ret
  exact ⟨rfl, b0.out⟩

end Go.Proofs.Ytlcbicdendelfaa
