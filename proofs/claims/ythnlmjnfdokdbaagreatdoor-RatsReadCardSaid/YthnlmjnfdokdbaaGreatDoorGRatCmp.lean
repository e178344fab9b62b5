/- Fractions: products, of any two. Fractions: their quotients. Fractions: sums and differences, of any two. Fractions: whole or not, the floor, the text. Fractions: their texts. Whether one of some fractions has more parts than are gone through. Fractions: their order. -/
import Derived.BigQuiet
import Derived.Deep.QuietTactic
import Derived.Test.YthnlmjnfdokdbaaGreatDoorGRatMul
import Derived.Test.YthnlmjnfdokdbaaGreatDoorGRatLit
import Derived.Test.YthnlmjnfdokdbaaGreatDoorGRatSum
import Derived.Test.YthnlmjnfdokdbaaGreatDoorGRatB
import Derived.Test.YthnlmjnfdokdbaaGreatDoorGMathG
import Derived.Test.YthnlmjnfdokdbaaGreatDoorGRatLaw
set_option linter.unusedSimpArgs false
set_option linter.unusedVariables false
namespace Go.Proofs.YthnlmjnfdokdbaaGreatDoor
open Go Go.Proofs Go.RowKit Go.Shelf Nu

attribute [local go_sem] Oper.semAt_some

set_option maxRecDepth 100000 in
set_option maxHeartbeats 8000000 in
theorem ofTwo_mul {w : World} {p1 o1 p2 o2 : Option Addr} {q1 r1 q2 r2 : Nat} {n1 n2 sZ : Bool} {l1 d1 l2 d2 LZ DZ : List Nat} {X Y Z : Rat} (eZ : Z = X * Y) (hX : RIs n1 l1 d1 X) (hY : RIs n2 l2 d2 Y) (kZ : RCan sZ LZ DZ Z) (b1 : l1.length ≤ 9999) (b2 : d1.length ≤ 9999) (b3 : l2.length ≤ 9999) (b4 : d2.length ≤ 9999) (g1 : Reads w (.slice p1 l1.length q1) l1) (g2 : Reads w (.slice o1 d1.length r1) d1) (g3 : Reads w (.slice p2 l2.length q2) l2) (g4 : Reads w (.slice o2 d2.length r2) d2) :
    Calls Tryz.prog 48 #[.agg #[.bool n1, .slice p1 l1.length q1, .slice o1 d1.length r1], .agg #[.bool n2, .slice p2 l2.length q2, .slice o2 d2.length r2], .func (.func 52) #[] #[]] w fun e w' => ∃ a c a' c', e = .returned (.agg #[.bool sZ, .slice a LZ.length c, .slice a' DZ.length c']) ∧ Reads w' (.slice a LZ.length c) LZ ∧ Reads w' (.slice a' DZ.length c') DZ ∧ Below w.heap.size w w' := by
  obtain ⟨sX, LX, DX, kX⟩ := RCan.ex X
  obtain ⟨sY, LY, DY, kY⟩ := RCan.ex Y
  have lX := hX.lens kX
  have lY := hY.lens kY
  have kp1 := fun (W : World) (h1 : Reads W (.slice p1 l1.length q1) l1) (h2 : Reads W (.slice o1 d1.length r1) d1) => partsOf_any hX kX (by omega) (by omega) h1 h2
  have kp2 := fun (W : World) (h1 : Reads W (.slice p2 l2.length q2) l2) (h2 : Reads W (.slice o2 d2.length r2) d2) => partsOf_any hY kY (by omega) (by omega) h1 h2
  have kf := fun (W : World) {aX oX aY oY : Option Addr} {cX rX cY rY : Nat} (g1 : Reads W (.slice aX LX.length cX) LX) (g2 : Reads W (.slice oX DX.length rX) DX) (g3 : Reads W (.slice aY LY.length cY) LY) (g4 : Reads W (.slice oY DY.length rY) DY) => mulFn_any kX kY kZ eZ (by omega) (by omega) (by omega) (by omega) g1 g2 g3 g4
  have M : Mem w [(w.heap.size + 1 + 1, 27, [.bool false, .slice none 0 0, .slice none 0 0]), (w.heap.size + 1, 27, [.bool n2, .slice p2 l2.length q2, .slice o2 d2.length r2]), (w.heap.size, 27, [.bool n1, .slice p1 l1.length q1, .slice o1 d1.length r1])] [(.slice o2 d2.length r2, d2), (.slice p2 l2.length q2, l2), (.slice o1 d1.length r1, d1), (.slice p1 l1.length q1, l1)] (((w.alloc (.cells #[.bool n1, .slice p1 l1.length q1, .slice o1 d1.length r1] 27)).alloc (.cells #[.bool n2, .slice p2 l2.length q2, .slice o2 d2.length r2] 27)).alloc (.cells #[.bool false, .slice none 0 0, .slice none 0 0] 27)) := by
    have M := ((((((((Mem.start w).add g1).add g2).add g3).add g4).new 27 [.bool n1, .slice p1 l1.length q1, .slice o1 d1.length r1]).new 27 [.bool n2, .slice p2 l2.length q2, .slice o2 d2.length r2]).new 27 [.bool false, .slice none 0 0, .slice none 0 0])
    simpa only [World.size_alloc] using M
  clear g1 g2 g3 g4 b1 b2 b3 b4 kX kY lX lY hX hY kZ eZ
  go_enter Tryz.func48, Tryz.ntmps48
  go_wp2
  refine region_mem (S := (fun W => BoxN W (w.heap.size) 27 #[.bool n1, .slice p1 l1.length q1, .slice o1 d1.length r1] ∧ BoxN W (w.heap.size + 1) 27 #[.bool n2, .slice p2 l2.length q2, .slice o2 d2.length r2])) M (by kernel_rfl) ?_
  intro V0 M
  have hS0 : (fun W => BoxN W (w.heap.size) 27 #[.bool n1, .slice p1 l1.length q1, .slice o1 d1.length r1] ∧ BoxN W (w.heap.size + 1) 27 #[.bool n2, .slice p2 l2.length q2, .slice o2 d2.length r2]) V0 := ⟨M.box 2 rfl, M.box 1 rfl⟩
  refine wpAnyH_take (i := 0) (oi := ⟨_, _, _, _, _, _⟩) (v := (.func (.func 52) #[] #[])) rfl (by kernel_rfl) (by kernel_rfl) (by kernel_rfl) (fun _ _ _ h => h) (Or.inl ⟨by rfl, fun W3 hS => by obtain ⟨hS1, hS2⟩ := hS; go_simp⟩) hS0 ?_
  refine wpAnyH_take (i := 1) (oi := ⟨_, _, _, _, _, _⟩) (v := (.agg #[.bool n1, .slice p1 l1.length q1, .slice o1 d1.length r1])) rfl (by kernel_rfl) (by kernel_rfl) (by kernel_rfl) (fun _ _ _ h => h) (Or.inl ⟨by rfl, fun W3 hS => by obtain ⟨hS1, hS2⟩ := hS; have c1_0 := hS1.cell 0 _ rfl; have c1_1 := hS1.cell 1 _ rfl; have c1_2 := hS1.cell 2 _ rfl; go_simp⟩) hS0 ?_
  refine wpAnyH_take (i := 3) (oi := ⟨_, _, _, _, _, _⟩) (v := (.agg #[.bool n2, .slice p2 l2.length q2, .slice o2 d2.length r2])) rfl (by kernel_rfl) (by kernel_rfl) (by kernel_rfl) (fun _ _ _ h => h) (Or.inl ⟨by rfl, fun W3 hS => by obtain ⟨hS1, hS2⟩ := hS; have c2_0 := hS2.cell 0 _ rfl; have c2_1 := hS2.cell 1 _ rfl; have c2_2 := hS2.cell 2 _ rfl; go_simp⟩) hS0 ?_
  clear hS0
  try simp only [Act.put, List.setIfInBounds_toArray, List.set_cons_zero, List.set_cons_succ]
  refine wpAnyH_all (rs := [2]) (by kernel_rfl) (by simp) ?_
  intro i hi
  obtain rfl : i = 2 := by simpa using hi
  refine wpOp_intro rfl (fun K1 hK => ?_)
  clear hi
  go_simp
  refine (kp1 _ (M.get 3 rfl) (M.get 2 rfl)).mono ?_
  rintro e V1_2 ⟨aX, cX, oX, rX, rfl, g, g', rr⟩
  have M' := ((M.up rr).add g).add g'
  clear M rr g g'
  have M := M'; clear M'
  refine hK _ _ ⟨⟨M.box 2 rfl, M.box 1 rfl⟩, ?_⟩
  clear hK K1
  refine wpAnyH_all (rs := [4]) (by kernel_rfl) (by simp) ?_
  intro i hi
  obtain rfl : i = 4 := by simpa using hi
  refine wpOp_intro rfl (fun K2 hK => ?_)
  clear hi
  go_simp
  refine (kp2 _ (M.get 3 rfl) (M.get 2 rfl)).mono ?_
  rintro e V2_4 ⟨aY, cY, oY, rY, rfl, g, g', rr⟩
  have M' := ((M.up rr).add g).add g'
  clear M rr g g'
  have M := M'; clear M'
  refine hK _ _ ⟨⟨M.box 2 rfl, M.box 1 rfl⟩, ?_⟩
  clear hK K2
  refine wpAnyH_all (rs := [5]) (by kernel_rfl) (by simp) ?_
  intro i hi
  obtain rfl : i = 5 := by simpa using hi
  refine wpOp_intro rfl (fun K3 hK => ?_)
  clear hi
  go_simp
  refine (kf _ (M.get 3 rfl) (M.get 2 rfl) (M.get 1 rfl) (M.get 0 rfl)).mono ?_
  rintro e V3_5 ⟨a, c, a', c', rfl, g, g', rr⟩
  have M' := ((M.up rr).add g).add g'
  clear M rr g g'
  have M := M'; clear M'
  refine hK _ _ ⟨⟨M.box 2 rfl, M.box 1 rfl⟩, ?_⟩
  clear hK K3
  have f0_0 := M.fr 0 rfl 0; have f0_1 := M.fr 0 rfl 1; have f0_2 := M.fr 0 rfl 2
  have z0_0 := M.cell 0 rfl 0 rfl; have z0_1 := M.cell 0 rfl 1 rfl; have z0_2 := M.cell 0 rfl 2 rfl
  refine wpAnyH_all (rs := [6]) (by kernel_rfl) (by simp) ?_
  intro i hi
  obtain rfl : i = 6 := by simpa using hi
  refine wpOp_intro rfl (fun Ks4 hK => ?_)
  clear hi
  go_simp
  have M' := (((M.put 0 rfl rfl 0 (.bool sZ)).put 0 rfl rfl 1 (.slice a LZ.length c)).put 0 rfl rfl 2 (.slice a' DZ.length c'))
  clear M f0_0 z0_0 f0_1 z0_1 f0_2 z0_2
  have M : Mem w [(w.heap.size + 1 + 1, 27, [.bool sZ, .slice a LZ.length c, .slice a' DZ.length c']), (w.heap.size + 1, 27, [.bool n2, .slice p2 l2.length q2, .slice o2 d2.length r2]), (w.heap.size, 27, [.bool n1, .slice p1 l1.length q1, .slice o1 d1.length r1])] [(.slice a' DZ.length c', DZ), (.slice a LZ.length c, LZ), (.slice oY DY.length rY, DY), (.slice aY LY.length cY, LY), (.slice oX DX.length rX, DX), (.slice aX LX.length cX, LX), (.slice o2 d2.length r2, d2), (.slice p2 l2.length q2, l2), (.slice o1 d1.length r1, d1), (.slice p1 l1.length q1, l1)] _ := M'
  clear M'
  refine hK _ _ ⟨⟨M.box 2 rfl, M.box 1 rfl⟩, ?_⟩
  clear hK Ks4
  refine wpAnyH_done (by kernel_rfl) ?_ _
  go_wp2
  refine ret_boxN rfl rfl (M.box 0 rfl) Tryz.underlying27 size_rat rfl ?_
  exact ⟨a, c, a', c', rfl, M.get 1 rfl, M.get 0 rfl, M.below⟩
set_option maxRecDepth 100000 in
set_option maxHeartbeats 4000000 in
theorem r_mul {w : World} {p1 o1 p2 o2 : Option Addr} {q1 r1 q2 r2 : Nat} {n1 n2 sZ : Bool} {l1 d1 l2 d2 LZ DZ : List Nat} {X Y Z : Rat} (hX : RIs n1 l1 d1 X) (hY : RIs n2 l2 d2 Y) (kZ : RCan sZ LZ DZ Z) (eZ : Z = X * Y) (b1 : l1.length ≤ 9999) (b2 : d1.length ≤ 9999) (b3 : l2.length ≤ 9999) (b4 : d2.length ≤ 9999) (g1 : Reads w (.slice p1 l1.length q1) l1) (g2 : Reads w (.slice o1 d1.length r1) d1) (g3 : Reads w (.slice p2 l2.length q2) l2) (g4 : Reads w (.slice o2 d2.length r2) d2) :
    Calls Tryz.prog 12 #[.agg #[.bool n1, .slice p1 l1.length q1, .slice o1 d1.length r1], .agg #[.bool n2, .slice p2 l2.length q2, .slice o2 d2.length r2]] w fun e w' => ∃ a c a' c', e = .returned (.agg #[.bool sZ, .slice a LZ.length c, .slice a' DZ.length c']) ∧ Reads w' (.slice a LZ.length c) LZ ∧ Reads w' (.slice a' DZ.length c') DZ ∧ Below w.heap.size w w' := by
  have ko := fun (W : World) (g1 : Reads W (.slice p1 l1.length q1) l1) (g2 : Reads W (.slice o1 d1.length r1) d1) (g3 : Reads W (.slice p2 l2.length q2) l2) (g4 : Reads W (.slice o2 d2.length r2) d2) => ofTwo_mul (w := W) eZ hX hY kZ b1 b2 b3 b4 g1 g2 g3 g4
  have M : Mem w [(w.heap.size + 1 + 1, 27, [.bool false, .slice none 0 0, .slice none 0 0]), (w.heap.size + 1, 27, [.bool n2, .slice p2 l2.length q2, .slice o2 d2.length r2]), (w.heap.size, 27, [.bool n1, .slice p1 l1.length q1, .slice o1 d1.length r1])] [(.slice o2 d2.length r2, d2), (.slice p2 l2.length q2, l2), (.slice o1 d1.length r1, d1), (.slice p1 l1.length q1, l1)] (((w.alloc (.cells #[.bool n1, .slice p1 l1.length q1, .slice o1 d1.length r1] 27)).alloc (.cells #[.bool n2, .slice p2 l2.length q2, .slice o2 d2.length r2] 27)).alloc (.cells #[.bool false, .slice none 0 0, .slice none 0 0] 27)) := by
    have M := ((((((((Mem.start w).add g1).add g2).add g3).add g4).new 27 [.bool n1, .slice p1 l1.length q1, .slice o1 d1.length r1]).new 27 [.bool n2, .slice p2 l2.length q2, .slice o2 d2.length r2]).new 27 [.bool false, .slice none 0 0, .slice none 0 0])
    simpa only [World.size_alloc] using M
  clear g1 g2 g3 g4 b1 b2 b3 b4 hX hY kZ eZ
  go_enter Tryz.func12, Tryz.ntmps12
  go_wp2_with (go_at_call 48; refine (ko _ (M.get 3 rfl) (M.get 2 rfl) (M.get 1 rfl) (M.get 0 rfl)).mono ?_; clear ko; rintro e w1 ⟨a, c, a', c', rfl, g, g', rr⟩; have M' := ((M.up rr).add g).add g'; clear M g g' rr; have M := M'; clear M'; have z0_0 := M.cell 0 rfl 0 rfl; have z0_1 := M.cell 0 rfl 1 rfl; have z0_2 := M.cell 0 rfl 2 rfl; have f0_0 := M.fr 0 rfl 0; have f0_1 := M.fr 0 rfl 1; have f0_2 := M.fr 0 rfl 2)
  have M' := ((M.put 0 rfl rfl 0 (.bool sZ)).put 0 rfl rfl 1 (.slice a LZ.length c)).put 0 rfl rfl 2 (.slice a' DZ.length c')
  refine ret_boxN rfl rfl (M'.box 0 rfl) Tryz.underlying27 size_rat rfl ?_
  exact ⟨a, c, a', c', rfl, M'.get 1 rfl, M'.get 0 rfl, M'.below⟩
end Go.Proofs.YthnlmjnfdokdbaaGreatDoor

namespace Go.Proofs.YthnlmjnfdokdbaaGreatDoor
open Go Go.Proofs Go.RowKit Go.Shelf Nu

attribute [local go_sem] Oper.semAt_some

/-- 1 by a fraction: both parts change places -/
theorem rcan_inv {n : Bool} {l d : List Nat} {Y : Rat} (h : RCan n l d Y) (h0 : Y ≠ 0) : RCan n d l Y⁻¹ := by
  have hn : Y.num ≠ 0 := fun e => h0 (Rat.num_eq_zero.1 e)
  have hd := Y.den_pos
  have key : Y⁻¹.num = (if Y.num < 0 then -(Y.den : Int) else (Y.den : Int)) ∧ Y⁻¹.den = Y.num.natAbs := by
    refine rat_low (by omega) ?_ ?_
    · have hc : Nat.Coprime Y.den Y.num.natAbs := Y.reduced.symm
      split
      · rwa [Int.natAbs_neg, Int.natAbs_natCast]
      · rwa [Int.natAbs_natCast]
    · have hX := rat_den Y
      split
      · rename_i hneg
        have : ((Y.num.natAbs : Nat) : Rat) = -((Y.num : Int) : Rat) := by
          have : ((Y.num.natAbs : Nat) : Int) = -Y.num := by omega
          exact_mod_cast this
        rw [this]; push_cast; grind
      · rename_i hneg
        have : ((Y.num.natAbs : Nat) : Rat) = ((Y.num : Int) : Rat) := by
          have : ((Y.num.natAbs : Nat) : Int) = Y.num := by omega
          exact_mod_cast this
        rw [this]; push_cast; grind
  obtain ⟨⟨h1, h2⟩, h3⟩ := h
  refine ⟨⟨?_, ?_⟩, ?_⟩
  · rw [h1, key.1]
    refine decide_eq_decide.2 ?_
    split <;> constructor <;> intro _ <;> omega
  · rw [h3, key.1]
    split <;> simp
  · rw [h2, key.2]

set_option maxRecDepth 100000 in
set_option maxHeartbeats 8000000 in
theorem r_div_ok {w : World} {p1 o1 p2 o2 : Option Addr} {q1 r1 q2 r2 : Nat} {n1 n2 sZ : Bool} {l1 d1 l2 d2 LZ DZ : List Nat} {X Y Z : Rat} (kX : RCan n1 l1 d1 X) (kY : RCan n2 l2 d2 Y) (h0 : Y ≠ 0) (kZ : RCan sZ LZ DZ Z) (eZ : Z = X / Y) (b1 : l1.length ≤ 9999) (b2 : d1.length ≤ 9999) (b3 : l2.length ≤ 9999) (b4 : d2.length ≤ 9999) (g1 : Reads w (.slice p1 l1.length q1) l1) (g2 : Reads w (.slice o1 d1.length r1) d1) (g3 : Reads w (.slice p2 l2.length q2) l2) (g4 : Reads w (.slice o2 d2.length r2) d2) :
    Calls Tryz.prog 13 #[.agg #[.bool n1, .slice p1 l1.length q1, .slice o1 d1.length r1], .agg #[.bool n2, .slice p2 l2.length q2, .slice o2 d2.length r2]] w fun e w' => ∃ a c a' c', e = .returned (.tuple #[.agg #[.bool sZ, .slice a LZ.length c, .slice a' DZ.length c'], .int .i64 0]) ∧ Reads w' (.slice a LZ.length c) LZ ∧ Reads w' (.slice a' DZ.length c') DZ ∧ Below w.heap.size w w' := by
  have kc1 := fun (W : World) (h1 : Reads W (.slice p1 l1.length q1) l1) (h2 : Reads W (.slice o1 d1.length r1) d1) => by have := rcheck_any (n := n1) h1 h2 kX.sm.1 kX.sm.2 (by omega) (by omega); rw [kX.chk] at this; exact this
  have kc2 := fun (W : World) (h1 : Reads W (.slice p2 l2.length q2) l2) (h2 : Reads W (.slice o2 d2.length r2) d2) => by have := rcheck_any (n := n2) h1 h2 kY.sm.1 kY.sm.2 (by omega) (by omega); rw [kY.chk] at this; exact this
  have hl : 0 < l2.length := by rw [kY.1.2]; exact digs_len_pos (fun e => h0 (Rat.num_eq_zero.1 (Int.natAbs_eq_zero.1 e)))
  have hl2 : ((l2.length : Int) == 0) = false := by simp; intro e; rw [e] at hl; simp at hl
  have km := fun (W : World) (g1 : Reads W (.slice p1 l1.length q1) l1) (g2 : Reads W (.slice o1 d1.length r1) d1) (g3 : Reads W (.slice p2 l2.length q2) l2) (g4 : Reads W (.slice o2 d2.length r2) d2) => r_mul kX.is (rcan_inv kY h0).is kZ (by rw [eZ, Rat.div_def]) b1 b2 b4 b3 g1 g2 g4 g3
  have M : Mem w [(w.heap.size + 1 + 1, 27, [.bool false, .slice none 0 0, .slice none 0 0]), (w.heap.size + 1, 27, [.bool n2, .slice p2 l2.length q2, .slice o2 d2.length r2]), (w.heap.size, 27, [.bool n1, .slice p1 l1.length q1, .slice o1 d1.length r1])] [(.slice o2 d2.length r2, d2), (.slice p2 l2.length q2, l2), (.slice o1 d1.length r1, d1), (.slice p1 l1.length q1, l1)] (((w.alloc (.cells #[.bool n1, .slice p1 l1.length q1, .slice o1 d1.length r1] 27)).alloc (.cells #[.bool n2, .slice p2 l2.length q2, .slice o2 d2.length r2] 27)).alloc (.cells #[.bool false, .slice none 0 0, .slice none 0 0] 27)) := by
    have M := ((((((((Mem.start w).add g1).add g2).add g3).add g4).new 27 [.bool n1, .slice p1 l1.length q1, .slice o1 d1.length r1]).new 27 [.bool n2, .slice p2 l2.length q2, .slice o2 d2.length r2]).new 27 [.bool false, .slice none 0 0, .slice none 0 0])
    simpa only [World.size_alloc] using M
  clear g1 g2 g3 g4 b1 b2 b3 b4 kX kY h0 kZ eZ hl
  go_enter Tryz.func13, Tryz.ntmps13
  go_wp2_with (first
    | (go_at_call 36; with_reducible refine (kc1 _ (M.get 3 rfl) (M.get 2 rfl)).mono ?_; clear kc1; rintro e w1 ⟨rfl, rr⟩; have M' := M.up rr; clear M rr ; have M := M'; clear M'; have z1_0 := M.cell 1 rfl 0 rfl; have z1_1 := M.cell 1 rfl 1 rfl; have z1_2 := M.cell 1 rfl 2 rfl)
    | (go_at_call 36; refine (kc2 _ (M.get 1 rfl) (M.get 0 rfl)).mono ?_; clear kc2; rintro e w2 ⟨rfl, rr⟩; have M' := M.up rr; clear M rr z1_0 z1_1 z1_2; have M := M'; clear M'; have z1_0 := M.cell 1 rfl 0 rfl; have z1_1 := M.cell 1 rfl 1 rfl; have z1_2 := M.cell 1 rfl 2 rfl; have z2_0 := M.cell 2 rfl 0 rfl; have z2_1 := M.cell 2 rfl 1 rfl; have z2_2 := M.cell 2 rfl 2 rfl)
    | (go_at_call 12; refine (km _ (M.get 3 rfl) (M.get 2 rfl) (M.get 1 rfl) (M.get 0 rfl)).mono ?_; clear km; rintro e w3 ⟨a, c, a', c', rfl, g, g', rr⟩; have M' := ((M.up rr).add g).add g'; clear M g g' rr z2_0 z2_1 z2_2 z1_0 z1_1 z1_2; have M := M'; clear M'; have z0_0 := M.cell 0 rfl 0 rfl; have z0_1 := M.cell 0 rfl 1 rfl; have z0_2 := M.cell 0 rfl 2 rfl; have f0_0 := M.fr 0 rfl 0; have f0_1 := M.fr 0 rfl 1; have f0_2 := M.fr 0 rfl 2))
  have M' := ((M.put 0 rfl rfl 0 (.bool sZ)).put 0 rfl rfl 1 (.slice a LZ.length c)).put 0 rfl rfl 2 (.slice a' DZ.length c')
  refine ret_boxN_tmp rfl rfl rfl (M'.box 0 rfl) Tryz.underlying27 size_rat rfl ?_
  exact ⟨a, c, a', c', rfl, M'.get 1 rfl, M'.get 0 rfl, M'.below⟩

set_option maxRecDepth 100000 in
set_option maxHeartbeats 8000000 in
theorem r_div_zero {w : World} {p1 o1 p2 o2 : Option Addr} {q1 r1 q2 r2 : Nat} {n1 n2 : Bool} {l1 d1 l2 d2 : List Nat} {X Y : Rat} (kX : RCan n1 l1 d1 X) (kY : RCan n2 l2 d2 Y) (h0 : Y = 0) (b1 : l1.length ≤ 9999) (b2 : d1.length ≤ 9999) (b3 : l2.length ≤ 9999) (b4 : d2.length ≤ 9999) (g1 : Reads w (.slice p1 l1.length q1) l1) (g2 : Reads w (.slice o1 d1.length r1) d1) (g3 : Reads w (.slice p2 l2.length q2) l2) (g4 : Reads w (.slice o2 d2.length r2) d2) :
    Calls Tryz.prog 13 #[.agg #[.bool n1, .slice p1 l1.length q1, .slice o1 d1.length r1], .agg #[.bool n2, .slice p2 l2.length q2, .slice o2 d2.length r2]] w fun e w' => e = .returned (.tuple #[.agg #[.bool false, .slice none 0 0, .slice none 0 0], .int .i64 10]) ∧ Below w.heap.size w w' := by
  have kc1 := fun (W : World) (h1 : Reads W (.slice p1 l1.length q1) l1) (h2 : Reads W (.slice o1 d1.length r1) d1) => by have := rcheck_any (n := n1) h1 h2 kX.sm.1 kX.sm.2 (by omega) (by omega); rw [kX.chk] at this; exact this
  have kc2 := fun (W : World) (h1 : Reads W (.slice p2 l2.length q2) l2) (h2 : Reads W (.slice o2 d2.length r2) d2) => by have := rcheck_any (n := n2) h1 h2 kY.sm.1 kY.sm.2 (by omega) (by omega); rw [kY.chk] at this; exact this
  have hl : l2.length = 0 := by subst h0; rw [(rcan_zero kY).2.1]; rfl
  have hl2 : ((l2.length : Int) == 0) = true := by rw [hl]; rfl
  clear hl
  have M : Mem w [(w.heap.size + 1 + 1, 27, [.bool false, .slice none 0 0, .slice none 0 0]), (w.heap.size + 1, 27, [.bool n2, .slice p2 l2.length q2, .slice o2 d2.length r2]), (w.heap.size, 27, [.bool n1, .slice p1 l1.length q1, .slice o1 d1.length r1])] [(.slice o2 d2.length r2, d2), (.slice p2 l2.length q2, l2), (.slice o1 d1.length r1, d1), (.slice p1 l1.length q1, l1)] (((w.alloc (.cells #[.bool n1, .slice p1 l1.length q1, .slice o1 d1.length r1] 27)).alloc (.cells #[.bool n2, .slice p2 l2.length q2, .slice o2 d2.length r2] 27)).alloc (.cells #[.bool false, .slice none 0 0, .slice none 0 0] 27)) := by
    have M := ((((((((Mem.start w).add g1).add g2).add g3).add g4).new 27 [.bool n1, .slice p1 l1.length q1, .slice o1 d1.length r1]).new 27 [.bool n2, .slice p2 l2.length q2, .slice o2 d2.length r2]).new 27 [.bool false, .slice none 0 0, .slice none 0 0])
    simpa only [World.size_alloc] using M
  clear g1 g2 g3 g4 b1 b2 b3 b4 kX kY h0
  go_enter Tryz.func13, Tryz.ntmps13
  go_wp2_with (first
    | (go_at_call 36; with_reducible refine (kc1 _ (M.get 3 rfl) (M.get 2 rfl)).mono ?_; clear kc1; rintro e w1 ⟨rfl, rr⟩; have M' := M.up rr; clear M rr ; have M := M'; clear M'; have z1_0 := M.cell 1 rfl 0 rfl; have z1_1 := M.cell 1 rfl 1 rfl; have z1_2 := M.cell 1 rfl 2 rfl)
    | (go_at_call 36; refine (kc2 _ (M.get 1 rfl) (M.get 0 rfl)).mono ?_; clear kc2; rintro e w2 ⟨rfl, rr⟩; have M' := M.up rr; clear M rr z1_0 z1_1 z1_2; have M := M'; clear M'; have z1_0 := M.cell 1 rfl 0 rfl; have z1_1 := M.cell 1 rfl 1 rfl; have z1_2 := M.cell 1 rfl 2 rfl; have z2_0 := M.cell 2 rfl 0 rfl; have z2_1 := M.cell 2 rfl 1 rfl; have z2_2 := M.cell 2 rfl 2 rfl; have z0_0 := M.cell 0 rfl 0 rfl; have z0_1 := M.cell 0 rfl 1 rfl; have z0_2 := M.cell 0 rfl 2 rfl; have f0_0 := M.fr 0 rfl 0; have f0_1 := M.fr 0 rfl 1; have f0_2 := M.fr 0 rfl 2))
  have M' := ((M.put 0 rfl rfl 0 (.bool false)).put 0 rfl rfl 1 (.slice none 0 0)).put 0 rfl rfl 2 (.slice none 0 0)
  refine ret_boxN_tmp rfl rfl rfl (M'.box 0 rfl) Tryz.underlying27 size_rat rfl ?_
  exact ⟨rfl, M'.below⟩

end Go.Proofs.YthnlmjnfdokdbaaGreatDoor

namespace Go.Proofs.YthnlmjnfdokdbaaGreatDoor
open Go Go.Proofs Go.RowKit Go.Shelf Nu

attribute [local go_sem] Oper.semAt_some

theorem joined_any (J : Nat) (w : World) : Calls Tryz.prog 49 #[.func (.func J) #[] #[]] w fun e w' => ∃ cb, e = .returned (.func (.func 139) #[] #[.pointer (some ⟨cb, 0, none⟩)]) ∧ BoxN w' cb 72 #[.func (.func J) #[] #[]] ∧ Below w.heap.size w w' := by
  have hmf : ∀ (fn : Fn) (first cap : Array Value) (w : World), (Instr.makeFunc fn first cap).run Tryz.prog w = .ok (.func fn first cap) w := fun _ _ _ _ => rfl
  go_enter Tryz.func49, Tryz.ntmps49
  go_wp2
  go_ret
  exact ⟨_, rfl, BoxN.new w _ _, (Below.refl _ _).alloc (Nat.le_refl _) _⟩

set_option maxRecDepth 100000 in
set_option maxHeartbeats 8000000 in
theorem ofTwo_join {w : World} {p1 o1 p2 o2 : Option Addr} {q1 r1 q2 r2 : Nat} {n1 n2 sZ : Bool} {l1 d1 l2 d2 LZ DZ : List Nat} {X Y Z : Rat} {J cb : Nat} (join : Int → Int → Int) (hj : (join = (fun a b => a + b) ∧ Z = X + Y) ∨ (join = (fun a b => a - b) ∧ Z = X - Y))
    (kj : ∀ (W : World) {s1 s2 s3 : Bool} {L1 L2 L3 : List Nat} {p1 p2 : Option Addr} {q1 q2 : Nat} {A B C : Int} (hA : Is s1 L1 A) (hB : Is s2 L2 B) (hC : Can s3 L3 C) (e : C = join A B) (l1 : L1.length ≤ 50000) (l2 : L2.length ≤ 50000) (h1 : Reads W (.slice p1 L1.length q1) L1) (h2 : Reads W (.slice p2 L2.length q2) L2),
      Calls Tryz.prog J #[.agg #[.bool s1, .slice p1 L1.length q1], .agg #[.bool s2, .slice p2 L2.length q2]] W fun e w' => ∃ a c, e = .returned (.agg #[.bool s3, .slice a L3.length c]) ∧ Reads w' (.slice a L3.length c) L3 ∧ Below W.heap.size W w')
    (hE : ∀ (args : Array Value) (w : World), (callFunc J args).run Tryz.prog w = .ok (.enter J args) w)
    (hcb : BoxN w cb 72 #[.func (.func J) #[] #[]]) (hX : RIs n1 l1 d1 X) (hY : RIs n2 l2 d2 Y) (kZ : RCan sZ LZ DZ Z) (b1 : l1.length ≤ 9999) (b2 : d1.length ≤ 9999) (b3 : l2.length ≤ 9999) (b4 : d2.length ≤ 9999) (g1 : Reads w (.slice p1 l1.length q1) l1) (g2 : Reads w (.slice o1 d1.length r1) d1) (g3 : Reads w (.slice p2 l2.length q2) l2) (g4 : Reads w (.slice o2 d2.length r2) d2) :
    Calls Tryz.prog 48 #[.agg #[.bool n1, .slice p1 l1.length q1, .slice o1 d1.length r1], .agg #[.bool n2, .slice p2 l2.length q2, .slice o2 d2.length r2], .func (.func 139) #[] #[.pointer (some ⟨cb, 0, none⟩)]] w fun e w' => ∃ a c a' c', e = .returned (.agg #[.bool sZ, .slice a LZ.length c, .slice a' DZ.length c']) ∧ Reads w' (.slice a LZ.length c) LZ ∧ Reads w' (.slice a' DZ.length c') DZ ∧ Below w.heap.size w w' := by
  obtain ⟨sX, LX, DX, kX⟩ := RCan.ex X
  obtain ⟨sY, LY, DY, kY⟩ := RCan.ex Y
  have lX := hX.lens kX
  have lY := hY.lens kY
  have kp1 := fun (W : World) (h1 : Reads W (.slice p1 l1.length q1) l1) (h2 : Reads W (.slice o1 d1.length r1) d1) => partsOf_any hX kX (by omega) (by omega) h1 h2
  have kp2 := fun (W : World) (h1 : Reads W (.slice p2 l2.length q2) l2) (h2 : Reads W (.slice o2 d2.length r2) d2) => partsOf_any hY kY (by omega) (by omega) h1 h2
  have kf := fun (W : World) {aX oX aY oY : Option Addr} {cX rX cY rY : Nat} (hB : BoxN W cb 72 #[.func (.func J) #[] #[]]) (g1 : Reads W (.slice aX LX.length cX) LX) (g2 : Reads W (.slice oX DX.length rX) DX) (g3 : Reads W (.slice aY LY.length cY) LY) (g4 : Reads W (.slice oY DY.length rY) DY) => joinFn_any join hj kj hE hB kX kY kZ (by omega) (by omega) (by omega) (by omega) g1 g2 g3 g4
  have M : Mem w [(w.heap.size + 1 + 1, 27, [.bool false, .slice none 0 0, .slice none 0 0]), (w.heap.size + 1, 27, [.bool n2, .slice p2 l2.length q2, .slice o2 d2.length r2]), (w.heap.size, 27, [.bool n1, .slice p1 l1.length q1, .slice o1 d1.length r1])] [(.slice o2 d2.length r2, d2), (.slice p2 l2.length q2, l2), (.slice o1 d1.length r1, d1), (.slice p1 l1.length q1, l1)] (((w.alloc (.cells #[.bool n1, .slice p1 l1.length q1, .slice o1 d1.length r1] 27)).alloc (.cells #[.bool n2, .slice p2 l2.length q2, .slice o2 d2.length r2] 27)).alloc (.cells #[.bool false, .slice none 0 0, .slice none 0 0] 27)) := by
    have M := ((((((((Mem.start w).add g1).add g2).add g3).add g4).new 27 [.bool n1, .slice p1 l1.length q1, .slice o1 d1.length r1]).new 27 [.bool n2, .slice p2 l2.length q2, .slice o2 d2.length r2]).new 27 [.bool false, .slice none 0 0, .slice none 0 0])
    simpa only [World.size_alloc] using M
  clear g1 g2 g3 g4 b1 b2 b3 b4 kX kY lX lY hX hY kZ hj kj
  go_enter Tryz.func48, Tryz.ntmps48
  go_wp2
  refine region_mem (S := (fun W => BoxN W (w.heap.size) 27 #[.bool n1, .slice p1 l1.length q1, .slice o1 d1.length r1] ∧ BoxN W (w.heap.size + 1) 27 #[.bool n2, .slice p2 l2.length q2, .slice o2 d2.length r2] ∧ BoxN W (cb) 72 #[.func (.func J) #[] #[]])) M (by kernel_rfl) ?_
  intro V0 M
  have hS0 : (fun W => BoxN W (w.heap.size) 27 #[.bool n1, .slice p1 l1.length q1, .slice o1 d1.length r1] ∧ BoxN W (w.heap.size + 1) 27 #[.bool n2, .slice p2 l2.length q2, .slice o2 d2.length r2] ∧ BoxN W (cb) 72 #[.func (.func J) #[] #[]]) V0 := ⟨M.box 2 rfl, M.box 1 rfl, M.old hcb⟩
  refine wpAnyH_take (i := 0) (oi := ⟨_, _, _, _, _, _⟩) (v := (.func (.func 139) #[] #[.pointer (some ⟨cb, 0, none⟩)])) rfl (by kernel_rfl) (by kernel_rfl) (by kernel_rfl) (fun _ _ _ h => h) (Or.inl ⟨by rfl, fun W3 hS => by obtain ⟨hS1, hS2, hS3⟩ := hS; go_simp⟩) hS0 ?_
  refine wpAnyH_take (i := 1) (oi := ⟨_, _, _, _, _, _⟩) (v := (.agg #[.bool n1, .slice p1 l1.length q1, .slice o1 d1.length r1])) rfl (by kernel_rfl) (by kernel_rfl) (by kernel_rfl) (fun _ _ _ h => h) (Or.inl ⟨by rfl, fun W3 hS => by obtain ⟨hS1, hS2, hS3⟩ := hS; have c1_0 := hS1.cell 0 _ rfl; have c1_1 := hS1.cell 1 _ rfl; have c1_2 := hS1.cell 2 _ rfl; go_simp⟩) hS0 ?_
  refine wpAnyH_take (i := 3) (oi := ⟨_, _, _, _, _, _⟩) (v := (.agg #[.bool n2, .slice p2 l2.length q2, .slice o2 d2.length r2])) rfl (by kernel_rfl) (by kernel_rfl) (by kernel_rfl) (fun _ _ _ h => h) (Or.inl ⟨by rfl, fun W3 hS => by obtain ⟨hS1, hS2, hS3⟩ := hS; have c2_0 := hS2.cell 0 _ rfl; have c2_1 := hS2.cell 1 _ rfl; have c2_2 := hS2.cell 2 _ rfl; go_simp⟩) hS0 ?_
  clear hS0
  try simp only [Act.put, List.setIfInBounds_toArray, List.set_cons_zero, List.set_cons_succ]
  refine wpAnyH_all (rs := [2]) (by kernel_rfl) (by simp) ?_
  intro i hi
  obtain rfl : i = 2 := by simpa using hi
  refine wpOp_intro rfl (fun K1 hK => ?_)
  clear hi
  go_simp
  refine (kp1 _ (M.get 3 rfl) (M.get 2 rfl)).mono ?_
  rintro e V1_2 ⟨aX, cX, oX, rX, rfl, g, g', rr⟩
  have M' := ((M.up rr).add g).add g'
  clear M rr g g'
  have M := M'; clear M'
  refine hK _ _ ⟨⟨M.box 2 rfl, M.box 1 rfl, M.old hcb⟩, ?_⟩
  clear hK K1
  refine wpAnyH_all (rs := [4]) (by kernel_rfl) (by simp) ?_
  intro i hi
  obtain rfl : i = 4 := by simpa using hi
  refine wpOp_intro rfl (fun K2 hK => ?_)
  clear hi
  go_simp
  refine (kp2 _ (M.get 3 rfl) (M.get 2 rfl)).mono ?_
  rintro e V2_4 ⟨aY, cY, oY, rY, rfl, g, g', rr⟩
  have M' := ((M.up rr).add g).add g'
  clear M rr g g'
  have M := M'; clear M'
  refine hK _ _ ⟨⟨M.box 2 rfl, M.box 1 rfl, M.old hcb⟩, ?_⟩
  clear hK K2
  refine wpAnyH_all (rs := [5]) (by kernel_rfl) (by simp) ?_
  intro i hi
  obtain rfl : i = 5 := by simpa using hi
  refine wpOp_intro rfl (fun K3 hK => ?_)
  clear hi
  go_simp
  refine (kf _ (M.old hcb) (M.get 3 rfl) (M.get 2 rfl) (M.get 1 rfl) (M.get 0 rfl)).mono ?_
  rintro e V3_5 ⟨a, c, a', c', rfl, g, g', rr⟩
  have M' := ((M.up rr).add g).add g'
  clear M rr g g'
  have M := M'; clear M'
  refine hK _ _ ⟨⟨M.box 2 rfl, M.box 1 rfl, M.old hcb⟩, ?_⟩
  clear hK K3
  have f0_0 := M.fr 0 rfl 0; have f0_1 := M.fr 0 rfl 1; have f0_2 := M.fr 0 rfl 2
  have z0_0 := M.cell 0 rfl 0 rfl; have z0_1 := M.cell 0 rfl 1 rfl; have z0_2 := M.cell 0 rfl 2 rfl
  refine wpAnyH_all (rs := [6]) (by kernel_rfl) (by simp) ?_
  intro i hi
  obtain rfl : i = 6 := by simpa using hi
  refine wpOp_intro rfl (fun Ks4 hK => ?_)
  clear hi
  go_simp
  have M' := (((M.put 0 rfl rfl 0 (.bool sZ)).put 0 rfl rfl 1 (.slice a LZ.length c)).put 0 rfl rfl 2 (.slice a' DZ.length c'))
  clear M f0_0 z0_0 f0_1 z0_1 f0_2 z0_2
  have M : Mem w [(w.heap.size + 1 + 1, 27, [.bool sZ, .slice a LZ.length c, .slice a' DZ.length c']), (w.heap.size + 1, 27, [.bool n2, .slice p2 l2.length q2, .slice o2 d2.length r2]), (w.heap.size, 27, [.bool n1, .slice p1 l1.length q1, .slice o1 d1.length r1])] [(.slice a' DZ.length c', DZ), (.slice a LZ.length c, LZ), (.slice oY DY.length rY, DY), (.slice aY LY.length cY, LY), (.slice oX DX.length rX, DX), (.slice aX LX.length cX, LX), (.slice o2 d2.length r2, d2), (.slice p2 l2.length q2, l2), (.slice o1 d1.length r1, d1), (.slice p1 l1.length q1, l1)] _ := M'
  clear M'
  refine hK _ _ ⟨⟨M.box 2 rfl, M.box 1 rfl, M.old hcb⟩, ?_⟩
  clear hK Ks4
  refine wpAnyH_done (by kernel_rfl) ?_ _
  go_wp2
  refine ret_boxN rfl rfl (M.box 0 rfl) Tryz.underlying27 size_rat rfl ?_
  exact ⟨a, c, a', c', rfl, M.get 1 rfl, M.get 0 rfl, M.below⟩
set_option maxRecDepth 100000 in
set_option maxHeartbeats 8000000 in
theorem r_add {w : World} {p1 o1 p2 o2 : Option Addr} {q1 r1 q2 r2 : Nat} {n1 n2 sZ : Bool} {l1 d1 l2 d2 LZ DZ : List Nat} {X Y Z : Rat} (hX : RIs n1 l1 d1 X) (hY : RIs n2 l2 d2 Y) (kZ : RCan sZ LZ DZ Z) (eZ : Z = X + Y) (b1 : l1.length ≤ 9999) (b2 : d1.length ≤ 9999) (b3 : l2.length ≤ 9999) (b4 : d2.length ≤ 9999) (g1 : Reads w (.slice p1 l1.length q1) l1) (g2 : Reads w (.slice o1 d1.length r1) d1) (g3 : Reads w (.slice p2 l2.length q2) l2) (g4 : Reads w (.slice o2 d2.length r2) d2) :
    Calls Tryz.prog 10 #[.agg #[.bool n1, .slice p1 l1.length q1, .slice o1 d1.length r1], .agg #[.bool n2, .slice p2 l2.length q2, .slice o2 d2.length r2]] w fun e w' => ∃ a c a' c', e = .returned (.agg #[.bool sZ, .slice a LZ.length c, .slice a' DZ.length c']) ∧ Reads w' (.slice a LZ.length c) LZ ∧ Reads w' (.slice a' DZ.length c') DZ ∧ Below w.heap.size w w' := by
  have kj := fun W => joined_any 50 W
  have ko := fun (W : World) {cb : Nat} (hB : BoxN W cb 72 #[.func (.func 50) #[] #[]]) (g1 : Reads W (.slice p1 l1.length q1) l1) (g2 : Reads W (.slice o1 d1.length r1) d1) (g3 : Reads W (.slice p2 l2.length q2) l2) (g4 : Reads W (.slice o2 d2.length r2) d2) => ofTwo_join (w := W) (fun a b => a + b) (.inl ⟨rfl, eZ⟩) (fun W _ _ _ _ _ _ _ _ _ _ _ _ _ hA hB hC e l1 l2 h1 h2 => q_add hA hB hC e l1 l2 h1 h2) (enters_of Tryz.func50 (by kernel_rfl) rfl) hB hX hY kZ b1 b2 b3 b4 g1 g2 g3 g4
  have M : Mem w [(w.heap.size + 1 + 1, 27, [.bool false, .slice none 0 0, .slice none 0 0]), (w.heap.size + 1, 27, [.bool n2, .slice p2 l2.length q2, .slice o2 d2.length r2]), (w.heap.size, 27, [.bool n1, .slice p1 l1.length q1, .slice o1 d1.length r1])] [(.slice o2 d2.length r2, d2), (.slice p2 l2.length q2, l2), (.slice o1 d1.length r1, d1), (.slice p1 l1.length q1, l1)] (((w.alloc (.cells #[.bool n1, .slice p1 l1.length q1, .slice o1 d1.length r1] 27)).alloc (.cells #[.bool n2, .slice p2 l2.length q2, .slice o2 d2.length r2] 27)).alloc (.cells #[.bool false, .slice none 0 0, .slice none 0 0] 27)) := by
    have M := ((((((((Mem.start w).add g1).add g2).add g3).add g4).new 27 [.bool n1, .slice p1 l1.length q1, .slice o1 d1.length r1]).new 27 [.bool n2, .slice p2 l2.length q2, .slice o2 d2.length r2]).new 27 [.bool false, .slice none 0 0, .slice none 0 0])
    simpa only [World.size_alloc] using M
  clear g1 g2 g3 g4 b1 b2 b3 b4 hX hY kZ eZ
  go_enter Tryz.func10, Tryz.ntmps10
  go_wp2
  refine region_mem (S := (fun W => BoxN W (w.heap.size) 27 #[.bool n1, .slice p1 l1.length q1, .slice o1 d1.length r1] ∧ BoxN W (w.heap.size + 1) 27 #[.bool n2, .slice p2 l2.length q2, .slice o2 d2.length r2])) M (by kernel_rfl) ?_
  intro V0 M
  have hS0 : (fun W => BoxN W (w.heap.size) 27 #[.bool n1, .slice p1 l1.length q1, .slice o1 d1.length r1] ∧ BoxN W (w.heap.size + 1) 27 #[.bool n2, .slice p2 l2.length q2, .slice o2 d2.length r2]) V0 := ⟨M.box 2 rfl, M.box 1 rfl⟩
  refine wpAnyH_take (i := 0) (oi := ⟨_, _, _, _, _, _⟩) (v := (.agg #[.bool n1, .slice p1 l1.length q1, .slice o1 d1.length r1])) rfl (by kernel_rfl) (by kernel_rfl) (by kernel_rfl) (fun _ _ _ h => h) (Or.inl ⟨by rfl, fun W3 hS => by obtain ⟨hS1, hS2⟩ := hS; have c1_0 := hS1.cell 0 _ rfl; have c1_1 := hS1.cell 1 _ rfl; have c1_2 := hS1.cell 2 _ rfl; go_simp⟩) hS0 ?_
  refine wpAnyH_take (i := 1) (oi := ⟨_, _, _, _, _, _⟩) (v := (.agg #[.bool n2, .slice p2 l2.length q2, .slice o2 d2.length r2])) rfl (by kernel_rfl) (by kernel_rfl) (by kernel_rfl) (fun _ _ _ h => h) (Or.inl ⟨by rfl, fun W3 hS => by obtain ⟨hS1, hS2⟩ := hS; have c2_0 := hS2.cell 0 _ rfl; have c2_1 := hS2.cell 1 _ rfl; have c2_2 := hS2.cell 2 _ rfl; go_simp⟩) hS0 ?_
  clear hS0
  try simp only [Act.put, List.setIfInBounds_toArray, List.set_cons_zero, List.set_cons_succ]
  refine wpAnyH_all (rs := [2]) (by kernel_rfl) (by simp) ?_
  intro i hi
  obtain rfl : i = 2 := by simpa using hi
  refine wpOp_intro rfl (fun K1 hK => ?_)
  clear hi
  go_simp
  refine (kj _).mono ?_
  rintro e V1_2 ⟨cb, rfl, hcb, rr⟩
  have M' := M.up rr
  clear M rr 
  have M := M'; clear M'
  refine hK _ _ ⟨⟨M.box 2 rfl, M.box 1 rfl⟩, ?_⟩
  clear hK K1
  refine wpAnyH_all (rs := [3]) (by kernel_rfl) (by simp) ?_
  intro i hi
  obtain rfl : i = 3 := by simpa using hi
  refine wpOp_intro rfl (fun K2 hK => ?_)
  clear hi
  go_simp
  refine (ko _ hcb (M.get 3 rfl) (M.get 2 rfl) (M.get 1 rfl) (M.get 0 rfl)).mono ?_
  rintro e V2_3 ⟨a, c, a', c', rfl, g, g', rr⟩
  have M' := ((M.up rr).add g).add g'
  clear M rr g g'
  have M := M'; clear M'
  refine hK _ _ ⟨⟨M.box 2 rfl, M.box 1 rfl⟩, ?_⟩
  clear hK K2
  have f0_0 := M.fr 0 rfl 0; have f0_1 := M.fr 0 rfl 1; have f0_2 := M.fr 0 rfl 2
  have z0_0 := M.cell 0 rfl 0 rfl; have z0_1 := M.cell 0 rfl 1 rfl; have z0_2 := M.cell 0 rfl 2 rfl
  refine wpAnyH_all (rs := [4]) (by kernel_rfl) (by simp) ?_
  intro i hi
  obtain rfl : i = 4 := by simpa using hi
  refine wpOp_intro rfl (fun Ks3 hK => ?_)
  clear hi
  go_simp
  have M' := (((M.put 0 rfl rfl 0 (.bool sZ)).put 0 rfl rfl 1 (.slice a LZ.length c)).put 0 rfl rfl 2 (.slice a' DZ.length c'))
  clear M f0_0 z0_0 f0_1 z0_1 f0_2 z0_2
  have M : Mem w [(w.heap.size + 1 + 1, 27, [.bool sZ, .slice a LZ.length c, .slice a' DZ.length c']), (w.heap.size + 1, 27, [.bool n2, .slice p2 l2.length q2, .slice o2 d2.length r2]), (w.heap.size, 27, [.bool n1, .slice p1 l1.length q1, .slice o1 d1.length r1])] [(.slice a' DZ.length c', DZ), (.slice a LZ.length c, LZ), (.slice o2 d2.length r2, d2), (.slice p2 l2.length q2, l2), (.slice o1 d1.length r1, d1), (.slice p1 l1.length q1, l1)] _ := M'
  clear M'
  refine hK _ _ ⟨⟨M.box 2 rfl, M.box 1 rfl⟩, ?_⟩
  clear hK Ks3
  refine wpAnyH_done (by kernel_rfl) ?_ _
  go_wp2
  refine ret_boxN rfl rfl (M.box 0 rfl) Tryz.underlying27 size_rat rfl ?_
  exact ⟨a, c, a', c', rfl, M.get 1 rfl, M.get 0 rfl, M.below⟩
set_option maxRecDepth 100000 in
set_option maxHeartbeats 8000000 in
theorem r_sub {w : World} {p1 o1 p2 o2 : Option Addr} {q1 r1 q2 r2 : Nat} {n1 n2 sZ : Bool} {l1 d1 l2 d2 LZ DZ : List Nat} {X Y Z : Rat} (hX : RIs n1 l1 d1 X) (hY : RIs n2 l2 d2 Y) (kZ : RCan sZ LZ DZ Z) (eZ : Z = X - Y) (b1 : l1.length ≤ 9999) (b2 : d1.length ≤ 9999) (b3 : l2.length ≤ 9999) (b4 : d2.length ≤ 9999) (g1 : Reads w (.slice p1 l1.length q1) l1) (g2 : Reads w (.slice o1 d1.length r1) d1) (g3 : Reads w (.slice p2 l2.length q2) l2) (g4 : Reads w (.slice o2 d2.length r2) d2) :
    Calls Tryz.prog 11 #[.agg #[.bool n1, .slice p1 l1.length q1, .slice o1 d1.length r1], .agg #[.bool n2, .slice p2 l2.length q2, .slice o2 d2.length r2]] w fun e w' => ∃ a c a' c', e = .returned (.agg #[.bool sZ, .slice a LZ.length c, .slice a' DZ.length c']) ∧ Reads w' (.slice a LZ.length c) LZ ∧ Reads w' (.slice a' DZ.length c') DZ ∧ Below w.heap.size w w' := by
  have kj := fun W => joined_any 51 W
  have ko := fun (W : World) {cb : Nat} (hB : BoxN W cb 72 #[.func (.func 51) #[] #[]]) (g1 : Reads W (.slice p1 l1.length q1) l1) (g2 : Reads W (.slice o1 d1.length r1) d1) (g3 : Reads W (.slice p2 l2.length q2) l2) (g4 : Reads W (.slice o2 d2.length r2) d2) => ofTwo_join (w := W) (fun a b => a - b) (.inr ⟨rfl, eZ⟩) (fun W _ _ _ _ _ _ _ _ _ _ _ _ _ hA hB hC e l1 l2 h1 h2 => q_sub hA hB hC e l1 l2 h1 h2) (enters_of Tryz.func51 (by kernel_rfl) rfl) hB hX hY kZ b1 b2 b3 b4 g1 g2 g3 g4
  have M : Mem w [(w.heap.size + 1 + 1, 27, [.bool false, .slice none 0 0, .slice none 0 0]), (w.heap.size + 1, 27, [.bool n2, .slice p2 l2.length q2, .slice o2 d2.length r2]), (w.heap.size, 27, [.bool n1, .slice p1 l1.length q1, .slice o1 d1.length r1])] [(.slice o2 d2.length r2, d2), (.slice p2 l2.length q2, l2), (.slice o1 d1.length r1, d1), (.slice p1 l1.length q1, l1)] (((w.alloc (.cells #[.bool n1, .slice p1 l1.length q1, .slice o1 d1.length r1] 27)).alloc (.cells #[.bool n2, .slice p2 l2.length q2, .slice o2 d2.length r2] 27)).alloc (.cells #[.bool false, .slice none 0 0, .slice none 0 0] 27)) := by
    have M := ((((((((Mem.start w).add g1).add g2).add g3).add g4).new 27 [.bool n1, .slice p1 l1.length q1, .slice o1 d1.length r1]).new 27 [.bool n2, .slice p2 l2.length q2, .slice o2 d2.length r2]).new 27 [.bool false, .slice none 0 0, .slice none 0 0])
    simpa only [World.size_alloc] using M
  clear g1 g2 g3 g4 b1 b2 b3 b4 hX hY kZ eZ
  go_enter Tryz.func11, Tryz.ntmps11
  go_wp2
  refine region_mem (S := (fun W => BoxN W (w.heap.size) 27 #[.bool n1, .slice p1 l1.length q1, .slice o1 d1.length r1] ∧ BoxN W (w.heap.size + 1) 27 #[.bool n2, .slice p2 l2.length q2, .slice o2 d2.length r2])) M (by kernel_rfl) ?_
  intro V0 M
  have hS0 : (fun W => BoxN W (w.heap.size) 27 #[.bool n1, .slice p1 l1.length q1, .slice o1 d1.length r1] ∧ BoxN W (w.heap.size + 1) 27 #[.bool n2, .slice p2 l2.length q2, .slice o2 d2.length r2]) V0 := ⟨M.box 2 rfl, M.box 1 rfl⟩
  refine wpAnyH_take (i := 0) (oi := ⟨_, _, _, _, _, _⟩) (v := (.agg #[.bool n1, .slice p1 l1.length q1, .slice o1 d1.length r1])) rfl (by kernel_rfl) (by kernel_rfl) (by kernel_rfl) (fun _ _ _ h => h) (Or.inl ⟨by rfl, fun W3 hS => by obtain ⟨hS1, hS2⟩ := hS; have c1_0 := hS1.cell 0 _ rfl; have c1_1 := hS1.cell 1 _ rfl; have c1_2 := hS1.cell 2 _ rfl; go_simp⟩) hS0 ?_
  refine wpAnyH_take (i := 1) (oi := ⟨_, _, _, _, _, _⟩) (v := (.agg #[.bool n2, .slice p2 l2.length q2, .slice o2 d2.length r2])) rfl (by kernel_rfl) (by kernel_rfl) (by kernel_rfl) (fun _ _ _ h => h) (Or.inl ⟨by rfl, fun W3 hS => by obtain ⟨hS1, hS2⟩ := hS; have c2_0 := hS2.cell 0 _ rfl; have c2_1 := hS2.cell 1 _ rfl; have c2_2 := hS2.cell 2 _ rfl; go_simp⟩) hS0 ?_
  clear hS0
  try simp only [Act.put, List.setIfInBounds_toArray, List.set_cons_zero, List.set_cons_succ]
  refine wpAnyH_all (rs := [2]) (by kernel_rfl) (by simp) ?_
  intro i hi
  obtain rfl : i = 2 := by simpa using hi
  refine wpOp_intro rfl (fun K1 hK => ?_)
  clear hi
  go_simp
  refine (kj _).mono ?_
  rintro e V1_2 ⟨cb, rfl, hcb, rr⟩
  have M' := M.up rr
  clear M rr 
  have M := M'; clear M'
  refine hK _ _ ⟨⟨M.box 2 rfl, M.box 1 rfl⟩, ?_⟩
  clear hK K1
  refine wpAnyH_all (rs := [3]) (by kernel_rfl) (by simp) ?_
  intro i hi
  obtain rfl : i = 3 := by simpa using hi
  refine wpOp_intro rfl (fun K2 hK => ?_)
  clear hi
  go_simp
  refine (ko _ hcb (M.get 3 rfl) (M.get 2 rfl) (M.get 1 rfl) (M.get 0 rfl)).mono ?_
  rintro e V2_3 ⟨a, c, a', c', rfl, g, g', rr⟩
  have M' := ((M.up rr).add g).add g'
  clear M rr g g'
  have M := M'; clear M'
  refine hK _ _ ⟨⟨M.box 2 rfl, M.box 1 rfl⟩, ?_⟩
  clear hK K2
  have f0_0 := M.fr 0 rfl 0; have f0_1 := M.fr 0 rfl 1; have f0_2 := M.fr 0 rfl 2
  have z0_0 := M.cell 0 rfl 0 rfl; have z0_1 := M.cell 0 rfl 1 rfl; have z0_2 := M.cell 0 rfl 2 rfl
  refine wpAnyH_all (rs := [4]) (by kernel_rfl) (by simp) ?_
  intro i hi
  obtain rfl : i = 4 := by simpa using hi
  refine wpOp_intro rfl (fun Ks3 hK => ?_)
  clear hi
  go_simp
  have M' := (((M.put 0 rfl rfl 0 (.bool sZ)).put 0 rfl rfl 1 (.slice a LZ.length c)).put 0 rfl rfl 2 (.slice a' DZ.length c'))
  clear M f0_0 z0_0 f0_1 z0_1 f0_2 z0_2
  have M : Mem w [(w.heap.size + 1 + 1, 27, [.bool sZ, .slice a LZ.length c, .slice a' DZ.length c']), (w.heap.size + 1, 27, [.bool n2, .slice p2 l2.length q2, .slice o2 d2.length r2]), (w.heap.size, 27, [.bool n1, .slice p1 l1.length q1, .slice o1 d1.length r1])] [(.slice a' DZ.length c', DZ), (.slice a LZ.length c, LZ), (.slice o2 d2.length r2, d2), (.slice p2 l2.length q2, l2), (.slice o1 d1.length r1, d1), (.slice p1 l1.length q1, l1)] _ := M'
  clear M'
  refine hK _ _ ⟨⟨M.box 2 rfl, M.box 1 rfl⟩, ?_⟩
  clear hK Ks3
  refine wpAnyH_done (by kernel_rfl) ?_ _
  go_wp2
  refine ret_boxN rfl rfl (M.box 0 rfl) Tryz.underlying27 size_rat rfl ?_
  exact ⟨a, c, a', c', rfl, M.get 1 rfl, M.get 0 rfl, M.below⟩
end Go.Proofs.YthnlmjnfdokdbaaGreatDoor

namespace Go.Proofs.YthnlmjnfdokdbaaGreatDoor
open Go Go.Proofs Go.RowKit Go.Shelf Nu

attribute [local go_sem] Oper.semAt_some

theorem canL' {L : List Nat} {A : Nat} (h : L = digs A) : Can false L (A : Int) := ⟨by simp, by rw [Int.natAbs_natCast]; exact h⟩
theorem field_one (b : Bool) (v : Value) (w : World) : (Instr.field 25 (.agg #[.bool b, v]) 1).run Tryz.prog w = .ok v w := by kernel_rfl
section
variable {w : World} {p1 p2 : Option Addr} {q1 q2 : Nat} {n s : Bool} {l d L D : List Nat} {X : Rat}
set_option maxRecDepth 100000 in
set_option maxHeartbeats 2000000 in
theorem r_whole (R : Bool) (hX : RIs n l d X) (e : decide (X.den = 1) = R) (l1 : l.length ≤ 40000) (l2 : d.length ≤ 40000) (h1 : Reads w (.slice p1 l.length q1) l) (h2 : Reads w (.slice p2 d.length q2) d) :
    Calls Tryz.prog 38 #[.agg #[.bool n, .slice p1 l.length q1, .slice p2 d.length q2]] w fun e w' => e = .returned (.bool R) ∧ Below w.heap.size w w' := by
  obtain ⟨s, L, D, cX⟩ := RCan.ex X
  have lX := hX.lens cX
  have M0 : Mem w [(w.heap.size, 27, [.bool n, .slice p1 l.length q1, .slice p2 d.length q2])] [(.slice p1 l.length q1, l), (.slice p2 d.length q2, d)] (w.alloc (.cells #[.bool n, .slice p1 l.length q1, .slice p2 d.length q2] 27)) := (((Mem.start w).add h2).add h1).new _ _
  have kp := partsOf_any hX cX (by omega) (by omega) (M0.get 0 rfl) (M0.get 1 rfl)
  have ko : ∀ (W : World) (a : Option Addr) (c : Nat) (g : Reads W (.slice a D.length c) D), Calls Tryz.prog 127 #[.slice a D.length c] W fun e w' => e = .returned (.bool R) ∧ Below W.heap.size W w' := fun W a c g => by
    obtain ⟨_, rfl⟩ := cX
    exact isOne_any g (by omega) R e
  clear h1 h2 hX cX lX l1 l2 e
  have ix := idx_below
  have ig := fun (b : Bool) (v : Value) (w : World) => field_one b v w
  go_enter Tryz.func38, Tryz.ntmps38
  go_wp2_with (first
    | (go_at_call 66; refine kp.mono ?_; clear kp; rintro e w1 ⟨a, c, a', c', rfl, g, g', rr⟩; have M := ((M0.up rr).add g).add g'; clear M0 g g' rr)
    | (go_at_call 127; refine (ko _ _ _ (M.get 0 rfl)).mono ?_; clear ko; rintro e w2 ⟨rfl, rr⟩; have M' := M.up rr; clear M rr))
  go_ret
  exact ⟨rfl, M'.below⟩

set_option maxRecDepth 100000 in
set_option maxHeartbeats 4000000 in
theorem r_floor (hX : RIs n l d X) (kF : Can s L X.floor) (l1 : l.length ≤ 20000) (l2 : d.length ≤ 20000) (h1 : Reads w (.slice p1 l.length q1) l) (h2 : Reads w (.slice p2 d.length q2) d) :
    Calls Tryz.prog 33 #[.agg #[.bool n, .slice p1 l.length q1, .slice p2 d.length q2]] w fun e w' => ∃ a c, e = .returned (.agg #[.bool s, .slice a L.length c]) ∧ Reads w' (.slice a L.length c) L ∧ Below w.heap.size w w' := by
  obtain ⟨sX, LX, DX, cX⟩ := RCan.ex X
  have lX := hX.lens cX
  have M0 : Mem w [(w.heap.size + 1, 25, [.bool false, .slice none 0 0]), (w.heap.size, 27, [.bool n, .slice p1 l.length q1, .slice p2 d.length q2])] [(.slice p1 l.length q1, l), (.slice p2 d.length q2, d)]
      ((w.alloc (.cells #[.bool n, .slice p1 l.length q1, .slice p2 d.length q2] 27)).alloc (.cells #[.bool false, .slice none 0 0] 25)) := by
    have M := ((((Mem.start w).add h2).add h1).new 27 [.bool n, .slice p1 l.length q1, .slice p2 d.length q2]).new 25 [.bool false, .slice none 0 0]
    simpa only [World.size_alloc] using M
  have kp := partsOf_any hX cX (by omega) (by omega) (M0.get 0 rfl) (M0.get 1 rfl)
  obtain ⟨q, r, hq, hr, hf⟩ := rfloor_parts X
  obtain ⟨Lq, hLq⟩ : ∃ L, L = digs q := ⟨_, rfl⟩
  obtain ⟨Lr, hLr⟩ : ∃ L, L = digs r := ⟨_, rfl⟩
  have kd : ∀ (W : World) {pa pb : Option Addr} {qa qb : Nat} (ga : Reads W (.slice pa LX.length qa) LX) (gb : Reads W (.slice pb DX.length qb) DX), Calls Tryz.prog 116 #[.slice pa LX.length qa, .slice pb DX.length qb] W fun e w' => ∃ a c b d, e = .returned (.tuple #[.slice a Lq.length c, .slice b Lr.length d, .int .i64 0]) ∧ Reads w' (.slice a Lq.length c) Lq ∧ Reads w' (.slice b Lr.length d) Lr ∧ Below W.heap.size W w' := by
    intro W pa pb qa qb ga gb
    subst hLq hLr
    obtain ⟨⟨_, rfl⟩, rfl⟩ := cX
    exact d_quo q r ga gb (by omega) (by omega) X.den_nz hq hr
  have lq : Lq.length ≤ 20000 := by
    have h3 : q ≤ X.num.natAbs := hq ▸ Nat.div_le_self _ _
    have := digs_mono h3
    rw [← cX.1.2, ← hLq] at this; omega
  have hsn := cX.1.1
  clear hX h1 h2 l1 l2 cX lX hq hr
  cases hs : sX with
  | false =>
    rw [hs] at hsn
    have hn : ¬ X.num < 0 := by simpa using hsn
    rw [if_neg hn] at hf
    rw [hf] at kF
    obtain ⟨rfl, rfl⟩ : s = false ∧ L = Lq := ⟨by rw [kF.1]; simp, by rw [kF.2, hLq, Int.natAbs_natCast]⟩
    subst hs
    clear hsn hn hf kF hLq hLr lq
    go_enter Tryz.func33, Tryz.ntmps33
    go_wp2_with (first
      | (go_at_call 66; refine kp.mono ?_; clear kp; rintro e w1 ⟨a, c, a', c', rfl, g, g', rr⟩; have M := (((M0.up rr).add g).add g').new 74 [.bool false, .slice a LX.length c, .bool false, .slice a' DX.length c']; clear M0 g g' rr)
      | (go_at_call 116; refine (kd _ (M.get 1 rfl) (M.get 0 rfl)).mono ?_; clear kd; rintro e w2 ⟨a1, c1, b1, e1, rfl, g, g', rr⟩; have M' := ((M.up rr).add g').add g; clear M g g' rr; have z0 := M'.cell 0 rfl 0 rfl; have z1 := M'.cell 1 rfl 0 rfl; have z2 := M'.cell 1 rfl 1 rfl; have f0 := M'.fr 1 rfl 0; have f1 := M'.fr 1 rfl 1))
    have M'' := (M'.put 1 rfl rfl 0 (.bool false)).put 1 rfl rfl 1 (.slice a1 L.length c1)
    refine ret_boxN rfl rfl (M''.box 1 rfl) Tryz.underlying25 size_int rfl ?_
    exact ⟨a1, c1, rfl, M''.get 0 rfl, M''.below⟩
  | true =>
    rw [hs] at hsn
    have hn : X.num < 0 := by simpa using hsn.symm
    rw [if_pos hn] at hf
    subst hs
    have ko := fun W => of_any 1 (by decide) W
    rcases Nat.eq_zero_or_pos r with h0 | h0
    · rw [if_neg (by omega)] at hf
      rw [hf] at kF
      have hq0 : q ≠ 0 := by
        rintro rfl
        have h1 := Rat.floor_le X
        have h2 := Rat.lt_floor_add_one X
        rw [hf] at h1 h2
        have h3 : X.floor = X.num / (X.den : Int) := rat_floor X
        have h4 : X.num / (X.den : Int) < 0 := Int.ediv_neg_of_neg_of_pos hn (by have := X.den_pos; omega)
        omega
      obtain ⟨rfl, rfl⟩ : s = true ∧ L = Lq := ⟨by rw [kF.1]; simp; omega, by rw [kF.2, hLq, Int.natAbs_neg, Int.natAbs_natCast]⟩
      have hl : Lr.length = 0 := by rw [hLr, h0, digs_zero]; rfl
      have hl2 : decide ((0 : Int) < (Lr.length : Int)) = false := decide_eq_false (by omega)
      have hl3 : ¬ (0 : Int) < (Lr.length : Int) := by omega
      clear hsn hn hf kF hLq hLr h0 hq0 lq ko hl
      go_enter Tryz.func33, Tryz.ntmps33
      go_wp2_with (first
        | (go_at_call 66; refine kp.mono ?_; clear kp; rintro e w1 ⟨a, c, a', c', rfl, g, g', rr⟩; have M := (((M0.up rr).add g).add g').new 74 [.bool true, .slice a LX.length c, .bool false, .slice a' DX.length c']; clear M0 g g' rr)
        | (go_at_call 116; refine (kd _ (M.get 1 rfl) (M.get 0 rfl)).mono ?_; clear kd; rintro e w2 ⟨a1, c1, b1, e1, rfl, g, g', rr⟩; have M' := ((M.up rr).add g').add g; clear M g g' rr; have z0 := M'.cell 0 rfl 0 rfl; have z1 := M'.cell 1 rfl 0 rfl; have z2 := M'.cell 1 rfl 1 rfl; have f0 := M'.fr 1 rfl 0; have f1 := M'.fr 1 rfl 1))
      have M'' := (M'.put 1 rfl rfl 0 (.bool true)).put 1 rfl rfl 1 (.slice a1 L.length c1)
      refine ret_boxN rfl rfl (M''.box 1 rfl) Tryz.underlying25 size_int rfl ?_
      exact ⟨a1, c1, rfl, M''.get 0 rfl, M''.below⟩
    · rw [if_pos h0] at hf
      rw [hf] at kF
      obtain ⟨rfl, hL⟩ : s = true ∧ L = digs (q + 1) := ⟨by rw [kF.1]; simp <;> omega, by rw [kF.2, Int.natAbs_neg, Int.natAbs_natCast]⟩
      have hl : 0 < Lr.length := by rw [hLr]; exact digs_len_pos (by omega)
      have hl2 : decide ((0 : Int) < (Lr.length : Int)) = true := decide_eq_true (by omega)
      have hl3 : (0 : Int) < (Lr.length : Int) := by omega
      have ka : ∀ (W : World) {pa pb : Option Addr} {qa qb : Nat} (ga : Reads W (.slice pa Lq.length qa) Lq) (gb : Reads W (.slice pb (digs 1).length qb) (digs 1)), Calls Tryz.prog 117 #[.slice pa Lq.length qa, .slice pb (digs 1).length qb] W fun e w' => ∃ a c, e = .returned (.slice a L.length c) ∧ Reads w' (.slice a L.length c) L ∧ Below W.heap.size W w' := by
        intro W pa pb qa qb ga gb
        subst hLq hL
        exact d_add (q + 1) ga gb (by omega) (by rw [digs_one_len]; omega) rfl
      clear hsn hn hf kF hLq hLr h0 lq hl hL
      go_enter Tryz.func33, Tryz.ntmps33
      go_wp2_with (first
        | (go_at_call 66; refine kp.mono ?_; clear kp; rintro e w1 ⟨a, c, a', c', rfl, g, g', rr⟩; have M := (((M0.up rr).add g).add g').new 74 [.bool true, .slice a LX.length c, .bool false, .slice a' DX.length c']; clear M0 g g' rr)
        | (go_at_call 116; refine (kd _ (M.get 1 rfl) (M.get 0 rfl)).mono ?_; clear kd; rintro e w2 ⟨a1, c1, b1, e1, rfl, g, g', rr⟩; have M' := ((M.up rr).add g').add g; clear M g g' rr; have z0 := M'.cell 0 rfl 0 rfl)
        | (go_at_call 118; refine (ko _).mono ?_; clear ko; rintro e w3 ⟨v, rfl, fv, rr⟩; obtain ⟨a2, c2, rfl⟩ := fv.reads.form; have M := (M'.up rr).add fv.reads; clear M' fv rr)
        | (go_at_call 117; refine (ka _ (M.get 1 rfl) (M.get 0 rfl)).mono ?_; clear ka; rintro e w4 ⟨a3, c3, rfl, g, rr⟩; have M' := (M.up rr).add g; clear M g rr; have z1 := M'.cell 1 rfl 0 rfl; have z2 := M'.cell 1 rfl 1 rfl; have f0 := M'.fr 1 rfl 0; have f1 := M'.fr 1 rfl 1))
      have M'' := (M'.put 1 rfl rfl 0 (.bool true)).put 1 rfl rfl 1 (.slice a3 L.length c3)
      refine ret_boxN rfl rfl (M''.box 1 rfl) Tryz.underlying25 size_int rfl ?_
      exact ⟨a3, c3, rfl, M''.get 0 rfl, M''.below⟩
end
end Go.Proofs.YthnlmjnfdokdbaaGreatDoor

namespace Go.Proofs.YthnlmjnfdokdbaaGreatDoor
open Go Go.Proofs Go.RowKit Go.Shelf Nu

attribute [local go_sem] Oper.semAt_some

theorem itxt_size {s : Bool} {L : List Nat} {X : Int} (h : Can s L X) : (itxt X).size ≤ 10 * L.length + 2 := by
  have := low_len_val (sm_digs X.natAbs)
  rw [val_digs, ← h.2] at this
  unfold itxt
  split
  · have h1 : (⟨#[45]⟩ : ByteArray).size = 1 := rfl
    rw [ByteArray.size_append, txt_size, h1]; omega
  · rw [txt_size]; omega
/-- a fraction's text -/
def rtxt (X : Rat) : ByteArray := if X.den = 1 then itxt X.num else itxt X.num ++ ⟨#[47]⟩ ++ txt X.den

set_option maxRecDepth 100000 in
set_option maxHeartbeats 8000000 in
theorem r_text {w : World} {p1 o1 : Option Addr} {q1 r1 : Nat} {n1 : Bool} {l1 d1 : List Nat} {X : Rat} (S : ByteArray) (hX : RIs n1 l1 d1 X) (eS : S = rtxt X) (b1 : l1.length ≤ 9999) (b2 : d1.length ≤ 9999) (g1 : Reads w (.slice p1 l1.length q1) l1) (g2 : Reads w (.slice o1 d1.length r1) d1) :
    Calls Tryz.prog 42 #[.agg #[.bool n1, .slice p1 l1.length q1, .slice o1 d1.length r1]] w fun e w' => e = .returned (.string S) ∧ Below w.heap.size w w' := by
  obtain ⟨sX, LX, DX, kX⟩ := RCan.ex X
  have lX := hX.lens kX
  have kp := fun (W : World) (h1 : Reads W (.slice p1 l1.length q1) l1) (h2 : Reads W (.slice o1 d1.length r1) d1) => partsOf_any hX kX (by omega) (by omega) h1 h2
  obtain ⟨S1, hS1⟩ : ∃ S1, S1 = itxt X.num := ⟨_, rfl⟩
  have ki := fun (W : World) {a : Option Addr} {c : Nat} (g : Reads W (.slice a LX.length c) LX) => q_text S1 kX.1.is hS1 (by omega) g
  obtain ⟨R, hR⟩ : ∃ R, decide (X.den = 1) = R := ⟨_, rfl⟩
  have ko : ∀ (W : World) {a : Option Addr} {c : Nat} (g : Reads W (.slice a DX.length c) DX), Calls Tryz.prog 127 #[.slice a DX.length c] W fun e w' => e = .returned (.bool R) ∧ Below W.heap.size W w' := fun W a c g => by
    obtain ⟨_, rfl⟩ := kX
    exact isOne_any g (by omega) R hR
  cases hRb : R with
  | true =>
    subst hRb
    have hd : X.den = 1 := of_decide_eq_true hR
    obtain rfl : S = S1 := by rw [eS, hS1]; unfold rtxt; rw [if_pos hd]
    have M : Mem w [(w.heap.size, 27, [.bool n1, .slice p1 l1.length q1, .slice o1 d1.length r1])] [(.slice o1 d1.length r1, d1), (.slice p1 l1.length q1, l1)] (w.alloc (.cells #[.bool n1, .slice p1 l1.length q1, .slice o1 d1.length r1] 27)) := by
      have M := ((((Mem.start w).add g1).add g2).new 27 [.bool n1, .slice p1 l1.length q1, .slice o1 d1.length r1])
      simpa only [World.size_alloc] using M
    clear g1 g2 b1 b2 hX kX lX hR hd eS hS1
    go_enter Tryz.func42, Tryz.ntmps42
    go_wp2_with (first
      | (go_at_call 66; refine (kp _ (M.get 1 rfl) (M.get 0 rfl)).mono ?_; clear kp; rintro e w1 ⟨aX, cX, oX, rX, rfl, g, g', rr⟩; have M' := (((M.up rr).add g).add g').new 74 [.bool sX, .slice aX LX.length cX, .bool false, .slice oX DX.length rX]; clear M g g' rr; have M := M'; clear M')
      | (go_at_call 127; refine (ko _ (M.get 0 rfl)).mono ?_; clear ko; rintro e w2 ⟨rfl, rr⟩; have M' := M.up rr; clear M rr; have M := M'; clear M'; have z0_0 := M.cell 0 rfl 0 rfl; have z0_1 := M.cell 0 rfl 1 rfl; have z0_2 := M.cell 0 rfl 2 rfl; have z0_3 := M.cell 0 rfl 3 rfl)
      | (go_at_call 133; refine (ki _ (M.get 1 rfl)).mono ?_; clear ki; rintro e w3 ⟨rfl, rr⟩; have M' := M.up rr; clear M rr z0_0 z0_1 z0_2 z0_3))
    go_ret
    exact ⟨rfl, M'.below⟩
  | false =>
    subst hRb
    have hd : X.den ≠ 1 := of_decide_eq_false hR
    obtain ⟨S2, hS2⟩ : ∃ S2, S2 = txt X.den := ⟨_, rfl⟩
    obtain rfl : S = S1 ++ ⟨#[47]⟩ ++ S2 := by rw [eS, hS1, hS2]; unfold rtxt; rw [if_neg hd]
    have kt : ∀ (W : World) {a : Option Addr} {c : Nat} (g : Reads W (.slice a DX.length c) DX), Calls Tryz.prog 134 #[.slice a DX.length c] W fun e w' => e = .returned (.string S2) ∧ Below W.heap.size W w' := fun W a c g => by
      obtain ⟨_, rfl⟩ := kX
      exact text_any g (sm_digs _) (chk_digs _) (by omega) S2 (by rw [val_digs, hS2]; rfl)
    have z1 : S1.size ≤ 1000000 := by
      rw [hS1]
      have := itxt_size kX.1
      omega
    have z2 : S2.size ≤ 1000000 := by
      rw [hS2, txt_size]
      have := low_len_val (sm_digs X.den)
      rw [val_digs, ← kX.2] at this
      omega
    have y1 : ¬ 9223372036854775807 < S1.size + 1 := by omega
    have y2 : ¬ 9223372036854775807 < S1.size + 1 + S2.size := by omega
    have M : Mem w [(w.heap.size, 27, [.bool n1, .slice p1 l1.length q1, .slice o1 d1.length r1])] [(.slice o1 d1.length r1, d1), (.slice p1 l1.length q1, l1)] (w.alloc (.cells #[.bool n1, .slice p1 l1.length q1, .slice o1 d1.length r1] 27)) := by
      have M := ((((Mem.start w).add g1).add g2).new 27 [.bool n1, .slice p1 l1.length q1, .slice o1 d1.length r1])
      simpa only [World.size_alloc] using M
    clear g1 g2 b1 b2 hX kX lX hR hd eS hS1 hS2 z1 z2
    go_enter Tryz.func42, Tryz.ntmps42
    go_wp2_with (first
      | (go_at_call 66; refine (kp _ (M.get 1 rfl) (M.get 0 rfl)).mono ?_; clear kp; rintro e w1 ⟨aX, cX, oX, rX, rfl, g, g', rr⟩; have M' := (((M.up rr).add g).add g').new 74 [.bool sX, .slice aX LX.length cX, .bool false, .slice oX DX.length rX]; clear M g g' rr; have M := M'; clear M')
      | (go_at_call 127; refine (ko _ (M.get 0 rfl)).mono ?_; clear ko; rintro e w2 ⟨rfl, rr⟩; have M' := M.up rr; clear M rr; have M := M'; clear M'; have z0_0 := M.cell 0 rfl 0 rfl; have z0_1 := M.cell 0 rfl 1 rfl; have z0_2 := M.cell 0 rfl 2 rfl; have z0_3 := M.cell 0 rfl 3 rfl))
    clear z0_0 z0_1 z0_2 z0_3
    refine region_mem (S := (fun W => BoxN W (w1.heap.size) 74 #[.bool sX, .slice aX LX.length cX, .bool false, .slice oX DX.length rX])) M (by kernel_rfl) ?_
    intro V0 M
    have hS0 : (fun W => BoxN W (w1.heap.size) 74 #[.bool sX, .slice aX LX.length cX, .bool false, .slice oX DX.length rX]) V0 := M.box 0 rfl
    refine wpAnyH_take (i := 0) (v := (.pointer (some ⟨w1.heap.size, 0, none⟩))) rfl (by kernel_rfl) (by kernel_rfl) (by kernel_rfl) (fun _ _ _ h => h) (Or.inl ⟨by rfl, fun W3 hS => by have hS1 := hS; go_simp⟩) hS0 ?_
    refine wpAnyH_take (i := 1) (v := (.agg #[.bool sX, .slice aX LX.length cX])) rfl (by kernel_rfl) (by kernel_rfl) (by kernel_rfl) (fun _ _ _ h => h) (Or.inl ⟨by rfl, fun W3 hS => by have hS1 := hS; have c1_0 := hS1.cell 0 _ rfl; have c1_1 := hS1.cell 1 _ rfl; have c1_2 := hS1.cell 2 _ rfl; have c1_3 := hS1.cell 3 _ rfl; go_simp⟩) hS0 ?_
    refine wpAnyH_take (i := 4) (v := (.pointer (some ⟨w1.heap.size, 2, none⟩))) rfl (by kernel_rfl) (by kernel_rfl) (by kernel_rfl) (fun _ _ _ h => h) (Or.inl ⟨by rfl, fun W3 hS => by have hS1 := hS; go_simp⟩) hS0 ?_
    refine wpAnyH_take (i := 5) (v := (.pointer (some ⟨w1.heap.size, 3, none⟩))) rfl (by kernel_rfl) (by kernel_rfl) (by kernel_rfl) (fun _ _ _ h => h) (Or.inl ⟨by rfl, fun W3 hS => by have hS1 := hS; go_simp⟩) hS0 ?_
    refine wpAnyH_take (i := 6) (v := (.slice oX DX.length rX)) rfl (by kernel_rfl) (by kernel_rfl) (by kernel_rfl) (fun _ _ _ h => h) (Or.inl ⟨by rfl, fun W3 hS => by have hS1 := hS; have c1_0 := hS1.cell 0 _ rfl; have c1_1 := hS1.cell 1 _ rfl; have c1_2 := hS1.cell 2 _ rfl; have c1_3 := hS1.cell 3 _ rfl; go_simp⟩) hS0 ?_
    clear hS0
    try simp only [Act.put, List.setIfInBounds_toArray, List.set_cons_zero, List.set_cons_succ]
    refine wpAnyH_all (rs := [2]) (by kernel_rfl) (by simp) ?_
    intro i hi
    obtain rfl : i = 2 := by simpa using hi
    refine wpOp_intro rfl (fun K1 hK => ?_)
    clear hi
    go_simp
    refine (ki _ (M.get 1 rfl)).mono ?_
    rintro e V1_2 ⟨rfl, rr⟩
    have M' := M.up rr
    clear M rr 
    have M := M'; clear M'
    refine hK _ _ ⟨M.box 0 rfl, ?_⟩
    clear hK K1
    have hS0 : (fun W => BoxN W (w1.heap.size) 74 #[.bool sX, .slice aX LX.length cX, .bool false, .slice oX DX.length rX]) _ := M.box 0 rfl
    refine wpAnyH_take (i := 3) (v := (.string (S1 ++ ⟨#[47]⟩))) rfl (by kernel_rfl) (by kernel_rfl) (by kernel_rfl) (fun _ _ _ h => h) (Or.inl ⟨by rfl, fun W3 hS => by have hS1 := hS; go_simp⟩) hS0 ?_
    clear hS0
    refine wpAnyH_all (rs := [7]) (by kernel_rfl) (by simp) ?_
    intro i hi
    obtain rfl : i = 7 := by simpa using hi
    refine wpOp_intro rfl (fun K2 hK => ?_)
    clear hi
    go_simp
    refine (kt _ (M.get 0 rfl)).mono ?_
    rintro e V2_7 ⟨rfl, rr⟩
    have M' := M.up rr
    clear M rr 
    have M := M'; clear M'
    refine hK _ _ ⟨M.box 0 rfl, ?_⟩
    clear hK K2
    have hS0 : (fun W => BoxN W (w1.heap.size) 74 #[.bool sX, .slice aX LX.length cX, .bool false, .slice oX DX.length rX]) _ := M.box 0 rfl
    refine wpAnyH_take (i := 8) (v := (.string (S1 ++ ⟨#[47]⟩ ++ S2))) rfl (by kernel_rfl) (by kernel_rfl) (by kernel_rfl) (fun _ _ _ h => h) (Or.inl ⟨by rfl, fun W3 hS => by have hS1 := hS; go_simp⟩) hS0 ?_
    refine wpAnyH_take (i := 9) (v := (.string (S1 ++ ⟨#[47]⟩ ++ S2))) rfl (by kernel_rfl) (by kernel_rfl) (by kernel_rfl) (fun _ _ _ h => h) (Or.inl ⟨by rfl, fun W3 hS => by have hS1 := hS; go_simp⟩) hS0 ?_
    clear hS0
    refine wpAnyH_done (by kernel_rfl) ?_ _
    go_wp2
    go_ret
    exact ⟨rfl, M.below⟩

end Go.Proofs.YthnlmjnfdokdbaaGreatDoor

namespace Go.Proofs.YthnlmjnfdokdbaaGreatDoor
open Go Go.Proofs Go.RowKit Go.Shelf Nu

abbrev Q7 : Type := Bool × (Option Addr × Nat × Nat) × (Option Addr × Nat × Nat)
def q7v (t : Q7) : List Value := [.bool t.1, .slice t.2.1.1 t.2.1.2.1 t.2.1.2.2, .slice t.2.2.1 t.2.2.2.1 t.2.2.2.2]
theorem q7_get (zs : List Q7) (j : Nat) (hj : j < zs.length) : (zs.flatMap q7v)[j * 3 + 1]? = some (.slice (zs.getD j default).2.1.1 (zs.getD j default).2.1.2.1 (zs.getD j default).2.1.2.2) ∧ (zs.flatMap q7v)[j * 3 + 2]? = some (.slice (zs.getD j default).2.2.1 (zs.getD j default).2.2.2.1 (zs.getD j default).2.2.2.2) := by
  induction zs generalizing j with
  | nil => simp at hj
  | cons t ts ih =>
    cases j with
    | zero => simp [q7v]
    | succ j =>
      have h := ih j (by simpa using hj)
      rw [List.flatMap_cons, show (j + 1) * 3 + 1 = (q7v t).length + (j * 3 + 1) by simp [q7v]; omega, show (j + 1) * 3 + 2 = (q7v t).length + (j * 3 + 2) by simp [q7v]; omega, List.getElem?_append_right (by omega), List.getElem?_append_right (by omega), Nat.add_sub_cancel_left, Nat.add_sub_cancel_left, h.1, h.2]
      simp

set_option maxRecDepth 100000 in
set_option maxHeartbeats 2000000 in
theorem rgreat_at {w : World} {b m most : Nat} (zs : List Q7) (hm : m = zs.length) (hl : zs.length ≤ 10) (hmo : most ≤ 1000) (hz : ∀ t ∈ zs, t.2.1.2.1 ≤ 70368744177664 ∧ t.2.2.2.1 ≤ 70368744177664) (R : Bool) (hR : R = zs.any fun t => decide (most < t.2.1.2.1 + t.2.2.2.1))
    (hc : ∀ j, j < m → w.cell? ⟨b, j * 3 + 1, none⟩ = some (.slice (zs.getD j default).2.1.1 (zs.getD j default).2.1.2.1 (zs.getD j default).2.1.2.2) ∧ w.cell? ⟨b, j * 3 + 2, none⟩ = some (.slice (zs.getD j default).2.2.1 (zs.getD j default).2.2.2.1 (zs.getD j default).2.2.2.2)) :
    Calls Tryz.prog 8 #[.int .i64 most, .slice (some ⟨b, 0, none⟩) m m] w fun e w' => e = .returned (.bool R) ∧ ∃ n, w' = w.drewN n := by
  have HR := Lib.hid hR
  have HM := Lib.hid hm
  have HZ : Hid (∀ j, j < m → (zs.getD j default).2.1.2.1 ≤ 70368744177664 ∧ (zs.getD j default).2.2.2.1 ≤ 70368744177664) := Lib.hid fun j hj => hz _ (by rw [List.getD_eq_getElem?_getD, List.getElem?_eq_getElem (by omega)]; exact List.getElem_mem (by omega))
  have hm10 : m ≤ 10 := by omega
  have HC := Lib.hid hc
  clear hR hm hz hc
  go_enter Tryz.func8, Tryz.ntmps8
  go_wp2
  go_loopw [5] (fun x wr => ∃ k n : Nat, k ≤ m ∧ x = .int .i64 k ∧ Hid (∀ i, i < k → ¬ most < (zs.getD i default).2.1.2.1 + (zs.getD i default).2.2.2.1) ∧ wr = w.drewN n) (fun x _ => m - (intOf x).toNat)
  case atStart => exact ⟨0, 0, Nat.zero_le _, rfl, Lib.hid (fun i hi => by omega), rfl⟩
  case round =>
    obtain ⟨k, n, hk, rfl, hs, rfl⟩ := hrel
    by_cases hlt : k < m
    · obtain ⟨r1, r2⟩ := HC.out k hlt
      obtain ⟨z1, z2⟩ := HZ.out k hlt
      obtain ⟨t, ht⟩ : ∃ t, t = zs.getD k default := ⟨_, rfl⟩
      rw [← ht] at r1 r2 z1 z2
      have HT := Lib.hid ht
      clear ht
      obtain ⟨b0, ⟨a, N, c⟩, ⟨a', D, c'⟩⟩ := t
      dsimp only at r1 r2 z1 z2
      by_cases hq : most < N + D
      · have h0 : R = true := by
          rw [HR.out, List.any_eq_true]
          have hk2 : k < zs.length := by have := HM.out; omega
          refine ⟨zs[k], List.getElem_mem hk2, ?_⟩
          have : zs[k] = (b0, (a, N, c), (a', D, c')) := by rw [HT.out, List.getD_eq_getElem?_getD, List.getElem?_eq_getElem hk2]; rfl
          rw [this]; simp; omega
        have hq2 : (most : Int) < (N : Int) + (D : Int) := by omega
        have hq3 : decide ((most : Int) < (N : Int) + (D : Int)) = true := decide_eq_true hq2
        clear hq
        go_wp2
        go_quiet (fail)
        go_wp2
        go_ret
        exact ⟨by rw [h0]; rfl, n + nq, by simp [World.drewN, Nat.add_assoc]⟩
      · have hq2 : ¬ (most : Int) < (N : Int) + (D : Int) := by omega
        have hq3 : decide ((most : Int) < (N : Int) + (D : Int)) = false := decide_eq_false hq2
        have HQ := Lib.hid hq
        clear hq
        go_wp2
        go_quiet (fail)
        go_wp2
        go_roundw
        case rel =>
          refine ⟨k + 1, n + nq, by omega, by simp, Lib.hid fun i hi => ?_, by simp [World.drewN, Nat.add_assoc]⟩
          by_cases e : i = k
          · subst e; rw [← HT.out]; exact HQ.out
          · exact hs.out i (by omega)
        case measure => simp [intOf]; omega
    · have h0 : R = false := by
        rw [HR.out, List.any_eq_false]
        intro t ht
        obtain ⟨i, hi, rfl⟩ := List.mem_iff_getElem.1 ht
        have := hs.out i (by have := HM.out; omega)
        rw [List.getD_eq_getElem?_getD, List.getElem?_eq_getElem hi] at this
        simpa using this
      go_wp2
      go_ret
      exact ⟨by rw [h0]; rfl, n, rfl⟩
theorem rgreat_lit (W : World) (most : Nat) (zs : List Q7) {vs : Array Value} (hv : vs = (zs.flatMap q7v).toArray) {m : Nat} (hm : m = zs.length) (hl : zs.length ≤ 10) (hmo : most ≤ 1000) (hz : ∀ t ∈ zs, t.2.1.2.1 ≤ 70368744177664 ∧ t.2.2.2.1 ≤ 70368744177664) (R : Bool) (hR : R = zs.any fun t => decide (most < t.2.1.2.1 + t.2.2.2.1)) :
    Calls Tryz.prog 8 #[.int .i64 most, .slice (some ⟨W.heap.size, 0, none⟩) m m] (W.alloc (.cells vs 27)) fun e w' => e = .returned (.bool R) ∧ Below W.heap.size W w' := by
  subst hv; subst hm
  refine (rgreat_at zs rfl hl hmo hz R hR fun j hj => ?_).mono ?_
  · unfold World.cell?
    rw [World.alloc_heap_new]
    simpa using q7_get zs j hj
  · rintro e w' ⟨rfl, n, rfl⟩
    exact ⟨rfl, ⟨rfl, rfl, rfl, by show W.heap.size ≤ (W.alloc _).heap.size; simp, fun k hk => Below.heap_alloc W _ k hk⟩⟩
end Go.Proofs.YthnlmjnfdokdbaaGreatDoor

namespace Go.Proofs.YthnlmjnfdokdbaaGreatDoor
open Go Go.Proofs Go.RowKit Go.Shelf Nu

attribute [local go_sem] Oper.semAt_some

set_option maxRecDepth 100000 in
set_option maxHeartbeats 8000000 in
theorem cmpFn_any {w : World} {aX oX aY oY : Option Addr} {cX rX cY rY : Nat} {sX sY : Bool} {LX DX LY DY : List Nat} {X Y : Rat} (z : Int) (ez : rsg X Y = z) (kX : RCan sX LX DX X) (kY : RCan sY LY DY Y) (b1 : LX.length ≤ 20000) (b2 : DX.length ≤ 20000) (b3 : LY.length ≤ 20000) (b4 : DY.length ≤ 20000) (g1 : Reads w (.slice aX LX.length cX) LX) (g2 : Reads w (.slice oX DX.length rX) DX) (g3 : Reads w (.slice aY LY.length cY) LY) (g4 : Reads w (.slice oY DY.length rY) DY) :
    Calls Tryz.prog 61 #[.agg #[.bool sX, .slice aX LX.length cX, .bool false, .slice oX DX.length rX], .agg #[.bool sY, .slice aY LY.length cY, .bool false, .slice oY DY.length rY]] w fun e w' => e = .returned (.int .i64 z) ∧ Below w.heap.size w w' := by
  obtain ⟨P, hP⟩ : ∃ P, P = X.num * (Y.den : Int) := ⟨_, rfl⟩
  obtain ⟨Q, hQ⟩ : ∃ Q, Q = Y.num * (X.den : Int) := ⟨_, rfl⟩
  rw [← rsg_eq, ← hP, ← hQ] at ez
  obtain ⟨sP, LP, cP⟩ := Can.ex P
  obtain ⟨sQ, LQ, cQ⟩ := Can.ex Q
  have cDX := canL kX.2
  have cDY := canL kY.2
  have lP : LP.length ≤ 40000 := by have := Can.len_mul kX.1.is cDY.is cP hP; omega
  have lQ : LQ.length ≤ 40000 := by have := Can.len_mul kY.1.is cDX.is cQ hQ; omega
  have kp := fun (W : World) {p1 p2 : Option Addr} {q1 q2 : Nat} (h1 : Reads W (.slice p1 LX.length q1) LX) (h2 : Reads W (.slice p2 DY.length q2) DY) => q_mul kX.1.is cDY.is cP hP (by omega) (by omega) h1 h2
  have kq := fun (W : World) {p1 p2 : Option Addr} {q1 q2 : Nat} (h1 : Reads W (.slice p1 LY.length q1) LY) (h2 : Reads W (.slice p2 DX.length q2) DX) => q_mul kY.1.is cDX.is cQ hQ (by omega) (by omega) h1 h2
  have kc := fun (W : World) {p1 p2 : Option Addr} {q1 q2 : Nat} (h1 : Reads W (.slice p1 LP.length q1) LP) (h2 : Reads W (.slice p2 LQ.length q2) LQ) => q_cmp z cP.is cQ.is ez (by omega) (by omega) h1 h2
  have M : Mem w [(w.heap.size + 1, 74, [.bool sY, .slice aY LY.length cY, .bool false, .slice oY DY.length rY]), (w.heap.size, 74, [.bool sX, .slice aX LX.length cX, .bool false, .slice oX DX.length rX])] [(.slice oY DY.length rY, DY), (.slice aY LY.length cY, LY), (.slice oX DX.length rX, DX), (.slice aX LX.length cX, LX)] ((w.alloc (.cells #[.bool sX, .slice aX LX.length cX, .bool false, .slice oX DX.length rX] 74)).alloc (.cells #[.bool sY, .slice aY LY.length cY, .bool false, .slice oY DY.length rY] 74)) := by
    have M := (((((((Mem.start w).add g1).add g2).add g3).add g4).new 74 [.bool sX, .slice aX LX.length cX, .bool false, .slice oX DX.length rX]).new 74 [.bool sY, .slice aY LY.length cY, .bool false, .slice oY DY.length rY])
    simpa only [World.size_alloc] using M
  clear g1 g2 g3 g4 b1 b2 b3 b4 kX kY cDX cDY ez hP hQ cP cQ lP lQ
  go_enter Tryz.func61, Tryz.ntmps61
  go_wp2
  refine region_mem (S := (fun W => BoxN W (w.heap.size) 74 #[.bool sX, .slice aX LX.length cX, .bool false, .slice oX DX.length rX] ∧ BoxN W (w.heap.size + 1) 74 #[.bool sY, .slice aY LY.length cY, .bool false, .slice oY DY.length rY])) M (by kernel_rfl) ?_
  intro V0 M
  have hS0 : (fun W => BoxN W (w.heap.size) 74 #[.bool sX, .slice aX LX.length cX, .bool false, .slice oX DX.length rX] ∧ BoxN W (w.heap.size + 1) 74 #[.bool sY, .slice aY LY.length cY, .bool false, .slice oY DY.length rY]) V0 := ⟨M.box 1 rfl, M.box 0 rfl⟩
  refine wpAnyH_take (i := 0) (oi := ⟨_, _, _, _, _, _⟩) (v := (.pointer (some ⟨w.heap.size, 0, none⟩))) rfl (by kernel_rfl) (by kernel_rfl) (by kernel_rfl) (fun _ _ _ h => h) (Or.inl ⟨by rfl, fun W3 hS => by obtain ⟨hS1, hS2⟩ := hS; go_simp⟩) hS0 ?_
  refine wpAnyH_take (i := 1) (oi := ⟨_, _, _, _, _, _⟩) (v := (.agg #[.bool sX, .slice aX LX.length cX])) rfl (by kernel_rfl) (by kernel_rfl) (by kernel_rfl) (fun _ _ _ h => h) (Or.inl ⟨by rfl, fun W3 hS => by obtain ⟨hS1, hS2⟩ := hS; have c1_0 := hS1.cell 0 _ rfl; have c1_1 := hS1.cell 1 _ rfl; have c1_2 := hS1.cell 2 _ rfl; have c1_3 := hS1.cell 3 _ rfl; go_simp⟩) hS0 ?_
  refine wpAnyH_take (i := 2) (oi := ⟨_, _, _, _, _, _⟩) (v := (.pointer (some ⟨w.heap.size + 1, 2, none⟩))) rfl (by kernel_rfl) (by kernel_rfl) (by kernel_rfl) (fun _ _ _ h => h) (Or.inl ⟨by rfl, fun W3 hS => by obtain ⟨hS1, hS2⟩ := hS; go_simp⟩) hS0 ?_
  refine wpAnyH_take (i := 3) (oi := ⟨_, _, _, _, _, _⟩) (v := (.agg #[.bool false, .slice oY DY.length rY])) rfl (by kernel_rfl) (by kernel_rfl) (by kernel_rfl) (fun _ _ _ h => h) (Or.inl ⟨by rfl, fun W3 hS => by obtain ⟨hS1, hS2⟩ := hS; have c2_0 := hS2.cell 0 _ rfl; have c2_1 := hS2.cell 1 _ rfl; have c2_2 := hS2.cell 2 _ rfl; have c2_3 := hS2.cell 3 _ rfl; go_simp⟩) hS0 ?_
  refine wpAnyH_take (i := 5) (oi := ⟨_, _, _, _, _, _⟩) (v := (.pointer (some ⟨w.heap.size + 1, 0, none⟩))) rfl (by kernel_rfl) (by kernel_rfl) (by kernel_rfl) (fun _ _ _ h => h) (Or.inl ⟨by rfl, fun W3 hS => by obtain ⟨hS1, hS2⟩ := hS; go_simp⟩) hS0 ?_
  refine wpAnyH_take (i := 6) (oi := ⟨_, _, _, _, _, _⟩) (v := (.agg #[.bool sY, .slice aY LY.length cY])) rfl (by kernel_rfl) (by kernel_rfl) (by kernel_rfl) (fun _ _ _ h => h) (Or.inl ⟨by rfl, fun W3 hS => by obtain ⟨hS1, hS2⟩ := hS; have c2_0 := hS2.cell 0 _ rfl; have c2_1 := hS2.cell 1 _ rfl; have c2_2 := hS2.cell 2 _ rfl; have c2_3 := hS2.cell 3 _ rfl; go_simp⟩) hS0 ?_
  refine wpAnyH_take (i := 7) (oi := ⟨_, _, _, _, _, _⟩) (v := (.pointer (some ⟨w.heap.size, 2, none⟩))) rfl (by kernel_rfl) (by kernel_rfl) (by kernel_rfl) (fun _ _ _ h => h) (Or.inl ⟨by rfl, fun W3 hS => by obtain ⟨hS1, hS2⟩ := hS; go_simp⟩) hS0 ?_
  refine wpAnyH_take (i := 8) (oi := ⟨_, _, _, _, _, _⟩) (v := (.agg #[.bool false, .slice oX DX.length rX])) rfl (by kernel_rfl) (by kernel_rfl) (by kernel_rfl) (fun _ _ _ h => h) (Or.inl ⟨by rfl, fun W3 hS => by obtain ⟨hS1, hS2⟩ := hS; have c1_0 := hS1.cell 0 _ rfl; have c1_1 := hS1.cell 1 _ rfl; have c1_2 := hS1.cell 2 _ rfl; have c1_3 := hS1.cell 3 _ rfl; go_simp⟩) hS0 ?_
  clear hS0
  try simp only [Act.put, List.setIfInBounds_toArray, List.set_cons_zero, List.set_cons_succ]
  refine wpAnyH_all (rs := [4]) (by kernel_rfl) (by simp) ?_
  intro i hi
  obtain rfl : i = 4 := by simpa using hi
  refine wpOp_intro rfl (fun K1 hK => ?_)
  clear hi
  go_simp
  refine (kp _ (M.get 3 rfl) (M.get 0 rfl)).mono ?_
  rintro e V1_4 ⟨a1, c1, rfl, g, rr⟩
  have M' := (M.up rr).add g
  clear M rr g
  have M := M'; clear M'
  refine hK _ _ ⟨⟨M.box 1 rfl, M.box 0 rfl⟩, ?_⟩
  clear hK K1
  refine wpAnyH_all (rs := [9]) (by kernel_rfl) (by simp) ?_
  intro i hi
  obtain rfl : i = 9 := by simpa using hi
  refine wpOp_intro rfl (fun K2 hK => ?_)
  clear hi
  go_simp
  refine (kq _ (M.get 2 rfl) (M.get 3 rfl)).mono ?_
  rintro e V2_9 ⟨a2, c2, rfl, g, rr⟩
  have M' := (M.up rr).add g
  clear M rr g
  have M := M'; clear M'
  refine hK _ _ ⟨⟨M.box 1 rfl, M.box 0 rfl⟩, ?_⟩
  clear hK K2
  refine wpAnyH_all (rs := [10]) (by kernel_rfl) (by simp) ?_
  intro i hi
  obtain rfl : i = 10 := by simpa using hi
  refine wpOp_intro rfl (fun K3 hK => ?_)
  clear hi
  go_simp
  refine (kc _ (M.get 1 rfl) (M.get 0 rfl)).mono ?_
  rintro e V3_10 ⟨rfl, rr⟩
  have M' := M.up rr
  clear M rr 
  have M := M'; clear M'
  refine hK _ _ ⟨⟨M.box 1 rfl, M.box 0 rfl⟩, ?_⟩
  clear hK K3
  have hS0 : (fun W => BoxN W (w.heap.size) 74 #[.bool sX, .slice aX LX.length cX, .bool false, .slice oX DX.length rX] ∧ BoxN W (w.heap.size + 1) 74 #[.bool sY, .slice aY LY.length cY, .bool false, .slice oY DY.length rY]) _ := ⟨M.box 1 rfl, M.box 0 rfl⟩
  refine wpAnyH_take (i := 11) (oi := ⟨_, _, _, _, _, _⟩) (v := (.int .i64 z)) rfl (by kernel_rfl) (by kernel_rfl) (by kernel_rfl) (fun _ _ _ h => h) (Or.inl ⟨by rfl, fun W3 hS => by obtain ⟨hS1, hS2⟩ := hS; go_simp⟩) hS0 ?_
  clear hS0
  try simp only [Act.put, List.setIfInBounds_toArray, List.set_cons_zero, List.set_cons_succ]
  refine wpAnyH_done (by kernel_rfl) ?_ _
  go_wp2
  go_ret
  exact ⟨rfl, M.below⟩
set_option maxRecDepth 100000 in
set_option maxHeartbeats 8000000 in
theorem ofTwo_cmp {w : World} {p1 o1 p2 o2 : Option Addr} {q1 r1 q2 r2 : Nat} {n1 n2 : Bool} {l1 d1 l2 d2 : List Nat} {X Y : Rat} (z : Int) (ez : rsg X Y = z) (hX : RIs n1 l1 d1 X) (hY : RIs n2 l2 d2 Y) (b1 : l1.length ≤ 9999) (b2 : d1.length ≤ 9999) (b3 : l2.length ≤ 9999) (b4 : d2.length ≤ 9999) (g1 : Reads w (.slice p1 l1.length q1) l1) (g2 : Reads w (.slice o1 d1.length r1) d1) (g3 : Reads w (.slice p2 l2.length q2) l2) (g4 : Reads w (.slice o2 d2.length r2) d2) :
    Calls Tryz.prog 60 #[.agg #[.bool n1, .slice p1 l1.length q1, .slice o1 d1.length r1], .agg #[.bool n2, .slice p2 l2.length q2, .slice o2 d2.length r2], .func (.func 61) #[] #[]] w fun e w' => e = .returned (.int .i64 z) ∧ Below w.heap.size w w' := by
  obtain ⟨sX, LX, DX, kX⟩ := RCan.ex X
  obtain ⟨sY, LY, DY, kY⟩ := RCan.ex Y
  have lX := hX.lens kX
  have lY := hY.lens kY
  have kp1 := fun (W : World) (h1 : Reads W (.slice p1 l1.length q1) l1) (h2 : Reads W (.slice o1 d1.length r1) d1) => partsOf_any hX kX (by omega) (by omega) h1 h2
  have kp2 := fun (W : World) (h1 : Reads W (.slice p2 l2.length q2) l2) (h2 : Reads W (.slice o2 d2.length r2) d2) => partsOf_any hY kY (by omega) (by omega) h1 h2
  have kf := fun (W : World) {aX oX aY oY : Option Addr} {cX rX cY rY : Nat} (g1 : Reads W (.slice aX LX.length cX) LX) (g2 : Reads W (.slice oX DX.length rX) DX) (g3 : Reads W (.slice aY LY.length cY) LY) (g4 : Reads W (.slice oY DY.length rY) DY) => cmpFn_any z ez kX kY (by omega) (by omega) (by omega) (by omega) g1 g2 g3 g4
  have M : Mem w [(w.heap.size + 1, 27, [.bool n2, .slice p2 l2.length q2, .slice o2 d2.length r2]), (w.heap.size, 27, [.bool n1, .slice p1 l1.length q1, .slice o1 d1.length r1])] [(.slice o2 d2.length r2, d2), (.slice p2 l2.length q2, l2), (.slice o1 d1.length r1, d1), (.slice p1 l1.length q1, l1)] ((w.alloc (.cells #[.bool n1, .slice p1 l1.length q1, .slice o1 d1.length r1] 27)).alloc (.cells #[.bool n2, .slice p2 l2.length q2, .slice o2 d2.length r2] 27)) := by
    have M := (((((((Mem.start w).add g1).add g2).add g3).add g4).new 27 [.bool n1, .slice p1 l1.length q1, .slice o1 d1.length r1]).new 27 [.bool n2, .slice p2 l2.length q2, .slice o2 d2.length r2])
    simpa only [World.size_alloc] using M
  clear g1 g2 g3 g4 b1 b2 b3 b4 kX kY lX lY hX hY ez
  go_enter Tryz.func60, Tryz.ntmps60
  go_wp2
  refine region_mem (S := (fun W => BoxN W (w.heap.size) 27 #[.bool n1, .slice p1 l1.length q1, .slice o1 d1.length r1] ∧ BoxN W (w.heap.size + 1) 27 #[.bool n2, .slice p2 l2.length q2, .slice o2 d2.length r2])) M (by kernel_rfl) ?_
  intro V0 M
  have hS0 : (fun W => BoxN W (w.heap.size) 27 #[.bool n1, .slice p1 l1.length q1, .slice o1 d1.length r1] ∧ BoxN W (w.heap.size + 1) 27 #[.bool n2, .slice p2 l2.length q2, .slice o2 d2.length r2]) V0 := ⟨M.box 1 rfl, M.box 0 rfl⟩
  refine wpAnyH_take (i := 0) (oi := ⟨_, _, _, _, _, _⟩) (v := (.func (.func 61) #[] #[])) rfl (by kernel_rfl) (by kernel_rfl) (by kernel_rfl) (fun _ _ _ h => h) (Or.inl ⟨by rfl, fun W3 hS => by obtain ⟨hS1, hS2⟩ := hS; go_simp⟩) hS0 ?_
  refine wpAnyH_take (i := 1) (oi := ⟨_, _, _, _, _, _⟩) (v := (.agg #[.bool n1, .slice p1 l1.length q1, .slice o1 d1.length r1])) rfl (by kernel_rfl) (by kernel_rfl) (by kernel_rfl) (fun _ _ _ h => h) (Or.inl ⟨by rfl, fun W3 hS => by obtain ⟨hS1, hS2⟩ := hS; have c1_0 := hS1.cell 0 _ rfl; have c1_1 := hS1.cell 1 _ rfl; have c1_2 := hS1.cell 2 _ rfl; go_simp⟩) hS0 ?_
  refine wpAnyH_take (i := 3) (oi := ⟨_, _, _, _, _, _⟩) (v := (.agg #[.bool n2, .slice p2 l2.length q2, .slice o2 d2.length r2])) rfl (by kernel_rfl) (by kernel_rfl) (by kernel_rfl) (fun _ _ _ h => h) (Or.inl ⟨by rfl, fun W3 hS => by obtain ⟨hS1, hS2⟩ := hS; have c2_0 := hS2.cell 0 _ rfl; have c2_1 := hS2.cell 1 _ rfl; have c2_2 := hS2.cell 2 _ rfl; go_simp⟩) hS0 ?_
  clear hS0
  try simp only [Act.put, List.setIfInBounds_toArray, List.set_cons_zero, List.set_cons_succ]
  refine wpAnyH_all (rs := [2]) (by kernel_rfl) (by simp) ?_
  intro i hi
  obtain rfl : i = 2 := by simpa using hi
  refine wpOp_intro rfl (fun K1 hK => ?_)
  clear hi
  go_simp
  refine (kp1 _ (M.get 3 rfl) (M.get 2 rfl)).mono ?_
  rintro e V1_2 ⟨aX, cX, oX, rX, rfl, g, g', rr⟩
  have M' := ((M.up rr).add g).add g'
  clear M rr g g'
  have M := M'; clear M'
  refine hK _ _ ⟨⟨M.box 1 rfl, M.box 0 rfl⟩, ?_⟩
  clear hK K1
  refine wpAnyH_all (rs := [4]) (by kernel_rfl) (by simp) ?_
  intro i hi
  obtain rfl : i = 4 := by simpa using hi
  refine wpOp_intro rfl (fun K2 hK => ?_)
  clear hi
  go_simp
  refine (kp2 _ (M.get 3 rfl) (M.get 2 rfl)).mono ?_
  rintro e V2_4 ⟨aY, cY, oY, rY, rfl, g, g', rr⟩
  have M' := ((M.up rr).add g).add g'
  clear M rr g g'
  have M := M'; clear M'
  refine hK _ _ ⟨⟨M.box 1 rfl, M.box 0 rfl⟩, ?_⟩
  clear hK K2
  refine wpAnyH_all (rs := [5]) (by kernel_rfl) (by simp) ?_
  intro i hi
  obtain rfl : i = 5 := by simpa using hi
  refine wpOp_intro rfl (fun K3 hK => ?_)
  clear hi
  go_simp
  refine (kf _ (M.get 3 rfl) (M.get 2 rfl) (M.get 1 rfl) (M.get 0 rfl)).mono ?_
  rintro e V3_5 ⟨rfl, rr⟩
  have M' := M.up rr
  clear M rr 
  have M := M'; clear M'
  refine hK _ _ ⟨⟨M.box 1 rfl, M.box 0 rfl⟩, ?_⟩
  clear hK K3
  have hS0 : (fun W => BoxN W (w.heap.size) 27 #[.bool n1, .slice p1 l1.length q1, .slice o1 d1.length r1] ∧ BoxN W (w.heap.size + 1) 27 #[.bool n2, .slice p2 l2.length q2, .slice o2 d2.length r2]) _ := ⟨M.box 1 rfl, M.box 0 rfl⟩
  refine wpAnyH_take (i := 6) (oi := ⟨_, _, _, _, _, _⟩) (v := (.int .i64 z)) rfl (by kernel_rfl) (by kernel_rfl) (by kernel_rfl) (fun _ _ _ h => h) (Or.inl ⟨by rfl, fun W3 hS => by obtain ⟨hS1, hS2⟩ := hS; go_simp⟩) hS0 ?_
  clear hS0
  try simp only [Act.put, List.setIfInBounds_toArray, List.set_cons_zero, List.set_cons_succ]
  refine wpAnyH_done (by kernel_rfl) ?_ _
  go_wp2
  go_ret
  exact ⟨rfl, M.below⟩
set_option maxRecDepth 100000 in
set_option maxHeartbeats 4000000 in
theorem r_cmp {w : World} {p1 o1 p2 o2 : Option Addr} {q1 r1 q2 r2 : Nat} {n1 n2 : Bool} {l1 d1 l2 d2 : List Nat} {X Y : Rat} (z : Int) (ez : rsg X Y = z) (hX : RIs n1 l1 d1 X) (hY : RIs n2 l2 d2 Y) (b1 : l1.length ≤ 9999) (b2 : d1.length ≤ 9999) (b3 : l2.length ≤ 9999) (b4 : d2.length ≤ 9999) (g1 : Reads w (.slice p1 l1.length q1) l1) (g2 : Reads w (.slice o1 d1.length r1) d1) (g3 : Reads w (.slice p2 l2.length q2) l2) (g4 : Reads w (.slice o2 d2.length r2) d2) :
    Calls Tryz.prog 15 #[.agg #[.bool n1, .slice p1 l1.length q1, .slice o1 d1.length r1], .agg #[.bool n2, .slice p2 l2.length q2, .slice o2 d2.length r2]] w fun e w' => e = .returned (.int .i64 z) ∧ Below w.heap.size w w' := by
  have ko := fun (W : World) (g1 : Reads W (.slice p1 l1.length q1) l1) (g2 : Reads W (.slice o1 d1.length r1) d1) (g3 : Reads W (.slice p2 l2.length q2) l2) (g4 : Reads W (.slice o2 d2.length r2) d2) => ofTwo_cmp (w := W) z ez hX hY b1 b2 b3 b4 g1 g2 g3 g4
  have M : Mem w [(w.heap.size + 1, 27, [.bool n2, .slice p2 l2.length q2, .slice o2 d2.length r2]), (w.heap.size, 27, [.bool n1, .slice p1 l1.length q1, .slice o1 d1.length r1])] [(.slice o2 d2.length r2, d2), (.slice p2 l2.length q2, l2), (.slice o1 d1.length r1, d1), (.slice p1 l1.length q1, l1)] ((w.alloc (.cells #[.bool n1, .slice p1 l1.length q1, .slice o1 d1.length r1] 27)).alloc (.cells #[.bool n2, .slice p2 l2.length q2, .slice o2 d2.length r2] 27)) := by
    have M := (((((((Mem.start w).add g1).add g2).add g3).add g4).new 27 [.bool n1, .slice p1 l1.length q1, .slice o1 d1.length r1]).new 27 [.bool n2, .slice p2 l2.length q2, .slice o2 d2.length r2])
    simpa only [World.size_alloc] using M
  clear g1 g2 g3 g4 b1 b2 b3 b4 hX hY ez
  go_enter Tryz.func15, Tryz.ntmps15
  go_wp2_with (go_at_call 60; refine (ko _ (M.get 3 rfl) (M.get 2 rfl) (M.get 1 rfl) (M.get 0 rfl)).mono ?_; clear ko; rintro e w1 ⟨rfl, rr⟩; have M' := M.up rr; clear M rr)
  go_ret
  exact ⟨rfl, M'.below⟩
end Go.Proofs.YthnlmjnfdokdbaaGreatDoor
