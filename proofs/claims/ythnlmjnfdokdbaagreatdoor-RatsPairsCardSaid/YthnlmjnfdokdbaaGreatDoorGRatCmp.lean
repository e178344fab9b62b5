/- Fractions: products, of any two. Fractions: their quotients. Fractions: sums and differences, of any two. Fractions: whole or not, the floor, the text. Fractions: their texts. Whether one of some fractions has more parts than are gone through. Fractions: their order. -/
import Derived.BigQuiet
import Derived.Deep.QuietTactic
import Derived.Test.YthnlmjnfdokdbaaGreatDoorGRatMul
import Derived.Test.YthnlmjnfdokdbaaGreatDoorGRatLit
import Derived.Test.YthnlmjnfdokdbaaGreatDoorGRatSum
import Derived.Test.YthnlmjnfdokdbaaGreatDoorGRatB
import Derived.Test.YthnlmjnfdokdbaaGreatDoorGMathG
import Derived.Test.YthnlmjnfdokdbaaGreatDoorGRatLaw
set_option linter.unusedSimpArgs false
set_option linter.unusedVariables false
set_option maxRecDepth 100000
set_option maxHeartbeats 8000000
namespace Go.Proofs.YthnlmjnfdokdbaaGreatDoor
open Go Go.Proofs Go.RowKit Go.Shelf Nu

attribute [local go_sem] Oper.semAt_some

end Go.Proofs.YthnlmjnfdokdbaaGreatDoor

namespace Go.Proofs.YthnlmjnfdokdbaaGreatDoor
open Go Go.Proofs Go.RowKit Go.Shelf Nu

attribute [local go_sem] Oper.semAt_some

theorem rcan_inv {n : Bool} {l d : List Nat} {Y : Rat} (h : RCan n l d Y) (h0 : Y ≠ 0) : RCan n d l Y⁻¹ := by
 have hn : Y.num ≠ 0 := fun e => h0 (Rat.num_eq_zero.1 e)
 have hd := Y.den_pos
 have key : Y⁻¹.num = (if Y.num < 0 then -(Y.den : Int) else (Y.den : Int)) ∧ Y⁻¹.den = Y.num.natAbs := by
   refine rat_low (by omega) ?_ ?_
   · have hc : Nat.Coprime Y.den Y.num.natAbs := Y.reduced.symm
     split
     · rwa [Int.natAbs_neg, Int.natAbs_natCast]
     · rwa [Int.natAbs_natCast]
   · have hX := rat_den Y
     split
     · rename_i hneg
       have : ((Y.num.natAbs : Nat) : Rat) = -((Y.num : Int) : Rat) := by
        have : ((Y.num.natAbs : Nat) : Int) = -Y.num := by omega
        exact_mod_cast this
       rw [this]; push_cast; grind
     · rename_i hneg
       have : ((Y.num.natAbs : Nat) : Rat) = ((Y.num : Int) : Rat) := by
        have : ((Y.num.natAbs : Nat) : Int) = Y.num := by omega
        exact_mod_cast this
       rw [this]; push_cast; grind
 obtain ⟨⟨h1, h2⟩, h3⟩ := h
 refine ⟨⟨?_, ?_⟩, ?_⟩
 · rw [h1, key.1]
   refine decide_eq_decide.2 ?_
   split <;> constructor <;> intro _ <;> omega
 · rw [h3, key.1]
   split <;> simp
 · rw [h2, key.2]

theorem r_div_zero {w : World} {p1 o1 p2 o2 : Option Addr} {q1 r1 q2 r2 : Nat} {n1 n2 : Bool} {l1 d1 l2 d2 : List Nat} {X Y : Rat} (kX : RCan n1 l1 d1 X) (kY : RCan n2 l2 d2 Y) (h0 : Y = 0) (b1 : l1.length ≤ 9999) (b2 : d1.length ≤ 9999) (b3 : l2.length ≤ 9999) (b4 : d2.length ≤ 9999) (g1 : Reads w (.slice p1 l1.length q1) l1) (g2 : Reads w (.slice o1 d1.length r1) d1) (g3 : Reads w (.slice p2 l2.length q2) l2) (g4 : Reads w (.slice o2 d2.length r2) d2) :
  Calls Tryz.prog 13 #[.agg #[.bool n1, .slice p1 l1.length q1, .slice o1 d1.length r1], .agg #[.bool n2, .slice p2 l2.length q2, .slice o2 d2.length r2]] w fun e w' => e = .returned (.tuple #[.agg #[.bool false, .slice none 0 0, .slice none 0 0], .int .i64 10]) ∧ Below w.heap.size w w' := by
 have kc1 := fun (W : World) (h1 : Reads W (.slice p1 l1.length q1) l1) (h2 : Reads W (.slice o1 d1.length r1) d1) => by have := rcheck_any (n := n1) h1 h2 kX.sm.1 kX.sm.2 (by omega) (by omega); rw [kX.chk] at this; exact this
 have kc2 := fun (W : World) (h1 : Reads W (.slice p2 l2.length q2) l2) (h2 : Reads W (.slice o2 d2.length r2) d2) => by have := rcheck_any (n := n2) h1 h2 kY.sm.1 kY.sm.2 (by omega) (by omega); rw [kY.chk] at this; exact this
 have hl : l2.length = 0 := by subst h0; rw [(rcan_zero kY).2.1]; rfl
 have hl2 : ((l2.length : Int) == 0) = true := by rw [hl]; rfl
 clear hl
 have M : Mem w [(w.heap.size + 1 + 1, 27, [.bool false, .slice none 0 0, .slice none 0 0]), (w.heap.size + 1, 27, [.bool n2, .slice p2 l2.length q2, .slice o2 d2.length r2]), (w.heap.size, 27, [.bool n1, .slice p1 l1.length q1, .slice o1 d1.length r1])] [(.slice o2 d2.length r2, d2), (.slice p2 l2.length q2, l2), (.slice o1 d1.length r1, d1), (.slice p1 l1.length q1, l1)] (((w.alloc (.cells #[.bool n1, .slice p1 l1.length q1, .slice o1 d1.length r1] 27)).alloc (.cells #[.bool n2, .slice p2 l2.length q2, .slice o2 d2.length r2] 27)).alloc (.cells #[.bool false, .slice none 0 0, .slice none 0 0] 27)) := by
  have M := ((((((((Mem.start w).add g1).add g2).add g3).add g4).new 27 [.bool n1, .slice p1 l1.length q1, .slice o1 d1.length r1]).new 27 [.bool n2, .slice p2 l2.length q2, .slice o2 d2.length r2]).new 27 [.bool false, .slice none 0 0, .slice none 0 0])
  simpa only [World.size_alloc] using M
 clear g1 g2 g3 g4 b1 b2 b3 b4 kX kY h0
 go_enter Tryz.func13, Tryz.ntmps13
 go_wp2_with (first
  | (go_at_call 36; with_reducible refine (kc1 _ (M.get 3 rfl) (M.get 2 rfl)).mono ?_; clear kc1; rintro e w1 ⟨rfl, rr⟩; have M' := M.up rr; clear M rr ; have M := M'; clear M'; have z1_0 := M.cell 1 rfl 0 rfl; have z1_1 := M.cell 1 rfl 1 rfl; have z1_2 := M.cell 1 rfl 2 rfl)
  | (go_at_call 36; refine (kc2 _ (M.get 1 rfl) (M.get 0 rfl)).mono ?_; clear kc2; rintro e w2 ⟨rfl, rr⟩; have M' := M.up rr; clear M rr z1_0 z1_1 z1_2; have M := M'; clear M'; have z1_0 := M.cell 1 rfl 0 rfl; have z1_1 := M.cell 1 rfl 1 rfl; have z1_2 := M.cell 1 rfl 2 rfl; have z2_0 := M.cell 2 rfl 0 rfl; have z2_1 := M.cell 2 rfl 1 rfl; have z2_2 := M.cell 2 rfl 2 rfl; have z0_0 := M.cell 0 rfl 0 rfl; have z0_1 := M.cell 0 rfl 1 rfl; have z0_2 := M.cell 0 rfl 2 rfl; have f0_0 := M.fr 0 rfl 0; have f0_1 := M.fr 0 rfl 1; have f0_2 := M.fr 0 rfl 2))
 have M' := ((M.put 0 rfl rfl 0 (.bool false)).put 0 rfl rfl 1 (.slice none 0 0)).put 0 rfl rfl 2 (.slice none 0 0)
 refine ret_boxN_tmp rfl rfl rfl (M'.box 0 rfl) Tryz.underlying27 size_rat rfl ?_
 exact ⟨rfl, M'.below⟩

end Go.Proofs.YthnlmjnfdokdbaaGreatDoor

namespace Go.Proofs.YthnlmjnfdokdbaaGreatDoor
open Go Go.Proofs Go.RowKit Go.Shelf Nu

attribute [local go_sem] Oper.semAt_some

theorem joined_any (J : Nat) (w : World) : Calls Tryz.prog 49 #[.func (.func J) #[] #[]] w fun e w' => ∃ cb, e = .returned (.func (.func 139) #[] #[.pointer (some ⟨cb, 0, none⟩)]) ∧ BoxN w' cb 72 #[.func (.func J) #[] #[]] ∧ Below w.heap.size w w' := by
 have hmf : ∀ (fn : Fn) (first cap : Array Value) (w : World), (Instr.makeFunc fn first cap).run Tryz.prog w = .ok (.func fn first cap) w := fun _ _ _ _ => rfl
 go_enter Tryz.func49, Tryz.ntmps49
 go_wp2
 go_ret
 exact ⟨_, rfl, BoxN.new w _ _, (Below.refl _ _).alloc (Nat.le_refl _) _⟩

end Go.Proofs.YthnlmjnfdokdbaaGreatDoor

namespace Go.Proofs.YthnlmjnfdokdbaaGreatDoor
open Go Go.Proofs Go.RowKit Go.Shelf Nu

attribute [local go_sem] Oper.semAt_some

section
variable {w : World} {p1 p2 : Option Addr} {q1 q2 : Nat} {n s : Bool} {l d L D : List Nat} {X : Rat}
end
end Go.Proofs.YthnlmjnfdokdbaaGreatDoor

namespace Go.Proofs.YthnlmjnfdokdbaaGreatDoor
open Go Go.Proofs Go.RowKit Go.Shelf Nu

attribute [local go_sem] Oper.semAt_some

end Go.Proofs.YthnlmjnfdokdbaaGreatDoor

namespace Go.Proofs.YthnlmjnfdokdbaaGreatDoor
open Go Go.Proofs Go.RowKit Go.Shelf Nu

abbrev Q7 : Type := Bool × (Option Addr × Nat × Nat) × (Option Addr × Nat × Nat)
def q7v (t : Q7) : List Value := [.bool t.1, .slice t.2.1.1 t.2.1.2.1 t.2.1.2.2, .slice t.2.2.1 t.2.2.2.1 t.2.2.2.2]
theorem q7_get (zs : List Q7) (j : Nat) (hj : j < zs.length) : (zs.flatMap q7v)[j * 3 + 1]? = some (.slice (zs.getD j default).2.1.1 (zs.getD j default).2.1.2.1 (zs.getD j default).2.1.2.2) ∧ (zs.flatMap q7v)[j * 3 + 2]? = some (.slice (zs.getD j default).2.2.1 (zs.getD j default).2.2.2.1 (zs.getD j default).2.2.2.2) := by
 induction zs generalizing j with
 | nil => simp at hj
 | cons t ts ih =>
  cases j with
  | zero => simp [q7v]
  | succ j =>
   have h := ih j (by simpa using hj)
   rw [List.flatMap_cons, show (j + 1) * 3 + 1 = (q7v t).length + (j * 3 + 1) by simp [q7v]; omega, show (j + 1) * 3 + 2 = (q7v t).length + (j * 3 + 2) by simp [q7v]; omega, List.getElem?_append_right (by omega), List.getElem?_append_right (by omega), Nat.add_sub_cancel_left, Nat.add_sub_cancel_left, h.1, h.2]
   simp

theorem rgreat_at {w : World} {b m most : Nat} (zs : List Q7) (hm : m = zs.length) (hl : zs.length ≤ 10) (hmo : most ≤ 1000) (hz : ∀ t ∈ zs, t.2.1.2.1 ≤ 70368744177664 ∧ t.2.2.2.1 ≤ 70368744177664) (R : Bool) (hR : R = zs.any fun t => decide (most < t.2.1.2.1 + t.2.2.2.1))
  (hc : ∀ j, j < m → w.cell? ⟨b, j * 3 + 1, none⟩ = some (.slice (zs.getD j default).2.1.1 (zs.getD j default).2.1.2.1 (zs.getD j default).2.1.2.2) ∧ w.cell? ⟨b, j * 3 + 2, none⟩ = some (.slice (zs.getD j default).2.2.1 (zs.getD j default).2.2.2.1 (zs.getD j default).2.2.2.2)) :
  Calls Tryz.prog 8 #[.int .i64 most, .slice (some ⟨b, 0, none⟩) m m] w fun e w' => e = .returned (.bool R) ∧ ∃ n, w' = w.drewN n := by
 have HR := Lib.hid hR
 have HM := Lib.hid hm
 have HZ : Hid (∀ j, j < m → (zs.getD j default).2.1.2.1 ≤ 70368744177664 ∧ (zs.getD j default).2.2.2.1 ≤ 70368744177664) := Lib.hid fun j hj => hz _ (by rw [List.getD_eq_getElem?_getD, List.getElem?_eq_getElem (by omega)]; exact List.getElem_mem (by omega))
 have hm10 : m ≤ 10 := by omega
 have HC := Lib.hid hc
 clear hR hm hz hc
 go_enter Tryz.func8, Tryz.ntmps8
 go_wp2
 go_loopw [5] (fun x wr => ∃ k n : Nat, k ≤ m ∧ x = .int .i64 k ∧ Hid (∀ i, i < k → ¬ most < (zs.getD i default).2.1.2.1 + (zs.getD i default).2.2.2.1) ∧ wr = w.drewN n) (fun x _ => m - (intOf x).toNat)
 case atStart => exact ⟨0, 0, Nat.zero_le _, rfl, Lib.hid (fun i hi => by omega), rfl⟩
 case round =>
  obtain ⟨k, n, hk, rfl, hs, rfl⟩ := hrel
  by_cases hlt : k < m
  · obtain ⟨r1, r2⟩ := HC.out k hlt
    obtain ⟨z1, z2⟩ := HZ.out k hlt
    obtain ⟨t, ht⟩ : ∃ t, t = zs.getD k default := ⟨_, rfl⟩
    rw [← ht] at r1 r2 z1 z2
    have HT := Lib.hid ht
    clear ht
    obtain ⟨b0, ⟨a, N, c⟩, ⟨a', D, c'⟩⟩ := t
    dsimp only at r1 r2 z1 z2
    by_cases hq : most < N + D
    · have h0 : R = true := by
       rw [HR.out, List.any_eq_true]
       have hk2 : k < zs.length := by have := HM.out; omega
       refine ⟨zs[k], List.getElem_mem hk2, ?_⟩
       have : zs[k] = (b0, (a, N, c), (a', D, c')) := by rw [HT.out, List.getD_eq_getElem?_getD, List.getElem?_eq_getElem hk2]; rfl
       rw [this]; simp; omega
      have hq2 : (most : Int) < (N : Int) + (D : Int) := by omega
      have hq3 : decide ((most : Int) < (N : Int) + (D : Int)) = true := decide_eq_true hq2
      clear hq
      go_wp2
      go_quiet (fail)
      go_wp2
      go_ret
      exact ⟨by rw [h0]; rfl, n + nq, by simp [World.drewN, Nat.add_assoc]⟩
    · have hq2 : ¬ (most : Int) < (N : Int) + (D : Int) := by omega
      have hq3 : decide ((most : Int) < (N : Int) + (D : Int)) = false := decide_eq_false hq2
      have HQ := Lib.hid hq
      clear hq
      go_wp2
      go_quiet (fail)
      go_wp2
      go_roundw
      case rel =>
       refine ⟨k + 1, n + nq, by omega, by simp, Lib.hid fun i hi => ?_, by simp [World.drewN, Nat.add_assoc]⟩
       by_cases e : i = k
       · subst e; rw [← HT.out]; exact HQ.out
       · exact hs.out i (by omega)
      case measure => simp [intOf]; omega
  · have h0 : R = false := by
      rw [HR.out, List.any_eq_false]
      intro t ht
      obtain ⟨i, hi, rfl⟩ := List.mem_iff_getElem.1 ht
      have := hs.out i (by have := HM.out; omega)
      rw [List.getD_eq_getElem?_getD, List.getElem?_eq_getElem hi] at this
      simpa using this
    go_wp2
    go_ret
    exact ⟨by rw [h0]; rfl, n, rfl⟩
theorem rgreat_lit (W : World) (most : Nat) (zs : List Q7) {vs : Array Value} (hv : vs = (zs.flatMap q7v).toArray) {m : Nat} (hm : m = zs.length) (hl : zs.length ≤ 10) (hmo : most ≤ 1000) (hz : ∀ t ∈ zs, t.2.1.2.1 ≤ 70368744177664 ∧ t.2.2.2.1 ≤ 70368744177664) (R : Bool) (hR : R = zs.any fun t => decide (most < t.2.1.2.1 + t.2.2.2.1)) :
   Calls Tryz.prog 8 #[.int .i64 most, .slice (some ⟨W.heap.size, 0, none⟩) m m] (W.alloc (.cells vs 27)) fun e w' => e = .returned (.bool R) ∧ Below W.heap.size W w' := by
 subst hv; subst hm
 refine (rgreat_at zs rfl hl hmo hz R hR fun j hj => ?_).mono ?_
 · unfold World.cell?
   rw [World.alloc_heap_new]
   simpa using q7_get zs j hj
 · rintro e w' ⟨rfl, n, rfl⟩
   exact ⟨rfl, ⟨rfl, rfl, rfl, by show W.heap.size ≤ (W.alloc _).heap.size; simp, fun k hk => Below.heap_alloc W _ k hk⟩⟩
end Go.Proofs.YthnlmjnfdokdbaaGreatDoor

namespace Go.Proofs.YthnlmjnfdokdbaaGreatDoor
open Go Go.Proofs Go.RowKit Go.Shelf Nu

attribute [local go_sem] Oper.semAt_some

theorem cmpFn_any {w : World} {aX oX aY oY : Option Addr} {cX rX cY rY : Nat} {sX sY : Bool} {LX DX LY DY : List Nat} {X Y : Rat} (z : Int) (ez : rsg X Y = z) (kX : RCan sX LX DX X) (kY : RCan sY LY DY Y) (b1 : LX.length ≤ 20000) (b2 : DX.length ≤ 20000) (b3 : LY.length ≤ 20000) (b4 : DY.length ≤ 20000) (g1 : Reads w (.slice aX LX.length cX) LX) (g2 : Reads w (.slice oX DX.length rX) DX) (g3 : Reads w (.slice aY LY.length cY) LY) (g4 : Reads w (.slice oY DY.length rY) DY) :
  Calls Tryz.prog 61 #[.agg #[.bool sX, .slice aX LX.length cX, .bool false, .slice oX DX.length rX], .agg #[.bool sY, .slice aY LY.length cY, .bool false, .slice oY DY.length rY]] w fun e w' => e = .returned (.int .i64 z) ∧ Below w.heap.size w w' := by
 obtain ⟨P, hP⟩ : ∃ P, P = X.num * (Y.den : Int) := ⟨_, rfl⟩
 obtain ⟨Q, hQ⟩ : ∃ Q, Q = Y.num * (X.den : Int) := ⟨_, rfl⟩
 rw [← rsg_eq, ← hP, ← hQ] at ez
 obtain ⟨sP, LP, cP⟩ := Can.ex P
 obtain ⟨sQ, LQ, cQ⟩ := Can.ex Q
 have cDX := canL kX.2
 have cDY := canL kY.2
 have lP : LP.length ≤ 40000 := by have := Can.len_mul kX.1.is cDY.is cP hP; omega
 have lQ : LQ.length ≤ 40000 := by have := Can.len_mul kY.1.is cDX.is cQ hQ; omega
 have kp := fun (W : World) {p1 p2 : Option Addr} {q1 q2 : Nat} (h1 : Reads W (.slice p1 LX.length q1) LX) (h2 : Reads W (.slice p2 DY.length q2) DY) => q_mul kX.1.is cDY.is cP hP (by omega) (by omega) h1 h2
 have kq := fun (W : World) {p1 p2 : Option Addr} {q1 q2 : Nat} (h1 : Reads W (.slice p1 LY.length q1) LY) (h2 : Reads W (.slice p2 DX.length q2) DX) => q_mul kY.1.is cDX.is cQ hQ (by omega) (by omega) h1 h2
 have kc := fun (W : World) {p1 p2 : Option Addr} {q1 q2 : Nat} (h1 : Reads W (.slice p1 LP.length q1) LP) (h2 : Reads W (.slice p2 LQ.length q2) LQ) => q_cmp z cP.is cQ.is ez (by omega) (by omega) h1 h2
 have M : Mem w [(w.heap.size + 1, 74, [.bool sY, .slice aY LY.length cY, .bool false, .slice oY DY.length rY]), (w.heap.size, 74, [.bool sX, .slice aX LX.length cX, .bool false, .slice oX DX.length rX])] [(.slice oY DY.length rY, DY), (.slice aY LY.length cY, LY), (.slice oX DX.length rX, DX), (.slice aX LX.length cX, LX)] ((w.alloc (.cells #[.bool sX, .slice aX LX.length cX, .bool false, .slice oX DX.length rX] 74)).alloc (.cells #[.bool sY, .slice aY LY.length cY, .bool false, .slice oY DY.length rY] 74)) := by
  have M := (((((((Mem.start w).add g1).add g2).add g3).add g4).new 74 [.bool sX, .slice aX LX.length cX, .bool false, .slice oX DX.length rX]).new 74 [.bool sY, .slice aY LY.length cY, .bool false, .slice oY DY.length rY])
  simpa only [World.size_alloc] using M
 clear g1 g2 g3 g4 b1 b2 b3 b4 kX kY cDX cDY ez hP hQ cP cQ lP lQ
 go_enter Tryz.func61, Tryz.ntmps61
 go_wp2
 refine region_mem (S := (fun W => BoxN W (w.heap.size) 74 #[.bool sX, .slice aX LX.length cX, .bool false, .slice oX DX.length rX] ∧ BoxN W (w.heap.size + 1) 74 #[.bool sY, .slice aY LY.length cY, .bool false, .slice oY DY.length rY])) M (by kernel_rfl) ?_
 intro V0 M
 have hS0 : (fun W => BoxN W (w.heap.size) 74 #[.bool sX, .slice aX LX.length cX, .bool false, .slice oX DX.length rX] ∧ BoxN W (w.heap.size + 1) 74 #[.bool sY, .slice aY LY.length cY, .bool false, .slice oY DY.length rY]) V0 := ⟨M.box 1 rfl, M.box 0 rfl⟩
 refine wpAnyH_take (i := 0) (oi := ⟨_, _, _, _, _, _⟩) (v := (.pointer (some ⟨w.heap.size, 0, none⟩))) rfl (by kernel_rfl) (by kernel_rfl) (by kernel_rfl) (fun _ _ _ h => h) (Or.inl ⟨by rfl, fun W3 hS => by obtain ⟨hS1, hS2⟩ := hS; go_simp⟩) hS0 ?_
 refine wpAnyH_take (i := 1) (oi := ⟨_, _, _, _, _, _⟩) (v := (.agg #[.bool sX, .slice aX LX.length cX])) rfl (by kernel_rfl) (by kernel_rfl) (by kernel_rfl) (fun _ _ _ h => h) (Or.inl ⟨by rfl, fun W3 hS => by obtain ⟨hS1, hS2⟩ := hS; have c1_0 := hS1.cell 0 _ rfl; have c1_1 := hS1.cell 1 _ rfl; have c1_2 := hS1.cell 2 _ rfl; have c1_3 := hS1.cell 3 _ rfl; go_simp⟩) hS0 ?_
 refine wpAnyH_take (i := 2) (oi := ⟨_, _, _, _, _, _⟩) (v := (.pointer (some ⟨w.heap.size + 1, 2, none⟩))) rfl (by kernel_rfl) (by kernel_rfl) (by kernel_rfl) (fun _ _ _ h => h) (Or.inl ⟨by rfl, fun W3 hS => by obtain ⟨hS1, hS2⟩ := hS; go_simp⟩) hS0 ?_
 refine wpAnyH_take (i := 3) (oi := ⟨_, _, _, _, _, _⟩) (v := (.agg #[.bool false, .slice oY DY.length rY])) rfl (by kernel_rfl) (by kernel_rfl) (by kernel_rfl) (fun _ _ _ h => h) (Or.inl ⟨by rfl, fun W3 hS => by obtain ⟨hS1, hS2⟩ := hS; have c2_0 := hS2.cell 0 _ rfl; have c2_1 := hS2.cell 1 _ rfl; have c2_2 := hS2.cell 2 _ rfl; have c2_3 := hS2.cell 3 _ rfl; go_simp⟩) hS0 ?_
 refine wpAnyH_take (i := 5) (oi := ⟨_, _, _, _, _, _⟩) (v := (.pointer (some ⟨w.heap.size + 1, 0, none⟩))) rfl (by kernel_rfl) (by kernel_rfl) (by kernel_rfl) (fun _ _ _ h => h) (Or.inl ⟨by rfl, fun W3 hS => by obtain ⟨hS1, hS2⟩ := hS; go_simp⟩) hS0 ?_
 refine wpAnyH_take (i := 6) (oi := ⟨_, _, _, _, _, _⟩) (v := (.agg #[.bool sY, .slice aY LY.length cY])) rfl (by kernel_rfl) (by kernel_rfl) (by kernel_rfl) (fun _ _ _ h => h) (Or.inl ⟨by rfl, fun W3 hS => by obtain ⟨hS1, hS2⟩ := hS; have c2_0 := hS2.cell 0 _ rfl; have c2_1 := hS2.cell 1 _ rfl; have c2_2 := hS2.cell 2 _ rfl; have c2_3 := hS2.cell 3 _ rfl; go_simp⟩) hS0 ?_
 refine wpAnyH_take (i := 7) (oi := ⟨_, _, _, _, _, _⟩) (v := (.pointer (some ⟨w.heap.size, 2, none⟩))) rfl (by kernel_rfl) (by kernel_rfl) (by kernel_rfl) (fun _ _ _ h => h) (Or.inl ⟨by rfl, fun W3 hS => by obtain ⟨hS1, hS2⟩ := hS; go_simp⟩) hS0 ?_
 refine wpAnyH_take (i := 8) (oi := ⟨_, _, _, _, _, _⟩) (v := (.agg #[.bool false, .slice oX DX.length rX])) rfl (by kernel_rfl) (by kernel_rfl) (by kernel_rfl) (fun _ _ _ h => h) (Or.inl ⟨by rfl, fun W3 hS => by obtain ⟨hS1, hS2⟩ := hS; have c1_0 := hS1.cell 0 _ rfl; have c1_1 := hS1.cell 1 _ rfl; have c1_2 := hS1.cell 2 _ rfl; have c1_3 := hS1.cell 3 _ rfl; go_simp⟩) hS0 ?_
 clear hS0
 try simp only [Act.put, List.setIfInBounds_toArray, List.set_cons_zero, List.set_cons_succ]
 refine wpAnyH_all (rs := [4]) (by kernel_rfl) (by simp) ?_
 intro i hi
 obtain rfl : i = 4 := by simpa using hi
 refine wpOp_intro rfl (fun K1 hK => ?_)
 clear hi
 go_simp
 refine (kp _ (M.get 3 rfl) (M.get 0 rfl)).mono ?_
 rintro e V1_4 ⟨a1, c1, rfl, g, rr⟩
 have M' := (M.up rr).add g
 clear M rr g
 have M := M'; clear M'
 refine hK _ _ ⟨⟨M.box 1 rfl, M.box 0 rfl⟩, ?_⟩
 clear hK K1
 refine wpAnyH_all (rs := [9]) (by kernel_rfl) (by simp) ?_
 intro i hi
 obtain rfl : i = 9 := by simpa using hi
 refine wpOp_intro rfl (fun K2 hK => ?_)
 clear hi
 go_simp
 refine (kq _ (M.get 2 rfl) (M.get 3 rfl)).mono ?_
 rintro e V2_9 ⟨a2, c2, rfl, g, rr⟩
 have M' := (M.up rr).add g
 clear M rr g
 have M := M'; clear M'
 refine hK _ _ ⟨⟨M.box 1 rfl, M.box 0 rfl⟩, ?_⟩
 clear hK K2
 refine wpAnyH_all (rs := [10]) (by kernel_rfl) (by simp) ?_
 intro i hi
 obtain rfl : i = 10 := by simpa using hi
 refine wpOp_intro rfl (fun K3 hK => ?_)
 clear hi
 go_simp
 refine (kc _ (M.get 1 rfl) (M.get 0 rfl)).mono ?_
 rintro e V3_10 ⟨rfl, rr⟩
 have M' := M.up rr
 clear M rr 
 have M := M'; clear M'
 refine hK _ _ ⟨⟨M.box 1 rfl, M.box 0 rfl⟩, ?_⟩
 clear hK K3
 have hS0 : (fun W => BoxN W (w.heap.size) 74 #[.bool sX, .slice aX LX.length cX, .bool false, .slice oX DX.length rX] ∧ BoxN W (w.heap.size + 1) 74 #[.bool sY, .slice aY LY.length cY, .bool false, .slice oY DY.length rY]) _ := ⟨M.box 1 rfl, M.box 0 rfl⟩
 refine wpAnyH_take (i := 11) (oi := ⟨_, _, _, _, _, _⟩) (v := (.int .i64 z)) rfl (by kernel_rfl) (by kernel_rfl) (by kernel_rfl) (fun _ _ _ h => h) (Or.inl ⟨by rfl, fun W3 hS => by obtain ⟨hS1, hS2⟩ := hS; go_simp⟩) hS0 ?_
 clear hS0
 try simp only [Act.put, List.setIfInBounds_toArray, List.set_cons_zero, List.set_cons_succ]
 refine wpAnyH_done (by kernel_rfl) ?_ _
 go_wp2
 go_ret
 exact ⟨rfl, M.below⟩
theorem ofTwo_cmp {w : World} {p1 o1 p2 o2 : Option Addr} {q1 r1 q2 r2 : Nat} {n1 n2 : Bool} {l1 d1 l2 d2 : List Nat} {X Y : Rat} (z : Int) (ez : rsg X Y = z) (hX : RIs n1 l1 d1 X) (hY : RIs n2 l2 d2 Y) (b1 : l1.length ≤ 9999) (b2 : d1.length ≤ 9999) (b3 : l2.length ≤ 9999) (b4 : d2.length ≤ 9999) (g1 : Reads w (.slice p1 l1.length q1) l1) (g2 : Reads w (.slice o1 d1.length r1) d1) (g3 : Reads w (.slice p2 l2.length q2) l2) (g4 : Reads w (.slice o2 d2.length r2) d2) :
  Calls Tryz.prog 60 #[.agg #[.bool n1, .slice p1 l1.length q1, .slice o1 d1.length r1], .agg #[.bool n2, .slice p2 l2.length q2, .slice o2 d2.length r2], .func (.func 61) #[] #[]] w fun e w' => e = .returned (.int .i64 z) ∧ Below w.heap.size w w' := by
 obtain ⟨sX, LX, DX, kX⟩ := RCan.ex X
 obtain ⟨sY, LY, DY, kY⟩ := RCan.ex Y
 have lX := hX.lens kX
 have lY := hY.lens kY
 have kp1 := fun (W : World) (h1 : Reads W (.slice p1 l1.length q1) l1) (h2 : Reads W (.slice o1 d1.length r1) d1) => partsOf_any hX kX (by omega) (by omega) h1 h2
 have kp2 := fun (W : World) (h1 : Reads W (.slice p2 l2.length q2) l2) (h2 : Reads W (.slice o2 d2.length r2) d2) => partsOf_any hY kY (by omega) (by omega) h1 h2
 have kf := fun (W : World) {aX oX aY oY : Option Addr} {cX rX cY rY : Nat} (g1 : Reads W (.slice aX LX.length cX) LX) (g2 : Reads W (.slice oX DX.length rX) DX) (g3 : Reads W (.slice aY LY.length cY) LY) (g4 : Reads W (.slice oY DY.length rY) DY) => cmpFn_any z ez kX kY (by omega) (by omega) (by omega) (by omega) g1 g2 g3 g4
 have M : Mem w [(w.heap.size + 1, 27, [.bool n2, .slice p2 l2.length q2, .slice o2 d2.length r2]), (w.heap.size, 27, [.bool n1, .slice p1 l1.length q1, .slice o1 d1.length r1])] [(.slice o2 d2.length r2, d2), (.slice p2 l2.length q2, l2), (.slice o1 d1.length r1, d1), (.slice p1 l1.length q1, l1)] ((w.alloc (.cells #[.bool n1, .slice p1 l1.length q1, .slice o1 d1.length r1] 27)).alloc (.cells #[.bool n2, .slice p2 l2.length q2, .slice o2 d2.length r2] 27)) := by
  have M := (((((((Mem.start w).add g1).add g2).add g3).add g4).new 27 [.bool n1, .slice p1 l1.length q1, .slice o1 d1.length r1]).new 27 [.bool n2, .slice p2 l2.length q2, .slice o2 d2.length r2])
  simpa only [World.size_alloc] using M
 clear g1 g2 g3 g4 b1 b2 b3 b4 kX kY lX lY hX hY ez
 go_enter Tryz.func60, Tryz.ntmps60
 go_wp2
 refine region_mem (S := (fun W => BoxN W (w.heap.size) 27 #[.bool n1, .slice p1 l1.length q1, .slice o1 d1.length r1] ∧ BoxN W (w.heap.size + 1) 27 #[.bool n2, .slice p2 l2.length q2, .slice o2 d2.length r2])) M (by kernel_rfl) ?_
 intro V0 M
 have hS0 : (fun W => BoxN W (w.heap.size) 27 #[.bool n1, .slice p1 l1.length q1, .slice o1 d1.length r1] ∧ BoxN W (w.heap.size + 1) 27 #[.bool n2, .slice p2 l2.length q2, .slice o2 d2.length r2]) V0 := ⟨M.box 1 rfl, M.box 0 rfl⟩
 refine wpAnyH_take (i := 0) (oi := ⟨_, _, _, _, _, _⟩) (v := (.func (.func 61) #[] #[])) rfl (by kernel_rfl) (by kernel_rfl) (by kernel_rfl) (fun _ _ _ h => h) (Or.inl ⟨by rfl, fun W3 hS => by obtain ⟨hS1, hS2⟩ := hS; go_simp⟩) hS0 ?_
 refine wpAnyH_take (i := 1) (oi := ⟨_, _, _, _, _, _⟩) (v := (.agg #[.bool n1, .slice p1 l1.length q1, .slice o1 d1.length r1])) rfl (by kernel_rfl) (by kernel_rfl) (by kernel_rfl) (fun _ _ _ h => h) (Or.inl ⟨by rfl, fun W3 hS => by obtain ⟨hS1, hS2⟩ := hS; have c1_0 := hS1.cell 0 _ rfl; have c1_1 := hS1.cell 1 _ rfl; have c1_2 := hS1.cell 2 _ rfl; go_simp⟩) hS0 ?_
 refine wpAnyH_take (i := 3) (oi := ⟨_, _, _, _, _, _⟩) (v := (.agg #[.bool n2, .slice p2 l2.length q2, .slice o2 d2.length r2])) rfl (by kernel_rfl) (by kernel_rfl) (by kernel_rfl) (fun _ _ _ h => h) (Or.inl ⟨by rfl, fun W3 hS => by obtain ⟨hS1, hS2⟩ := hS; have c2_0 := hS2.cell 0 _ rfl; have c2_1 := hS2.cell 1 _ rfl; have c2_2 := hS2.cell 2 _ rfl; go_simp⟩) hS0 ?_
 clear hS0
 try simp only [Act.put, List.setIfInBounds_toArray, List.set_cons_zero, List.set_cons_succ]
 refine wpAnyH_all (rs := [2]) (by kernel_rfl) (by simp) ?_
 intro i hi
 obtain rfl : i = 2 := by simpa using hi
 refine wpOp_intro rfl (fun K1 hK => ?_)
 clear hi
 go_simp
 refine (kp1 _ (M.get 3 rfl) (M.get 2 rfl)).mono ?_
 rintro e V1_2 ⟨aX, cX, oX, rX, rfl, g, g', rr⟩
 have M' := ((M.up rr).add g).add g'
 clear M rr g g'
 have M := M'; clear M'
 refine hK _ _ ⟨⟨M.box 1 rfl, M.box 0 rfl⟩, ?_⟩
 clear hK K1
 refine wpAnyH_all (rs := [4]) (by kernel_rfl) (by simp) ?_
 intro i hi
 obtain rfl : i = 4 := by simpa using hi
 refine wpOp_intro rfl (fun K2 hK => ?_)
 clear hi
 go_simp
 refine (kp2 _ (M.get 3 rfl) (M.get 2 rfl)).mono ?_
 rintro e V2_4 ⟨aY, cY, oY, rY, rfl, g, g', rr⟩
 have M' := ((M.up rr).add g).add g'
 clear M rr g g'
 have M := M'; clear M'
 refine hK _ _ ⟨⟨M.box 1 rfl, M.box 0 rfl⟩, ?_⟩
 clear hK K2
 refine wpAnyH_all (rs := [5]) (by kernel_rfl) (by simp) ?_
 intro i hi
 obtain rfl : i = 5 := by simpa using hi
 refine wpOp_intro rfl (fun K3 hK => ?_)
 clear hi
 go_simp
 refine (kf _ (M.get 3 rfl) (M.get 2 rfl) (M.get 1 rfl) (M.get 0 rfl)).mono ?_
 rintro e V3_5 ⟨rfl, rr⟩
 have M' := M.up rr
 clear M rr 
 have M := M'; clear M'
 refine hK _ _ ⟨⟨M.box 1 rfl, M.box 0 rfl⟩, ?_⟩
 clear hK K3
 have hS0 : (fun W => BoxN W (w.heap.size) 27 #[.bool n1, .slice p1 l1.length q1, .slice o1 d1.length r1] ∧ BoxN W (w.heap.size + 1) 27 #[.bool n2, .slice p2 l2.length q2, .slice o2 d2.length r2]) _ := ⟨M.box 1 rfl, M.box 0 rfl⟩
 refine wpAnyH_take (i := 6) (oi := ⟨_, _, _, _, _, _⟩) (v := (.int .i64 z)) rfl (by kernel_rfl) (by kernel_rfl) (by kernel_rfl) (fun _ _ _ h => h) (Or.inl ⟨by rfl, fun W3 hS => by obtain ⟨hS1, hS2⟩ := hS; go_simp⟩) hS0 ?_
 clear hS0
 try simp only [Act.put, List.setIfInBounds_toArray, List.set_cons_zero, List.set_cons_succ]
 refine wpAnyH_done (by kernel_rfl) ?_ _
 go_wp2
 go_ret
 exact ⟨rfl, M.below⟩
theorem r_cmp {w : World} {p1 o1 p2 o2 : Option Addr} {q1 r1 q2 r2 : Nat} {n1 n2 : Bool} {l1 d1 l2 d2 : List Nat} {X Y : Rat} (z : Int) (ez : rsg X Y = z) (hX : RIs n1 l1 d1 X) (hY : RIs n2 l2 d2 Y) (b1 : l1.length ≤ 9999) (b2 : d1.length ≤ 9999) (b3 : l2.length ≤ 9999) (b4 : d2.length ≤ 9999) (g1 : Reads w (.slice p1 l1.length q1) l1) (g2 : Reads w (.slice o1 d1.length r1) d1) (g3 : Reads w (.slice p2 l2.length q2) l2) (g4 : Reads w (.slice o2 d2.length r2) d2) :
  Calls Tryz.prog 15 #[.agg #[.bool n1, .slice p1 l1.length q1, .slice o1 d1.length r1], .agg #[.bool n2, .slice p2 l2.length q2, .slice o2 d2.length r2]] w fun e w' => e = .returned (.int .i64 z) ∧ Below w.heap.size w w' := by
 have ko := fun (W : World) (g1 : Reads W (.slice p1 l1.length q1) l1) (g2 : Reads W (.slice o1 d1.length r1) d1) (g3 : Reads W (.slice p2 l2.length q2) l2) (g4 : Reads W (.slice o2 d2.length r2) d2) => ofTwo_cmp (w := W) z ez hX hY b1 b2 b3 b4 g1 g2 g3 g4
 have M : Mem w [(w.heap.size + 1, 27, [.bool n2, .slice p2 l2.length q2, .slice o2 d2.length r2]), (w.heap.size, 27, [.bool n1, .slice p1 l1.length q1, .slice o1 d1.length r1])] [(.slice o2 d2.length r2, d2), (.slice p2 l2.length q2, l2), (.slice o1 d1.length r1, d1), (.slice p1 l1.length q1, l1)] ((w.alloc (.cells #[.bool n1, .slice p1 l1.length q1, .slice o1 d1.length r1] 27)).alloc (.cells #[.bool n2, .slice p2 l2.length q2, .slice o2 d2.length r2] 27)) := by
  have M := (((((((Mem.start w).add g1).add g2).add g3).add g4).new 27 [.bool n1, .slice p1 l1.length q1, .slice o1 d1.length r1]).new 27 [.bool n2, .slice p2 l2.length q2, .slice o2 d2.length r2])
  simpa only [World.size_alloc] using M
 clear g1 g2 g3 g4 b1 b2 b3 b4 hX hY ez
 go_enter Tryz.func15, Tryz.ntmps15
 go_wp2_with (go_at_call 60; refine (ko _ (M.get 3 rfl) (M.get 2 rfl) (M.get 1 rfl) (M.get 0 rfl)).mono ?_; clear ko; rintro e w1 ⟨rfl, rr⟩; have M' := M.up rr; clear M rr)
 go_ret
 exact ⟨rfl, M'.below⟩
end Go.Proofs.YthnlmjnfdokdbaaGreatDoor
