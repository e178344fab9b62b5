/- Whether one of some fractions has more parts than are gone through. Fractions: their texts. Fractions: products, of any two. Fractions: sums and differences, of any two. Fractions: their order. -/
import Derived.BigQuiet
import Derived.Deep.QuietTactic
import Derived.Test.YtimdinmhphihkaaGreatDoorGRatLaw
import Derived.Test.YtimdinmhphihkaaGreatDoorGRatMul
import Derived.Test.YtimdinmhphihkaaGreatDoorGMathG
import Derived.Test.YtimdinmhphihkaaGreatDoorGRatSum
set_option linter.unusedSimpArgs false
set_option linter.unusedVariables false
namespace Go.Proofs.YtimdinmhphihkaaGreatDoor
open Go Go.Proofs Go.RowKit Go.Shelf Nu

abbrev Q7 : Type := Bool × (Option Addr × Nat × Nat) × (Option Addr × Nat × Nat)
def q7v (t : Q7) : List Value := [.bool t.1, .slice t.2.1.1 t.2.1.2.1 t.2.1.2.2, .slice t.2.2.1 t.2.2.2.1 t.2.2.2.2]
theorem q7_get (zs : List Q7) (j : Nat) (hj : j < zs.length) : (zs.flatMap q7v)[j * 3 + 1]? = some (.slice (zs.getD j default).2.1.1 (zs.getD j default).2.1.2.1 (zs.getD j default).2.1.2.2) ∧ (zs.flatMap q7v)[j * 3 + 2]? = some (.slice (zs.getD j default).2.2.1 (zs.getD j default).2.2.2.1 (zs.getD j default).2.2.2.2) := by
  induction zs generalizing j with
  | nil => simp at hj
  | cons t ts ih =>
    cases j with
    | zero => simp [q7v]
    | succ j =>
      have h := ih j (by simpa using hj)
      rw [List.flatMap_cons, show (j + 1) * 3 + 1 = (q7v t).length + (j * 3 + 1) by simp [q7v]; omega, show (j + 1) * 3 + 2 = (q7v t).length + (j * 3 + 2) by simp [q7v]; omega, List.getElem?_append_right (by omega), List.getElem?_append_right (by omega), Nat.add_sub_cancel_left, Nat.add_sub_cancel_left, h.1, h.2]
      simp

set_option maxRecDepth 100000 in
set_option maxHeartbeats 2000000 in
theorem rgreat_at {w : World} {b m most : Nat} (zs : List Q7) (hm : m = zs.length) (hl : zs.length ≤ 10) (hmo : most ≤ 1000) (hz : ∀ t ∈ zs, t.2.1.2.1 ≤ 70368744177664 ∧ t.2.2.2.1 ≤ 70368744177664) (R : Bool) (hR : R = zs.any fun t => decide (most < t.2.1.2.1 + t.2.2.2.1))
    (hc : ∀ j, j < m → w.cell? ⟨b, j * 3 + 1, none⟩ = some (.slice (zs.getD j default).2.1.1 (zs.getD j default).2.1.2.1 (zs.getD j default).2.1.2.2) ∧ w.cell? ⟨b, j * 3 + 2, none⟩ = some (.slice (zs.getD j default).2.2.1 (zs.getD j default).2.2.2.1 (zs.getD j default).2.2.2.2)) :
    Calls Tryz.prog 6 #[.int .i64 most, .slice (some ⟨b, 0, none⟩) m m] w fun e w' => e = .returned (.bool R) ∧ ∃ n, w' = w.drewN n := by
  have HR := Lib.hid hR
  have HM := Lib.hid hm
  have HZ : Hid (∀ j, j < m → (zs.getD j default).2.1.2.1 ≤ 70368744177664 ∧ (zs.getD j default).2.2.2.1 ≤ 70368744177664) := Lib.hid fun j hj => hz _ (by rw [List.getD_eq_getElem?_getD, List.getElem?_eq_getElem (by omega)]; exact List.getElem_mem (by omega))
  have hm10 : m ≤ 10 := by omega
  have HC := Lib.hid hc
  clear hR hm hz hc
  go_enter Tryz.func6, Tryz.ntmps6
  go_wp2
  go_loopw [5] (fun x wr => ∃ k n : Nat, k ≤ m ∧ x = .int .i64 k ∧ Hid (∀ i, i < k → ¬ most < (zs.getD i default).2.1.2.1 + (zs.getD i default).2.2.2.1) ∧ wr = w.drewN n) (fun x _ => m - (intOf x).toNat)
  case atStart => exact ⟨0, 0, Nat.zero_le _, rfl, Lib.hid (fun i hi => by omega), rfl⟩
  case round =>
    obtain ⟨k, n, hk, rfl, hs, rfl⟩ := hrel
    by_cases hlt : k < m
    · obtain ⟨r1, r2⟩ := HC.out k hlt
      obtain ⟨z1, z2⟩ := HZ.out k hlt
      obtain ⟨t, ht⟩ : ∃ t, t = zs.getD k default := ⟨_, rfl⟩
      rw [← ht] at r1 r2 z1 z2
      have HT := Lib.hid ht
      clear ht
      obtain ⟨b0, ⟨a, N, c⟩, ⟨a', D, c'⟩⟩ := t
      dsimp only at r1 r2 z1 z2
      by_cases hq : most < N + D
      · have h0 : R = true := by
          rw [HR.out, List.any_eq_true]
          have hk2 : k < zs.length := by have := HM.out; omega
          refine ⟨zs[k], List.getElem_mem hk2, ?_⟩
          have : zs[k] = (b0, (a, N, c), (a', D, c')) := by rw [HT.out, List.getD_eq_getElem?_getD, List.getElem?_eq_getElem hk2]; rfl
          rw [this]; simp; omega
        have hq2 : (most : Int) < (N : Int) + (D : Int) := by omega
        have hq3 : decide ((most : Int) < (N : Int) + (D : Int)) = true := decide_eq_true hq2
        clear hq
        go_wp2
        go_quiet (fail)
        go_wp2
        go_ret
        exact ⟨by rw [h0]; rfl, n + nq, by simp [World.drewN, Nat.add_assoc]⟩
      · have hq2 : ¬ (most : Int) < (N : Int) + (D : Int) := by omega
        have hq3 : decide ((most : Int) < (N : Int) + (D : Int)) = false := decide_eq_false hq2
        have HQ := Lib.hid hq
        clear hq
        go_wp2
        go_quiet (fail)
        go_wp2
        go_roundw
        case rel =>
          refine ⟨k + 1, n + nq, by omega, by simp, Lib.hid fun i hi => ?_, by simp [World.drewN, Nat.add_assoc]⟩
          by_cases e : i = k
          · subst e; rw [← HT.out]; exact HQ.out
          · exact hs.out i (by omega)
        case measure => simp [intOf]; omega
    · have h0 : R = false := by
        rw [HR.out, List.any_eq_false]
        intro t ht
        obtain ⟨i, hi, rfl⟩ := List.mem_iff_getElem.1 ht
        have := hs.out i (by have := HM.out; omega)
        rw [List.getD_eq_getElem?_getD, List.getElem?_eq_getElem hi] at this
        simpa using this
      go_wp2
      go_ret
      exact ⟨by rw [h0]; rfl, n, rfl⟩
theorem rgreat_lit (W : World) (most : Nat) (zs : List Q7) {vs : Array Value} (hv : vs = (zs.flatMap q7v).toArray) {m : Nat} (hm : m = zs.length) (hl : zs.length ≤ 10) (hmo : most ≤ 1000) (hz : ∀ t ∈ zs, t.2.1.2.1 ≤ 70368744177664 ∧ t.2.2.2.1 ≤ 70368744177664) (R : Bool) (hR : R = zs.any fun t => decide (most < t.2.1.2.1 + t.2.2.2.1)) :
    Calls Tryz.prog 6 #[.int .i64 most, .slice (some ⟨W.heap.size, 0, none⟩) m m] (W.alloc (.cells vs 27)) fun e w' => e = .returned (.bool R) ∧ Below W.heap.size W w' := by
  subst hv; subst hm
  refine (rgreat_at zs rfl hl hmo hz R hR fun j hj => ?_).mono ?_
  · unfold World.cell?
    rw [World.alloc_heap_new]
    simpa using q7_get zs j hj
  · rintro e w' ⟨rfl, n, rfl⟩
    exact ⟨rfl, ⟨rfl, rfl, rfl, by show W.heap.size ≤ (W.alloc _).heap.size; simp, fun k hk => Below.heap_alloc W _ k hk⟩⟩
end Go.Proofs.YtimdinmhphihkaaGreatDoor

namespace Go.Proofs.YtimdinmhphihkaaGreatDoor
open Go Go.Proofs Go.RowKit Go.Shelf Nu

attribute [local go_sem] Oper.semAt_some

theorem itxt_size {s : Bool} {L : List Nat} {X : Int} (h : Can s L X) : (itxt X).size ≤ 10 * L.length + 2 := by
  have := low_len_val (sm_digs X.natAbs)
  rw [val_digs, ← h.2] at this
  unfold itxt
  split
  · have h1 : (⟨#[45]⟩ : ByteArray).size = 1 := rfl
    rw [ByteArray.size_append, txt_size, h1]; omega
  · rw [txt_size]; omega
/-- a fraction's text -/
def rtxt (X : Rat) : ByteArray := if X.den = 1 then itxt X.num else itxt X.num ++ ⟨#[47]⟩ ++ txt X.den

set_option maxRecDepth 100000 in
set_option maxHeartbeats 8000000 in
theorem r_text {w : World} {p1 o1 : Option Addr} {q1 r1 : Nat} {n1 : Bool} {l1 d1 : List Nat} {X : Rat} (S : ByteArray) (hX : RIs n1 l1 d1 X) (eS : S = rtxt X) (b1 : l1.length ≤ 9999) (b2 : d1.length ≤ 9999) (g1 : Reads w (.slice p1 l1.length q1) l1) (g2 : Reads w (.slice o1 d1.length r1) d1) :
    Calls Tryz.prog 17 #[.agg #[.bool n1, .slice p1 l1.length q1, .slice o1 d1.length r1]] w fun e w' => e = .returned (.string S) ∧ Below w.heap.size w w' := by
  obtain ⟨sX, LX, DX, kX⟩ := RCan.ex X
  have lX := hX.lens kX
  have kp := fun (W : World) (h1 : Reads W (.slice p1 l1.length q1) l1) (h2 : Reads W (.slice o1 d1.length r1) d1) => partsOf_any hX kX (by omega) (by omega) h1 h2
  obtain ⟨S1, hS1⟩ : ∃ S1, S1 = itxt X.num := ⟨_, rfl⟩
  have ki := fun (W : World) {a : Option Addr} {c : Nat} (g : Reads W (.slice a LX.length c) LX) => q_text S1 kX.1.is hS1 (by omega) g
  obtain ⟨R, hR⟩ : ∃ R, decide (X.den = 1) = R := ⟨_, rfl⟩
  have ko : ∀ (W : World) {a : Option Addr} {c : Nat} (g : Reads W (.slice a DX.length c) DX), Calls Tryz.prog 57 #[.slice a DX.length c] W fun e w' => e = .returned (.bool R) ∧ Below W.heap.size W w' := fun W a c g => by
    obtain ⟨_, rfl⟩ := kX
    exact isOne_any g (by omega) R hR
  cases hRb : R with
  | true =>
    subst hRb
    have hd : X.den = 1 := of_decide_eq_true hR
    obtain rfl : S = S1 := by rw [eS, hS1]; unfold rtxt; rw [if_pos hd]
    have M : Mem w [(w.heap.size, 27, [.bool n1, .slice p1 l1.length q1, .slice o1 d1.length r1])] [(.slice o1 d1.length r1, d1), (.slice p1 l1.length q1, l1)] (w.alloc (.cells #[.bool n1, .slice p1 l1.length q1, .slice o1 d1.length r1] 27)) := by
      have M := ((((Mem.start w).add g1).add g2).new 27 [.bool n1, .slice p1 l1.length q1, .slice o1 d1.length r1])
      simpa only [World.size_alloc] using M
    clear g1 g2 b1 b2 hX kX lX hR hd eS hS1
    go_enter Tryz.func17, Tryz.ntmps17
    go_wp2_with (first
      | (go_at_call 41; refine (kp _ (M.get 1 rfl) (M.get 0 rfl)).mono ?_; clear kp; rintro e w1 ⟨aX, cX, oX, rX, rfl, g, g', rr⟩; have M' := (((M.up rr).add g).add g').new 70 [.bool sX, .slice aX LX.length cX, .bool false, .slice oX DX.length rX]; clear M g g' rr; have M := M'; clear M')
      | (go_at_call 57; refine (ko _ (M.get 0 rfl)).mono ?_; clear ko; rintro e w2 ⟨rfl, rr⟩; have M' := M.up rr; clear M rr; have M := M'; clear M'; have z0_0 := M.cell 0 rfl 0 rfl; have z0_1 := M.cell 0 rfl 1 rfl; have z0_2 := M.cell 0 rfl 2 rfl; have z0_3 := M.cell 0 rfl 3 rfl)
      | (go_at_call 66; refine (ki _ (M.get 1 rfl)).mono ?_; clear ki; rintro e w3 ⟨rfl, rr⟩; have M' := M.up rr; clear M rr z0_0 z0_1 z0_2 z0_3))
    go_ret
    exact ⟨rfl, M'.below⟩
  | false =>
    subst hRb
    have hd : X.den ≠ 1 := of_decide_eq_false hR
    obtain ⟨S2, hS2⟩ : ∃ S2, S2 = txt X.den := ⟨_, rfl⟩
    obtain rfl : S = S1 ++ ⟨#[47]⟩ ++ S2 := by rw [eS, hS1, hS2]; unfold rtxt; rw [if_neg hd]
    have kt : ∀ (W : World) {a : Option Addr} {c : Nat} (g : Reads W (.slice a DX.length c) DX), Calls Tryz.prog 67 #[.slice a DX.length c] W fun e w' => e = .returned (.string S2) ∧ Below W.heap.size W w' := fun W a c g => by
      obtain ⟨_, rfl⟩ := kX
      exact text_any g (sm_digs _) (chk_digs _) (by omega) S2 (by rw [val_digs, hS2]; rfl)
    have z1 : S1.size ≤ 1000000 := by
      rw [hS1]
      have := itxt_size kX.1
      omega
    have z2 : S2.size ≤ 1000000 := by
      rw [hS2, txt_size]
      have := low_len_val (sm_digs X.den)
      rw [val_digs, ← kX.2] at this
      omega
    have y1 : ¬ 9223372036854775807 < S1.size + 1 := by omega
    have y2 : ¬ 9223372036854775807 < S1.size + 1 + S2.size := by omega
    have M : Mem w [(w.heap.size, 27, [.bool n1, .slice p1 l1.length q1, .slice o1 d1.length r1])] [(.slice o1 d1.length r1, d1), (.slice p1 l1.length q1, l1)] (w.alloc (.cells #[.bool n1, .slice p1 l1.length q1, .slice o1 d1.length r1] 27)) := by
      have M := ((((Mem.start w).add g1).add g2).new 27 [.bool n1, .slice p1 l1.length q1, .slice o1 d1.length r1])
      simpa only [World.size_alloc] using M
    clear g1 g2 b1 b2 hX kX lX hR hd eS hS1 hS2 z1 z2
    go_enter Tryz.func17, Tryz.ntmps17
    go_wp2_with (first
      | (go_at_call 41; refine (kp _ (M.get 1 rfl) (M.get 0 rfl)).mono ?_; clear kp; rintro e w1 ⟨aX, cX, oX, rX, rfl, g, g', rr⟩; have M' := (((M.up rr).add g).add g').new 70 [.bool sX, .slice aX LX.length cX, .bool false, .slice oX DX.length rX]; clear M g g' rr; have M := M'; clear M')
      | (go_at_call 57; refine (ko _ (M.get 0 rfl)).mono ?_; clear ko; rintro e w2 ⟨rfl, rr⟩; have M' := M.up rr; clear M rr; have M := M'; clear M'; have z0_0 := M.cell 0 rfl 0 rfl; have z0_1 := M.cell 0 rfl 1 rfl; have z0_2 := M.cell 0 rfl 2 rfl; have z0_3 := M.cell 0 rfl 3 rfl))
    clear z0_0 z0_1 z0_2 z0_3
    refine region_mem (S := (fun W => BoxN W (w1.heap.size) 70 #[.bool sX, .slice aX LX.length cX, .bool false, .slice oX DX.length rX])) M (by kernel_rfl) ?_
    intro V0 M
    have hS0 : (fun W => BoxN W (w1.heap.size) 70 #[.bool sX, .slice aX LX.length cX, .bool false, .slice oX DX.length rX]) V0 := M.box 0 rfl
    refine wpAnyH_take (i := 0) (v := (.pointer (some ⟨w1.heap.size, 0, none⟩))) rfl (by kernel_rfl) (by kernel_rfl) (by kernel_rfl) (fun _ _ _ h => h) (Or.inl ⟨by rfl, fun W3 hS => by have hS1 := hS; go_simp⟩) hS0 ?_
    refine wpAnyH_take (i := 1) (v := (.agg #[.bool sX, .slice aX LX.length cX])) rfl (by kernel_rfl) (by kernel_rfl) (by kernel_rfl) (fun _ _ _ h => h) (Or.inl ⟨by rfl, fun W3 hS => by have hS1 := hS; have c1_0 := hS1.cell 0 _ rfl; have c1_1 := hS1.cell 1 _ rfl; have c1_2 := hS1.cell 2 _ rfl; have c1_3 := hS1.cell 3 _ rfl; go_simp⟩) hS0 ?_
    refine wpAnyH_take (i := 4) (v := (.pointer (some ⟨w1.heap.size, 2, none⟩))) rfl (by kernel_rfl) (by kernel_rfl) (by kernel_rfl) (fun _ _ _ h => h) (Or.inl ⟨by rfl, fun W3 hS => by have hS1 := hS; go_simp⟩) hS0 ?_
    refine wpAnyH_take (i := 5) (v := (.pointer (some ⟨w1.heap.size, 3, none⟩))) rfl (by kernel_rfl) (by kernel_rfl) (by kernel_rfl) (fun _ _ _ h => h) (Or.inl ⟨by rfl, fun W3 hS => by have hS1 := hS; go_simp⟩) hS0 ?_
    refine wpAnyH_take (i := 6) (v := (.slice oX DX.length rX)) rfl (by kernel_rfl) (by kernel_rfl) (by kernel_rfl) (fun _ _ _ h => h) (Or.inl ⟨by rfl, fun W3 hS => by have hS1 := hS; have c1_0 := hS1.cell 0 _ rfl; have c1_1 := hS1.cell 1 _ rfl; have c1_2 := hS1.cell 2 _ rfl; have c1_3 := hS1.cell 3 _ rfl; go_simp⟩) hS0 ?_
    clear hS0
    try simp only [Act.put, List.setIfInBounds_toArray, List.set_cons_zero, List.set_cons_succ]
    refine wpAnyH_all (rs := [2]) (by kernel_rfl) (by simp) ?_
    intro i hi
    obtain rfl : i = 2 := by simpa using hi
    refine wpOp_intro rfl (fun K1 hK => ?_)
    clear hi
    go_simp
    refine (ki _ (M.get 1 rfl)).mono ?_
    rintro e V1_2 ⟨rfl, rr⟩
    have M' := M.up rr
    clear M rr 
    have M := M'; clear M'
    refine hK _ _ ⟨M.box 0 rfl, ?_⟩
    clear hK K1
    have hS0 : (fun W => BoxN W (w1.heap.size) 70 #[.bool sX, .slice aX LX.length cX, .bool false, .slice oX DX.length rX]) _ := M.box 0 rfl
    refine wpAnyH_take (i := 3) (v := (.string (S1 ++ ⟨#[47]⟩))) rfl (by kernel_rfl) (by kernel_rfl) (by kernel_rfl) (fun _ _ _ h => h) (Or.inl ⟨by rfl, fun W3 hS => by have hS1 := hS; go_simp⟩) hS0 ?_
    clear hS0
    refine wpAnyH_all (rs := [7]) (by kernel_rfl) (by simp) ?_
    intro i hi
    obtain rfl : i = 7 := by simpa using hi
    refine wpOp_intro rfl (fun K2 hK => ?_)
    clear hi
    go_simp
    refine (kt _ (M.get 0 rfl)).mono ?_
    rintro e V2_7 ⟨rfl, rr⟩
    have M' := M.up rr
    clear M rr 
    have M := M'; clear M'
    refine hK _ _ ⟨M.box 0 rfl, ?_⟩
    clear hK K2
    have hS0 : (fun W => BoxN W (w1.heap.size) 70 #[.bool sX, .slice aX LX.length cX, .bool false, .slice oX DX.length rX]) _ := M.box 0 rfl
    refine wpAnyH_take (i := 8) (v := (.string (S1 ++ ⟨#[47]⟩ ++ S2))) rfl (by kernel_rfl) (by kernel_rfl) (by kernel_rfl) (fun _ _ _ h => h) (Or.inl ⟨by rfl, fun W3 hS => by have hS1 := hS; go_simp⟩) hS0 ?_
    refine wpAnyH_take (i := 9) (v := (.string (S1 ++ ⟨#[47]⟩ ++ S2))) rfl (by kernel_rfl) (by kernel_rfl) (by kernel_rfl) (fun _ _ _ h => h) (Or.inl ⟨by rfl, fun W3 hS => by have hS1 := hS; go_simp⟩) hS0 ?_
    clear hS0
    refine wpAnyH_done (by kernel_rfl) ?_ _
    go_wp2
    go_ret
    exact ⟨rfl, M.below⟩

end Go.Proofs.YtimdinmhphihkaaGreatDoor

namespace Go.Proofs.YtimdinmhphihkaaGreatDoor
open Go Go.Proofs Go.RowKit Go.Shelf Nu

attribute [local go_sem] Oper.semAt_some

end Go.Proofs.YtimdinmhphihkaaGreatDoor

namespace Go.Proofs.YtimdinmhphihkaaGreatDoor
open Go Go.Proofs Go.RowKit Go.Shelf Nu

attribute [local go_sem] Oper.semAt_some

end Go.Proofs.YtimdinmhphihkaaGreatDoor

namespace Go.Proofs.YtimdinmhphihkaaGreatDoor
open Go Go.Proofs Go.RowKit Go.Shelf Nu

attribute [local go_sem] Oper.semAt_some

end Go.Proofs.YtimdinmhphihkaaGreatDoor
