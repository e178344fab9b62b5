/- Fractions: Make of numbers that may not be; the document's lowest, Make and Of; what is no fraction, twice; a book of fractions. -/
import Derived.Test.YthnlmjnfdokdbaaGreatDoorGRrP
import Derived.Test.YthnlmjnfdokdbaaGreatDoorGRatLit
import Derived.Test.YthnlmjnfdokdbaaGreatDoorGRatLaw
import Derived.Test.YthnlmjnfdokdbaaGreatDoorGIPairsA
import Derived.Test.YthnlmjnfdokdbaaGreatDoorGGreatP
set_option linter.unusedSimpArgs false
set_option linter.unusedVariables false
set_option maxRecDepth 100000
set_option maxHeartbeats 8000000
namespace Go.Proofs.YthnlmjnfdokdbaaGreatDoor
open Go Go.Proofs Go.RowKit Go.Shelf Nu

attribute [local go_sem] Oper.semAt_some

theorem rr_lowest {w : World} {p1 p2 : Option Addr} {q1 q2 B : Nat} {s1 sZ : Bool} {L1 L2 LZ DZ : List Nat} {N : Int} {Z : Rat} (cN : Can s1 L1 N) (hB : L2 = digs B) (h0 : B ≠ 0) (kZ : RCan sZ LZ DZ Z) (eZ : Z = (N : Rat) / (((B : Nat) : Int) : Rat)) (l1 : L1.length ≤ 40000) (l2 : L2.length ≤ 40000) (h1 : Reads w (.slice p1 L1.length q1) L1) (h2 : Reads w (.slice p2 L2.length q2) L2) :
  Calls Tryz.prog 58 #[.agg #[.bool s1, .slice p1 L1.length q1], .slice p2 L2.length q2] w fun e w' => ∃ a c a' c', e = .returned (.agg #[.bool sZ, .slice a LZ.length c, .slice a' DZ.length c']) ∧ Reads w' (.slice a LZ.length c) LZ ∧ Reads w' (.slice a' DZ.length c') DZ ∧ Below w.heap.size w w' := by
 obtain ⟨g, d, k, hg, g0, e1, e2, e3, e4⟩ := rmake_parts N (B : Int) (by omega)
 rw [← eZ] at e3 e4
 rw [Int.natAbs_natCast] at hg
 have e2' : B = g * d := by omega
 have eN : N.natAbs = g * k.natAbs := by rw [e1, Int.natAbs_mul, Int.natAbs_natCast]
 obtain ⟨Lg, hLg⟩ : ∃ L, L = digs g := ⟨_, rfl⟩
 have lg : Lg.length ≤ 40000 := by
  rw [hLg]
  have h3 := digs_mono (show g ≤ B by rw [e2']; exact Nat.le_mul_of_pos_right _ (Nat.pos_of_ne_zero (fun e => h0 (by rw [e2', e, Nat.mul_zero]))))
  rw [← hB] at h3; omega
 have hLZ : LZ = digs k.natAbs := by rw [kZ.1.2, e3]
 have hDZ : DZ = digs d := by rw [kZ.2, e4]
 have hs : (s1 && decide (0 < LZ.length)) = sZ := by
  rw [cN.1, kZ.1.1, e3, hLZ, dec_digs]
  have hgp : (0 : Int) < (g : Int) := by omega
  by_cases hk : k = 0
  · subst hk; simp
  · have h5 : 0 < k.natAbs := Int.natAbs_pos.2 hk
    rw [decide_eq_true h5, Bool.and_true, e1]
    by_cases hn : k < 0
    · rw [decide_eq_true hn, decide_eq_true (Int.mul_neg_of_pos_of_neg hgp hn)]
    · rw [decide_eq_false hn, decide_eq_false]
      have := Int.mul_nonneg (Int.le_of_lt hgp) (Int.not_lt.1 hn)
      omega
 have KG := Lib.hid (fun (W : World) (y1 : Reads W (.slice p1 L1.length q1) L1) (y2 : Reads W (.slice p2 L2.length q2) L2) => p_gcd (G := Lg) cN.2 hB (by rw [hLg, hg]) (by omega) (by omega) y1 y2)
 have KA := Lib.hid (fun (W : World) {a : Option Addr} {c : Nat} (y1 : Reads W (.slice p1 L1.length q1) L1) (y2 : Reads W (.slice a Lg.length c) Lg) => p_quo cN.2 hLg hLZ eN g0 (by omega) (by omega) y1 y2)
 have KB := Lib.hid (fun (W : World) {a : Option Addr} {c : Nat} (y1 : Reads W (.slice p2 L2.length q2) L2) (y2 : Reads W (.slice a Lg.length c) Lg) => p_quo hB hLg hDZ e2' g0 (by omega) (by omega) y1 y2)
 have KS := Lib.hid (fun (W : World) (a : Option Addr) (c : Nat) => hs ▸ rsigned_any s1 a LZ.length c W)
 have M : Mem w [(w.heap.size + 1, 27, [.bool false, .slice none 0 0, .slice none 0 0]), (w.heap.size, 25, [.bool s1, .slice p1 L1.length q1])] [(.slice p2 L2.length q2, L2), (.slice p1 L1.length q1, L1)] ((w.alloc (.cells #[.bool s1, .slice p1 L1.length q1] 25)).alloc (.cells #[.bool false, .slice none 0 0, .slice none 0 0] 27)) := by
  have M := (((((Mem.start w).add h1).add h2).new 25 [.bool s1, .slice p1 L1.length q1]).new 27 [.bool false, .slice none 0 0, .slice none 0 0])
  simpa only [World.size_alloc] using M
 clear h1 h2 l1 l2 cN hB h0 kZ eZ hg g0 e1 e2 e3 e4 e2' eN hLg lg hLZ hDZ hs
 go_enter Tryz.func58, Tryz.ntmps58
 have z0 := M.cell 1 rfl 0 rfl; have z1 := M.cell 1 rfl 1 rfl
 go_wp2_with fail
 clear z0 z1
 refine (KG.out _ (M.get 1 rfl) (M.get 0 rfl)).mono ?_
 rintro e w1 ⟨ag, cg, rfl, y, rr⟩
 have M' := (M.up rr).add y; clear M rr y; have M := M'; clear M'
 have z0 := M.cell 1 rfl 0 rfl; have z1 := M.cell 1 rfl 1 rfl
 go_wp2_with fail
 clear z0 z1
 refine (KA.out _ (M.get 2 rfl) (M.get 0 rfl)).mono ?_
 rintro e w2 ⟨aa, ca, b2, d2, rfl, y, rr⟩
 have M' := (M.up rr).add y; clear M rr y; have M := M'; clear M'
 have z0 := M.cell 1 rfl 0 rfl; have z1 := M.cell 1 rfl 1 rfl
 go_wp2_with fail
 clear z0 z1
 refine (KB.out _ (M.get 2 rfl) (M.get 1 rfl)).mono ?_
 rintro e w3 ⟨ab, cb, b3, d3, rfl, y, rr⟩
 have M' := (M.up rr).add y; clear M rr y; have M := M'; clear M'
 have z0 := M.cell 1 rfl 0 rfl; have z1 := M.cell 1 rfl 1 rfl
 go_wp2_with fail
 clear z0 z1
 refine (KS.out _ _ _).mono ?_
 rintro e w4 ⟨rfl, rr⟩
 have M' := M.up rr; clear M rr; have M := M'; clear M'
 have f0 := M.fr 0 rfl 0; have f1 := M.fr 0 rfl 1; have f2 := M.fr 0 rfl 2; have y0 := M.cell 0 rfl 0 rfl; have y1 := M.cell 0 rfl 1 rfl; have y2 := M.cell 0 rfl 2 rfl
 go_wp2_with fail
 have M' := ((M.put 0 rfl rfl 0 (.bool sZ)).put 0 rfl rfl 1 (.slice aa LZ.length ca)).put 0 rfl rfl 2 (.slice ab DZ.length cb)
 refine ret_boxN rfl rfl (M'.box 0 rfl) Tryz.underlying27 size_rat rfl ?_
 exact ⟨aa, ca, ab, cb, rfl, M'.get 1 rfl, M'.get 0 rfl, M'.below⟩
theorem lit_one (W : World) : Reads (W.alloc (.cells #[.int .u32 1] 64)) (.slice (some ⟨W.heap.size, 0, none⟩) 1 1) [1] :=
 (show Fresh (W.alloc (.cells #[.int .u32 1] 64)) W.heap.size (.slice (some ⟨W.heap.size, 0, none⟩) 1 1) [1] from ⟨rfl, .inr ⟨W.heap.size, 1, _, rfl, Nat.le_refl _, World.alloc_heap_new W _, Nat.le_refl _, small_max (by decide), rfl, rfl⟩⟩).reads
theorem digs_one1 : digs 1 = [1] := by rw [digs_pos (by decide)]; simp [digs_zero]
end Go.Proofs.YthnlmjnfdokdbaaGreatDoor
