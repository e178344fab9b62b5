/- Seals: the law on what the document says of a stamp. -/
import Derived.Test.YtjlmhpokamdkhaaDoorSlM
namespace Go.Proofs.YtjlmhpokamdkhaaDoor
open Go Go.Proofs Go.RowKit Go.Shelf

attribute [local go_sem] Oper.semAt_some
set_option maxRecDepth 100000
/-- the box stands, and what was there stays -/
def BoxW (w W : World) (g : Nat) (K N T : ByteArray) (u : Nat) : Prop := Box W g K N T u ∧ Below w.heap.size w W
theorem BoxW.on {w W W' : World} {g : Nat} {K N T : ByteArray} {u : Nat} (h : BoxW w W g K N T u) (hb : Below W.heap.size W W') : BoxW w W' g K N T u := ⟨h.1.on hb, h.2.trans (hb.mono h.2.size)⟩
theorem BoxW.four {w W : World} {g : Nat} {K N T : ByteArray} {u : Nat} (h : BoxW w W g K N T u) : W.cell? ⟨g, 0, none⟩ = some (.string K) ∧ W.cell? ⟨g, 1, none⟩ = some (.string N) ∧ W.cell? ⟨g, 2, none⟩ = some (.int .u64 (u : Int)) ∧ W.cell? ⟨g, 3, none⟩ = some (.string T) := ⟨h.1.1, h.1.2.1, h.1.2.2.1, h.1.2.2.2.1⟩
set_option maxHeartbeats 8000000 in
theorem made_all (K N T : ByteArray) (u : Nat) (w : World) (hu : u < 18446744073709551616) (hW : HasW w) :
    Calls Tryd.prog 4 #[.agg #[.string K, .string N, .int .u64 (u : Int), .string T]] w fun e w' => e = .returned (.bool true) ∧ Below w.heap.size w w' := by
  have B0 := Lib.hid (show Below w.heap.size w (w.alloc (.cells #[.string K, .string N, .int .u64 (u : Int), .string T] 31)) from (Below.refl _ _).alloc (Nat.le_refl _) _)
  have BX := Lib.hid (Box.new w K N T u)
  have y0 := BX.out.1
  have y1 := BX.out.2.1
  have y2 := BX.out.2.2.1
  have y3 := BX.out.2.2.2.1
  by_cases hg : 3000 < K.size ∨ 3000 < N.size ∨ 3000 < T.size
  · have KG := Lib.hid (fun W => great_yes K N T (u : Int) W hg)
    clear hg hW hu
    go_enter Tryd.func4, Tryd.ntmps4
    go_wp2_with (first
      | (go_at_call 15; (with_reducible refine (KG.out _).mono ?_); rintro e w2 ⟨rfl, q2⟩; clear y0 y1 y2 y3; have B0 := Lib.hid (B0.out.trans (q2.mono B0.out.size)); clear q2))
    go_ret
    exact ⟨rfl, B0.out⟩
  have hK : K.size ≤ 3000 := by omega
  have hN : N.size ≤ 3000 := by omega
  have hT : T.size ≤ 3000 := by omega
  have KG := Lib.hid (fun W => great_no K N T (u : Int) W hK hN hT)
  obtain ⟨S, hS⟩ : ∃ S : ByteArray, S = ⟨(sealB (bts K) (bts N) u).toArray⟩ := ⟨_, rfl⟩
  obtain ⟨q, hq⟩ : ∃ q, q = (sealB (bts K) (bts N) u == bts T) := ⟨_, rfl⟩
  obtain ⟨g, hgw⟩ : ∃ g, g = w.heap.size := ⟨_, rfl⟩
  have KM := Lib.hid (show ∀ W, BoxW w W g K N T u → Calls Tryd.prog 16 #[.string K, .string N, .int .u64 (u : Int)] W fun e w' => e = .returned (.string S) ∧ BoxW w w' g K N T u from fun W hb => by rw [hS]; exact (make_any K N u hu W (by omega) (by omega) (hW.below hb.2)).mono fun _ _ h => ⟨h.1, hb.on h.2⟩)
  have KRM := Lib.hid (show ∀ W, BoxW w W g K N T u → Calls Tryd.prog 17 #[.string K, .string N, .int .u64 (u : Int)] W fun e w' => e = .returned (.string S) ∧ BoxW w w' g K N T u from fun W hb => by rw [hS]; exact (rmake_any K N u hu W (by omega) (by omega)).mono fun _ _ h => ⟨h.1, hb.on h.2⟩)
  have KC := Lib.hid (show ∀ W, BoxW w W g K N T u → Calls Tryd.prog 18 #[.string K, .string N, .int .u64 (u : Int), .string T] W fun e w' => e = .returned (.bool q) ∧ BoxW w w' g K N T u from fun W hb => by rw [hq]; exact (check_any K N T u hu W (by omega) (by omega) (by omega) (hW.below hb.2)).mono fun _ _ h => ⟨h.1, hb.on h.2⟩)
  have KRC := Lib.hid (show ∀ W, BoxW w W g K N T u → Calls Tryd.prog 19 #[.string K, .string N, .int .u64 (u : Int), .string T] W fun e w' => e = .returned (.bool q) ∧ BoxW w w' g K N T u from fun W hb => by rw [hq]; exact (rcheck_any K N T u hu W (by omega) (by omega)).mono fun _ _ h => ⟨h.1, hb.on h.2⟩)
  have qss : (S.toList == S.toList) = true := beq_self_eq_true _
  have HG := Lib.hid hgw
  clear hg hW hu hK hN hT hS hq hgw
  go_enter Tryd.func4, Tryd.ntmps4
  go_wp2_with (first
    | (go_at_call 15; (with_reducible refine (KG.out _).mono ?_); rintro e w2 ⟨rfl, q2⟩; clear y0 y1 y2 y3; have BX := Lib.hid (BX.out.on q2); have B0 := Lib.hid (B0.out.trans (q2.mono B0.out.size)); clear q2))
  have HGe := HG.out
  rw [← HGe]
  have F := Lib.hid (show BoxW w w2 g K N T u from ⟨by rw [HGe]; exact BX.out, B0.out⟩)
  have Fd := Lib.hid (F.out.on (Below.refl _ _).drew)
  clear HGe HG BX B0
  go_region_held3 (fun W => W.cell? ⟨g, 0, none⟩ = some (.string K) ∧ W.cell? ⟨g, 1, none⟩ = some (.string N) ∧ W.cell? ⟨g, 2, none⟩ = some (.int .u64 (u : Int)) ∧ W.cell? ⟨g, 3, none⟩ = some (.string T))
    (first
      | exact F4.out.four
      | exact F3.out.four
      | exact F2.out.four
      | exact F1.out.four
      | exact Fd.out.four
      | fail)
    (first
      | (go_at_call 16; (with_reducible refine (KM.out _ Fd.out).mono ?_); rintro e x1 ⟨rfl, q1⟩; have F1 := Lib.hid q1; clear q1)
      | (go_at_call 17; (with_reducible refine (KRM.out _ F1.out).mono ?_); rintro e x2 ⟨rfl, q1⟩; have F2 := Lib.hid q1; clear q1)
      | (go_at_call 18; (with_reducible refine (KC.out _ F2.out).mono ?_); rintro e x3 ⟨rfl, q1⟩; have F3 := Lib.hid q1; clear q1)
      | (go_at_call 19; (with_reducible refine (KRC.out _ F3.out).mono ?_); rintro e x4 ⟨rfl, q1⟩; have F4 := Lib.hid q1; clear q1)
      | fail)
  all_goals
    go_wp2
    go_ret
    exact ⟨rfl, F4.out.2⟩
end Go.Proofs.YtjlmhpokamdkhaaDoor
