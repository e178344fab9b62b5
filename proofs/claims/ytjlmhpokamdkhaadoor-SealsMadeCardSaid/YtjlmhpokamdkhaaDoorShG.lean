/- Sums: eight numbers as bytes. -/
import Derived.Test.YtjlmhpokamdkhaaDoorShF
namespace Go.Proofs.YtjlmhpokamdkhaaDoor
open Go Go.Proofs Go.RowKit Go.Shelf

attribute [local go_sem] Oper.semAt_some
set_option maxRecDepth 100000
theorem byte0 (x : UInt32) : IntKind.u8.wrap (iu x) = ib (x >>> UInt32.ofNat 0).toUInt8 := by
  have := iu_shr x 0 (by decide)
  rw [Int.pow_zero, Int.ediv_one] at this
  rw [← ib_low, ← this]
theorem byteN (x : UInt32) (n : Nat) (hn : n < 32) : IntKind.u8.wrap (iu x / 2 ^ n) = ib (x >>> UInt32.ofNat n).toUInt8 := by rw [iu_shr x n hn, ib_low]
set_option maxHeartbeats 8000000 in
theorem told_any (s : St) (w : World) :
    Calls Tryd.prog 30 #[.agg ((Sh.list s).map uv).toArray] w fun e w' => e = .returned (.agg ((Sh.outB s).map bv).toArray) ∧ Below w.heap.size w w' := by
  obtain ⟨s0, s1, s2, s3, s4, s5, s6, s7⟩ := s
  obtain ⟨s, hs⟩ : ∃ s : St, s = ⟨s0, s1, s2, s3, s4, s5, s6, s7⟩ := ⟨_, rfl⟩
  have HS := Lib.hid hs
  rw [← hs]
  clear hs
  obtain ⟨A, hA⟩ : ∃ A, A = ((Sh.list s).map uv).toArray := ⟨_, rfl⟩
  have HA := Lib.hid hA
  rw [← hA]
  clear hA
  go_enter Tryd.func30, Tryd.ntmps30
  go_wp2
  obtain ⟨B1, hB1⟩ : ∃ B, B = w.heap.size := ⟨_, rfl⟩
  obtain ⟨B2, hB2⟩ : ∃ B, B = w.heap.size + 1 := ⟨_, rfl⟩
  obtain ⟨B3, hB3⟩ : ∃ B, B = w.heap.size + 1 + 1 := ⟨_, rfl⟩
  rw [← hB3, ← hB2, ← hB1]
  have h13 : B1 ≠ B3 := by omega
  have h23 : B2 ≠ B3 := by omega
  have HB := Lib.hid (show w.heap.size = B1 ∧ B2 = w.heap.size + 1 ∧ B3 = w.heap.size + 1 + 1 from ⟨hB1.symm, hB2, hB3⟩)
  go_loopg [4, 5] 32 (fun g _ i wr => ∃ k : Nat, k + g = 32 ∧ i = .int .i64 (k : Int) ∧ Hid (Row wr B3 24 (((List.range k).map (Sh.outAt s) ++ List.replicate (32 - k) 0).map bv) ∧ Row wr B2 24 (List.replicate 32 (bv 0)) ∧ Row wr B1 42 ((Sh.list s).map uv) ∧ Below w.heap.size w wr))
  case atStart =>
    subst hB1 hB2 hB3
    refine ⟨0, rfl, rfl, Lib.hid ⟨Row.new2 w _ _ _ (List.replicate 32 (bv 0)), (Row.new1 w _ _ (List.replicate 32 (bv 0))).alloc _, ?_, (((Below.refl _ _).alloc (Nat.le_refl _) _).alloc (by simp) _).alloc (by simp; omega) _⟩⟩
    rw [HA.out]
    exact ((Row.new w _ ((Sh.list s).map uv)).alloc _).alloc _
  case round =>
    clear hB1 hB2 hB3
    obtain ⟨k, hk, rfl, HU⟩ := hrel
    by_cases hlt : k < 32
    · have cz := HU.out.1.cell k (.int .u8 (ib 0)) (by
        rw [List.getElem?_map, List.getElem?_append_right (by simp), List.length_map, List.length_range, Nat.sub_self, List.getElem?_replicate, if_pos (by omega)]; rfl)
      have fr := HU.out.1.frozen k
      suffices H : ∀ v : Int, v = ib (Sh.outAt s k) → Row (wr.setCell ⟨B3, k, none⟩ (.int .u8 v)) B3 24 (((List.range (k + 1)).map (Sh.outAt s) ++ List.replicate (32 - (k + 1)) 0).map bv) ∧ Row (wr.setCell ⟨B3, k, none⟩ (.int .u8 v)) B2 24 (List.replicate 32 (bv 0)) ∧ Row (wr.setCell ⟨B3, k, none⟩ (.int .u8 v)) B1 42 ((Sh.list s).map uv) ∧ Below w.heap.size w (wr.setCell ⟨B3, k, none⟩ (.int .u8 v)) by
        have H := Lib.hid H
        have HX := Lib.hid (show Row wr B1 42 ([s0, s1, s2, s3, s4, s5, s6, s7].map uv) by have := HU.out.2.2.1; rw [HS.out] at this; exact this)
        clear HU
        obtain rfl | rfl | rfl | rfl | rfl | rfl | rfl | rfl | rfl | rfl | rfl | rfl | rfl | rfl | rfl | rfl | rfl | rfl | rfl | rfl | rfl | rfl | rfl | rfl | rfl | rfl | rfl | rfl | rfl | rfl | rfl | rfl : k = 0 ∨ k = 1 ∨ k = 2 ∨ k = 3 ∨ k = 4 ∨ k = 5 ∨ k = 6 ∨ k = 7 ∨ k = 8 ∨ k = 9 ∨ k = 10 ∨ k = 11 ∨ k = 12 ∨ k = 13 ∨ k = 14 ∨ k = 15 ∨ k = 16 ∨ k = 17 ∨ k = 18 ∨ k = 19 ∨ k = 20 ∨ k = 21 ∨ k = 22 ∨ k = 23 ∨ k = 24 ∨ k = 25 ∨ k = 26 ∨ k = 27 ∨ k = 28 ∨ k = 29 ∨ k = 30 ∨ k = 31 := by omega
        · have kc : ((0 : Nat) : Int) = 0 := rfl
          have c := HX.out.cell 0 (.int .u32 (iu s0)) rfl
          have kv : IntKind.u8.wrap (iu s0 / (16777216 : Int)) = ib (Sh.outAt s 0) := by rw [HS.out]; exact byteN s0 24 (by decide)
          go_wp2
          go_roundg 31
          case measure => omega
          case rel => exact ⟨1, rfl, rfl, Lib.hid (H.out _ rfl)⟩
        · have kc : ((1 : Nat) : Int) = 1 := rfl
          have c := HX.out.cell 0 (.int .u32 (iu s0)) rfl
          have kv : IntKind.u8.wrap (iu s0 / (65536 : Int)) = ib (Sh.outAt s 1) := by rw [HS.out]; exact byteN s0 16 (by decide)
          go_wp2
          go_roundg 30
          case measure => omega
          case rel => exact ⟨2, rfl, rfl, Lib.hid (H.out _ rfl)⟩
        · have kc : ((2 : Nat) : Int) = 2 := rfl
          have c := HX.out.cell 0 (.int .u32 (iu s0)) rfl
          have kv : IntKind.u8.wrap (iu s0 / (256 : Int)) = ib (Sh.outAt s 2) := by rw [HS.out]; exact byteN s0 8 (by decide)
          go_wp2
          go_roundg 29
          case measure => omega
          case rel => exact ⟨3, rfl, rfl, Lib.hid (H.out _ rfl)⟩
        · have kc : ((3 : Nat) : Int) = 3 := rfl
          have c := HX.out.cell 0 (.int .u32 (iu s0)) rfl
          have kv : IntKind.u8.wrap (iu s0) = ib (Sh.outAt s 3) := by rw [HS.out]; exact byte0 s0
          go_wp2
          go_roundg 28
          case measure => omega
          case rel => exact ⟨4, rfl, rfl, Lib.hid (H.out _ rfl)⟩
        · have kc : ((4 : Nat) : Int) = 4 := rfl
          have c := HX.out.cell 1 (.int .u32 (iu s1)) rfl
          have kv : IntKind.u8.wrap (iu s1 / (16777216 : Int)) = ib (Sh.outAt s 4) := by rw [HS.out]; exact byteN s1 24 (by decide)
          go_wp2
          go_roundg 27
          case measure => omega
          case rel => exact ⟨5, rfl, rfl, Lib.hid (H.out _ rfl)⟩
        · have kc : ((5 : Nat) : Int) = 5 := rfl
          have c := HX.out.cell 1 (.int .u32 (iu s1)) rfl
          have kv : IntKind.u8.wrap (iu s1 / (65536 : Int)) = ib (Sh.outAt s 5) := by rw [HS.out]; exact byteN s1 16 (by decide)
          go_wp2
          go_roundg 26
          case measure => omega
          case rel => exact ⟨6, rfl, rfl, Lib.hid (H.out _ rfl)⟩
        · have kc : ((6 : Nat) : Int) = 6 := rfl
          have c := HX.out.cell 1 (.int .u32 (iu s1)) rfl
          have kv : IntKind.u8.wrap (iu s1 / (256 : Int)) = ib (Sh.outAt s 6) := by rw [HS.out]; exact byteN s1 8 (by decide)
          go_wp2
          go_roundg 25
          case measure => omega
          case rel => exact ⟨7, rfl, rfl, Lib.hid (H.out _ rfl)⟩
        · have kc : ((7 : Nat) : Int) = 7 := rfl
          have c := HX.out.cell 1 (.int .u32 (iu s1)) rfl
          have kv : IntKind.u8.wrap (iu s1) = ib (Sh.outAt s 7) := by rw [HS.out]; exact byte0 s1
          go_wp2
          go_roundg 24
          case measure => omega
          case rel => exact ⟨8, rfl, rfl, Lib.hid (H.out _ rfl)⟩
        · have kc : ((8 : Nat) : Int) = 8 := rfl
          have c := HX.out.cell 2 (.int .u32 (iu s2)) rfl
          have kv : IntKind.u8.wrap (iu s2 / (16777216 : Int)) = ib (Sh.outAt s 8) := by rw [HS.out]; exact byteN s2 24 (by decide)
          go_wp2
          go_roundg 23
          case measure => omega
          case rel => exact ⟨9, rfl, rfl, Lib.hid (H.out _ rfl)⟩
        · have kc : ((9 : Nat) : Int) = 9 := rfl
          have c := HX.out.cell 2 (.int .u32 (iu s2)) rfl
          have kv : IntKind.u8.wrap (iu s2 / (65536 : Int)) = ib (Sh.outAt s 9) := by rw [HS.out]; exact byteN s2 16 (by decide)
          go_wp2
          go_roundg 22
          case measure => omega
          case rel => exact ⟨10, rfl, rfl, Lib.hid (H.out _ rfl)⟩
        · have kc : ((10 : Nat) : Int) = 10 := rfl
          have c := HX.out.cell 2 (.int .u32 (iu s2)) rfl
          have kv : IntKind.u8.wrap (iu s2 / (256 : Int)) = ib (Sh.outAt s 10) := by rw [HS.out]; exact byteN s2 8 (by decide)
          go_wp2
          go_roundg 21
          case measure => omega
          case rel => exact ⟨11, rfl, rfl, Lib.hid (H.out _ rfl)⟩
        · have kc : ((11 : Nat) : Int) = 11 := rfl
          have c := HX.out.cell 2 (.int .u32 (iu s2)) rfl
          have kv : IntKind.u8.wrap (iu s2) = ib (Sh.outAt s 11) := by rw [HS.out]; exact byte0 s2
          go_wp2
          go_roundg 20
          case measure => omega
          case rel => exact ⟨12, rfl, rfl, Lib.hid (H.out _ rfl)⟩
        · have kc : ((12 : Nat) : Int) = 12 := rfl
          have c := HX.out.cell 3 (.int .u32 (iu s3)) rfl
          have kv : IntKind.u8.wrap (iu s3 / (16777216 : Int)) = ib (Sh.outAt s 12) := by rw [HS.out]; exact byteN s3 24 (by decide)
          go_wp2
          go_roundg 19
          case measure => omega
          case rel => exact ⟨13, rfl, rfl, Lib.hid (H.out _ rfl)⟩
        · have kc : ((13 : Nat) : Int) = 13 := rfl
          have c := HX.out.cell 3 (.int .u32 (iu s3)) rfl
          have kv : IntKind.u8.wrap (iu s3 / (65536 : Int)) = ib (Sh.outAt s 13) := by rw [HS.out]; exact byteN s3 16 (by decide)
          go_wp2
          go_roundg 18
          case measure => omega
          case rel => exact ⟨14, rfl, rfl, Lib.hid (H.out _ rfl)⟩
        · have kc : ((14 : Nat) : Int) = 14 := rfl
          have c := HX.out.cell 3 (.int .u32 (iu s3)) rfl
          have kv : IntKind.u8.wrap (iu s3 / (256 : Int)) = ib (Sh.outAt s 14) := by rw [HS.out]; exact byteN s3 8 (by decide)
          go_wp2
          go_roundg 17
          case measure => omega
          case rel => exact ⟨15, rfl, rfl, Lib.hid (H.out _ rfl)⟩
        · have kc : ((15 : Nat) : Int) = 15 := rfl
          have c := HX.out.cell 3 (.int .u32 (iu s3)) rfl
          have kv : IntKind.u8.wrap (iu s3) = ib (Sh.outAt s 15) := by rw [HS.out]; exact byte0 s3
          go_wp2
          go_roundg 16
          case measure => omega
          case rel => exact ⟨16, rfl, rfl, Lib.hid (H.out _ rfl)⟩
        · have kc : ((16 : Nat) : Int) = 16 := rfl
          have c := HX.out.cell 4 (.int .u32 (iu s4)) rfl
          have kv : IntKind.u8.wrap (iu s4 / (16777216 : Int)) = ib (Sh.outAt s 16) := by rw [HS.out]; exact byteN s4 24 (by decide)
          go_wp2
          go_roundg 15
          case measure => omega
          case rel => exact ⟨17, rfl, rfl, Lib.hid (H.out _ rfl)⟩
        · have kc : ((17 : Nat) : Int) = 17 := rfl
          have c := HX.out.cell 4 (.int .u32 (iu s4)) rfl
          have kv : IntKind.u8.wrap (iu s4 / (65536 : Int)) = ib (Sh.outAt s 17) := by rw [HS.out]; exact byteN s4 16 (by decide)
          go_wp2
          go_roundg 14
          case measure => omega
          case rel => exact ⟨18, rfl, rfl, Lib.hid (H.out _ rfl)⟩
        · have kc : ((18 : Nat) : Int) = 18 := rfl
          have c := HX.out.cell 4 (.int .u32 (iu s4)) rfl
          have kv : IntKind.u8.wrap (iu s4 / (256 : Int)) = ib (Sh.outAt s 18) := by rw [HS.out]; exact byteN s4 8 (by decide)
          go_wp2
          go_roundg 13
          case measure => omega
          case rel => exact ⟨19, rfl, rfl, Lib.hid (H.out _ rfl)⟩
        · have kc : ((19 : Nat) : Int) = 19 := rfl
          have c := HX.out.cell 4 (.int .u32 (iu s4)) rfl
          have kv : IntKind.u8.wrap (iu s4) = ib (Sh.outAt s 19) := by rw [HS.out]; exact byte0 s4
          go_wp2
          go_roundg 12
          case measure => omega
          case rel => exact ⟨20, rfl, rfl, Lib.hid (H.out _ rfl)⟩
        · have kc : ((20 : Nat) : Int) = 20 := rfl
          have c := HX.out.cell 5 (.int .u32 (iu s5)) rfl
          have kv : IntKind.u8.wrap (iu s5 / (16777216 : Int)) = ib (Sh.outAt s 20) := by rw [HS.out]; exact byteN s5 24 (by decide)
          go_wp2
          go_roundg 11
          case measure => omega
          case rel => exact ⟨21, rfl, rfl, Lib.hid (H.out _ rfl)⟩
        · have kc : ((21 : Nat) : Int) = 21 := rfl
          have c := HX.out.cell 5 (.int .u32 (iu s5)) rfl
          have kv : IntKind.u8.wrap (iu s5 / (65536 : Int)) = ib (Sh.outAt s 21) := by rw [HS.out]; exact byteN s5 16 (by decide)
          go_wp2
          go_roundg 10
          case measure => omega
          case rel => exact ⟨22, rfl, rfl, Lib.hid (H.out _ rfl)⟩
        · have kc : ((22 : Nat) : Int) = 22 := rfl
          have c := HX.out.cell 5 (.int .u32 (iu s5)) rfl
          have kv : IntKind.u8.wrap (iu s5 / (256 : Int)) = ib (Sh.outAt s 22) := by rw [HS.out]; exact byteN s5 8 (by decide)
          go_wp2
          go_roundg 9
          case measure => omega
          case rel => exact ⟨23, rfl, rfl, Lib.hid (H.out _ rfl)⟩
        · have kc : ((23 : Nat) : Int) = 23 := rfl
          have c := HX.out.cell 5 (.int .u32 (iu s5)) rfl
          have kv : IntKind.u8.wrap (iu s5) = ib (Sh.outAt s 23) := by rw [HS.out]; exact byte0 s5
          go_wp2
          go_roundg 8
          case measure => omega
          case rel => exact ⟨24, rfl, rfl, Lib.hid (H.out _ rfl)⟩
        · have kc : ((24 : Nat) : Int) = 24 := rfl
          have c := HX.out.cell 6 (.int .u32 (iu s6)) rfl
          have kv : IntKind.u8.wrap (iu s6 / (16777216 : Int)) = ib (Sh.outAt s 24) := by rw [HS.out]; exact byteN s6 24 (by decide)
          go_wp2
          go_roundg 7
          case measure => omega
          case rel => exact ⟨25, rfl, rfl, Lib.hid (H.out _ rfl)⟩
        · have kc : ((25 : Nat) : Int) = 25 := rfl
          have c := HX.out.cell 6 (.int .u32 (iu s6)) rfl
          have kv : IntKind.u8.wrap (iu s6 / (65536 : Int)) = ib (Sh.outAt s 25) := by rw [HS.out]; exact byteN s6 16 (by decide)
          go_wp2
          go_roundg 6
          case measure => omega
          case rel => exact ⟨26, rfl, rfl, Lib.hid (H.out _ rfl)⟩
        · have kc : ((26 : Nat) : Int) = 26 := rfl
          have c := HX.out.cell 6 (.int .u32 (iu s6)) rfl
          have kv : IntKind.u8.wrap (iu s6 / (256 : Int)) = ib (Sh.outAt s 26) := by rw [HS.out]; exact byteN s6 8 (by decide)
          go_wp2
          go_roundg 5
          case measure => omega
          case rel => exact ⟨27, rfl, rfl, Lib.hid (H.out _ rfl)⟩
        · have kc : ((27 : Nat) : Int) = 27 := rfl
          have c := HX.out.cell 6 (.int .u32 (iu s6)) rfl
          have kv : IntKind.u8.wrap (iu s6) = ib (Sh.outAt s 27) := by rw [HS.out]; exact byte0 s6
          go_wp2
          go_roundg 4
          case measure => omega
          case rel => exact ⟨28, rfl, rfl, Lib.hid (H.out _ rfl)⟩
        · have kc : ((28 : Nat) : Int) = 28 := rfl
          have c := HX.out.cell 7 (.int .u32 (iu s7)) rfl
          have kv : IntKind.u8.wrap (iu s7 / (16777216 : Int)) = ib (Sh.outAt s 28) := by rw [HS.out]; exact byteN s7 24 (by decide)
          go_wp2
          go_roundg 3
          case measure => omega
          case rel => exact ⟨29, rfl, rfl, Lib.hid (H.out _ rfl)⟩
        · have kc : ((29 : Nat) : Int) = 29 := rfl
          have c := HX.out.cell 7 (.int .u32 (iu s7)) rfl
          have kv : IntKind.u8.wrap (iu s7 / (65536 : Int)) = ib (Sh.outAt s 29) := by rw [HS.out]; exact byteN s7 16 (by decide)
          go_wp2
          go_roundg 2
          case measure => omega
          case rel => exact ⟨30, rfl, rfl, Lib.hid (H.out _ rfl)⟩
        · have kc : ((30 : Nat) : Int) = 30 := rfl
          have c := HX.out.cell 7 (.int .u32 (iu s7)) rfl
          have kv : IntKind.u8.wrap (iu s7 / (256 : Int)) = ib (Sh.outAt s 30) := by rw [HS.out]; exact byteN s7 8 (by decide)
          go_wp2
          go_roundg 1
          case measure => omega
          case rel => exact ⟨31, rfl, rfl, Lib.hid (H.out _ rfl)⟩
        · have kc : ((31 : Nat) : Int) = 31 := rfl
          have c := HX.out.cell 7 (.int .u32 (iu s7)) rfl
          have kv : IntKind.u8.wrap (iu s7) = ib (Sh.outAt s 31) := by rw [HS.out]; exact byte0 s7
          go_wp2
          go_roundg 0
          case measure => omega
          case rel => exact ⟨32, rfl, rfl, Lib.hid (H.out _ rfl)⟩
      rintro v rfl
      refine ⟨?_, HU.out.2.1.other h23 _, HU.out.2.2.1.other h13 _, HU.out.2.2.2.setCell (p := ⟨B3, k, none⟩) (show w.heap.size ≤ B3 by have := HB.out; omega) _⟩
      have e := HU.out.1.set k (.int .u8 (ib (Sh.outAt s k)))
      rw [row_set, toldSet s k hlt] at e
      exact e
    · obtain rfl : k = 32 := by omega
      have kc : ((32 : Nat) : Int) = 32 := rfl
      have HU := Lib.hid (show Row wr B3 24 ((Sh.outB s).map bv) ∧ _ from by
        have := HU.out
        rw [show 32 - 32 = 0 from rfl, List.replicate_zero, List.append_nil] at this
        exact this)
      have R1 := HU.out.1
      obtain ⟨M, hM⟩ : ∃ M, M = ((Sh.outB s).map bv).toArray := ⟨_, rfl⟩
      have HM := Lib.hid hM
      have hMs := Lib.hid (show M.size = 32 by rw [hM]; simp [Sh.length_outB])
      have hMo := Lib.hid (show M.all (·.oneCell') = true by rw [hM]; exact one_bv _)
      have m1 := Lib.hid (show wr.heap[B3]? = some (.cells M 24 (0, 0)) by rw [hM]; exact R1)
      have m4 := Lib.hid (show wr.heap[B2]? = some (.cells (List.replicate 32 (bv 0)).toArray 24 (0, 0)) from HU.out.2.1)
      have m5 := Lib.hid (show (wr.setRow B2 M).heap[B2]? = some (.cells M 24 (0, 0)) by rw [hM]; exact (show Row wr B2 24 (List.replicate 32 (bv 0)) from HU.out.2.1).setRow _)
      have hw2 := Lib.hid (below_setRow HU.out.2.2.2 (show w.heap.size ≤ B2 by have := HB.out; omega) M)
      clear hM R1 HU
      go_wp2_with (first
        | (refine wpList_load_row rfl 24 _ rfl B3 rfl 24 M (0, 0) _ m1.out Tryd.underlying24 rfl (by rw [hMs.out]; exact info_s) ?_)
        | (refine wpList_store_row rfl 24 _ _ rfl B2 M rfl rfl 24 _ m4.out (by rw [hMs.out]; exact info_s) (by rw [hMs.out]; rfl) hMo.out ?_))
      (try simp only [Exit.inBlock, Exit.then])
      refine bodyPost_ret (results_cell_row rfl _ _ B2 24 M (0, 0) _ rfl m5.out Tryd.underlying24 rfl (by rw [hMs.out]; exact info_s)) rfl ?_
      exact ⟨by rw [HM.out], hw2.out⟩
end Go.Proofs.YtjlmhpokamdkhaaDoor
