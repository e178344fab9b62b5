/- Sums: a length in a block; eight numbers as bytes; bytes against one. -/
import Derived.Test.YtjlmhpokamdkhaaDoorShC
import Derived.BigQuiet
import Derived.Deep.QuietTactic
import Derived.Deep.LoopGhost
namespace Go.Proofs.YtjlmhpokamdkhaaDoor
open Go Go.Proofs Go.RowKit Go.Shelf

attribute [local go_sem] Oper.semAt_some
theorem setL (b : List UInt8) (L : List UInt8) (hb : b.length = 64) (_hL : L.length = 8) (k : Nat) (hk : k < 8) (v : UInt8) (hv : L[7 - k]? = some v) :
    (b.take (64 - k) ++ L.drop (8 - k)).set (63 - k) v = b.take (64 - (k + 1)) ++ L.drop (8 - (k + 1)) := by
  have e : b.take (64 - k) = b.take (63 - k) ++ [b[63 - k]'(by omega)] := by
    rw [show 64 - k = (63 - k) + 1 by omega, List.take_add_one, List.getElem?_eq_getElem (by omega)]; rfl
  have e2 : L.drop (8 - (k + 1)) = v :: L.drop (8 - k) := by
    obtain ⟨h, hv⟩ := List.getElem?_eq_some_iff.1 hv
    rw [show 8 - (k + 1) = 7 - k by omega, List.drop_eq_getElem_cons (by omega), hv, show 7 - k + 1 = 8 - k by omega]
  rw [e, e2, List.append_assoc, List.set_append_right _ _ (by rw [List.length_take]; omega), List.length_take, show 63 - k - min (63 - k) b.length = 0 by omega, show 64 - (k + 1) = 63 - k by omega]
  rfl
theorem lenB_at (n k : Nat) (hk : k < 8) : (Sh.lenB n)[k]? = some (UInt8.ofNat (n / 2 ^ (56 - 8 * k))) := by
  unfold Sh.lenB; rw [List.getElem?_map, List.getElem?_range hk]; rfl
theorem u8_of (n : Nat) : IntKind.u8.wrap (n : Int) = ib (UInt8.ofNat n) := by
  rw [IntKind.wrap_u8']; unfold ib; rw [UInt8.toNat_ofNat']; omega
theorem row_set (l : List UInt8) (j : Nat) (c : UInt8) : (l.map bv).set j (.int .u8 (ib c)) = (l.set j c).map bv := by rw [List.map_set]; rfl
theorem maskSet (l : List UInt8) (m : UInt8) (i : Nat) (hi : i < l.length) : (Sh.masked (l.take i) m ++ l.drop i).set i (l.getD i 0 ^^^ m) = Sh.masked (l.take (i + 1)) m ++ l.drop (i + 1) := by
  have hl : (Sh.masked (l.take i) m).length = i := by rw [Sh.length_masked, List.length_take]; omega
  rw [List.drop_eq_getElem_cons hi, List.set_append_right _ _ (by omega), hl, Nat.sub_self, List.set_cons_zero, List.take_add_one, List.getElem?_eq_getElem hi, List.getD_eq_getElem?_getD, List.getElem?_eq_getElem hi]
  unfold Sh.masked
  rw [List.map_append, List.append_assoc]
  rfl
theorem toldSet (s : St) (i : Nat) (hi : i < 32) : ((List.range i).map (Sh.outAt s) ++ List.replicate (32 - i) 0).set i (Sh.outAt s i) = (List.range (i + 1)).map (Sh.outAt s) ++ List.replicate (32 - (i + 1)) 0 := by
  have hl : ((List.range i).map (Sh.outAt s)).length = i := by simp
  rw [show 32 - i = (32 - (i + 1)) + 1 by omega, List.replicate_succ, List.set_append_right _ _ (by omega), hl, Nat.sub_self, List.set_cons_zero, List.range_succ, List.map_append, List.append_assoc]
  rfl
set_option maxRecDepth 100000
set_option maxHeartbeats 4000000 in
theorem masked_any (b : List UInt8) (m : UInt8) (hb : b.length = 64) (w : World) :
    Calls Tryd.prog 24 #[.agg (b.map bv).toArray, .int .u8 (ib m)] w fun e w' => e = .returned (.agg ((Sh.masked b m).map bv).toArray) ∧ Below w.heap.size w w' := by
  obtain ⟨A, hA⟩ : ∃ A, A = (b.map bv).toArray := ⟨_, rfl⟩
  have HA := Lib.hid hA
  rw [← hA]
  clear hA
  have HBL := Lib.hid hb
  clear hb
  go_enter Tryd.func24, Tryd.ntmps24
  go_wp2
  obtain ⟨B1, hB1⟩ : ∃ B, B = w.heap.size := ⟨_, rfl⟩
  obtain ⟨B2, hB2⟩ : ∃ B, B = w.heap.size + 1 := ⟨_, rfl⟩
  rw [← hB2, ← hB1]
  have h12 : B1 ≠ B2 := by omega
  have HB := Lib.hid (show w.heap.size = B1 ∧ B2 = w.heap.size + 1 from ⟨hB1.symm, hB2⟩)
  have kx := ib_xor
  go_loopg [5, 6] 64 (fun g _ s wr => ∃ i : Nat, i + g = 64 ∧ s = .int .i64 (i : Int) ∧ Hid (Row wr B1 44 ((Sh.masked (b.take i) m ++ b.drop i).map bv) ∧ Row wr B2 44 (List.replicate 64 (bv 0)) ∧ Below w.heap.size w wr))
  case atStart =>
    subst hB1 hB2
    refine ⟨0, rfl, rfl, Lib.hid ⟨?_, Row.new1 w _ _ (List.replicate 64 (bv 0)), ((Below.refl _ _).alloc (Nat.le_refl _) _).alloc (by simp) _⟩⟩
    rw [HA.out]
    exact (Row.new w _ (b.map bv)).alloc _
  case round =>
    clear hB1 hB2
    obtain ⟨i, hi, rfl, HU⟩ := hrel
    by_cases hlt : i < 64
    · have n0 : (0 : Int) ≤ (i : Int) := by omega
      have l0 : (i : Int) < 64 := by omega
      have w0 : IntKind.i64.wrap ((i : Int) + 1) = ((i + 1 : Nat) : Int) := i64n (i + 1) (by omega)
      have cz := HU.out.1.cell i (.int .u8 (ib (b.getD i 0))) (by
        rw [List.getElem?_map, List.getElem?_append_right (by rw [Sh.length_masked, List.length_take]; omega), Sh.length_masked, List.length_take, List.getElem?_drop, List.getD_eq_getElem?_getD]
        have := HBL.out
        rw [show i + (i - min i b.length) = i by omega, List.getElem?_eq_getElem (by omega)]; rfl)
      have fr := HU.out.1.frozen i
      obtain ⟨c, hc⟩ : ∃ c, c = b.getD i 0 := ⟨_, rfl⟩
      rw [← hc] at cz
      have HC := Lib.hid hc
      clear hc
      go_wp2
      go_roundg (64 - (i + 1))
      case measure => omega
      case rel =>
        refine ⟨i + 1, by omega, rfl, Lib.hid ⟨?_, HU.out.2.1.other h12.symm _, HU.out.2.2.setCell (p := ⟨B1, i, none⟩) (show w.heap.size ≤ B1 by have := HB.out; omega) _⟩⟩
        have e := HU.out.1.set i (.int .u8 (ib (c ^^^ m)))
        rw [row_set, HC.out, maskSet _ _ _ (by have := HBL.out; omega), ← HC.out] at e
        exact e
    · obtain rfl : i = 64 := by omega
      have e64 : ((64 : Nat) : Int) = 64 := rfl
      have e0 : Sh.masked (b.take 64) m ++ b.drop 64 = Sh.masked b m := by rw [List.take_of_length_le (by have := HBL.out; omega), List.drop_of_length_le (by have := HBL.out; omega), List.append_nil]
      have HU := Lib.hid (show Row wr B1 44 ((Sh.masked b m).map bv) ∧ _ from by rw [← e0]; exact HU.out)
      clear e0
      have R1 := HU.out.1
      obtain ⟨M, hM⟩ : ∃ M, M = ((Sh.masked b m).map bv).toArray := ⟨_, rfl⟩
      have HM := Lib.hid hM
      have hMs := Lib.hid (show M.size = 64 by rw [hM]; simp [Sh.length_masked, HBL.out])
      have hMo := Lib.hid (show M.all (·.oneCell') = true by rw [hM]; exact one_bv _)
      have m1 := Lib.hid (show wr.heap[B1]? = some (.cells M 44 (0, 0)) by rw [hM]; exact R1)
      have m4 := Lib.hid (show wr.heap[B2]? = some (.cells (List.replicate 64 (bv 0)).toArray 44 (0, 0)) from HU.out.2.1)
      have m5 := Lib.hid (show (wr.setRow B2 M).heap[B2]? = some (.cells M 44 (0, 0)) by rw [hM]; exact (show Row wr B2 44 (List.replicate 64 (bv 0)) from HU.out.2.1).setRow _)
      have hw2 := Lib.hid (below_setRow HU.out.2.2 (show w.heap.size ≤ B2 by have := HB.out; omega) M)
      clear hM R1 HU
      go_wp2_with (first
        | (refine wpList_load_row rfl 44 _ rfl B1 rfl 44 M (0, 0) _ m1.out Tryd.underlying44 rfl (by rw [hMs.out]; exact info_b) ?_)
        | (refine wpList_store_row rfl 44 _ _ rfl B2 M rfl rfl 44 _ m4.out (by rw [hMs.out]; exact info_b) (by rw [hMs.out]; rfl) hMo.out ?_))
      (try simp only [Exit.inBlock, Exit.then])
      refine bodyPost_ret (results_cell_row rfl _ _ B2 44 M (0, 0) _ rfl m5.out Tryd.underlying44 rfl (by rw [hMs.out]; exact info_b)) rfl ?_
      exact ⟨by rw [HM.out], hw2.out⟩

theorem masked54 (b : List UInt8) (hb : b.length = 64) (w : World) : Calls Tryd.prog 24 #[.agg (b.map bv).toArray, .int .u8 54] w fun e w' => e = .returned (.agg ((Sh.masked b 54).map bv).toArray) ∧ Below w.heap.size w w' := masked_any b 54 hb w
theorem masked92 (b : List UInt8) (hb : b.length = 64) (w : World) : Calls Tryd.prog 24 #[.agg (b.map bv).toArray, .int .u8 92] w fun e w' => e = .returned (.agg ((Sh.masked b 92).map bv).toArray) ∧ Below w.heap.size w w' := masked_any b 92 hb w
set_option maxHeartbeats 4000000 in
theorem withLength_any (b : List UInt8) (n : Nat) (hb : b.length = 64) (hn : n < 1000000000000000) (w : World) :
    Calls Tryd.prog 31 #[.agg (b.map bv).toArray, .int .u64 (n : Int)] w fun e w' => e = .returned (.agg ((b.take 56 ++ Sh.lenB n).map bv).toArray) ∧ Below w.heap.size w w' := by
  obtain ⟨A, hA⟩ : ∃ A, A = (b.map bv).toArray := ⟨_, rfl⟩
  have HA := Lib.hid hA
  rw [← hA]
  clear hA
  have HBL := Lib.hid hb
  have HN := Lib.hid hn
  have n0 : (0 : Int) ≤ (n : Int) := by omega
  clear hb hn
  go_enter Tryd.func31, Tryd.ntmps31
  go_wp2
  obtain ⟨B1, hB1⟩ : ∃ B, B = w.heap.size := ⟨_, rfl⟩
  obtain ⟨B2, hB2⟩ : ∃ B, B = w.heap.size + 1 := ⟨_, rfl⟩
  rw [← hB2, ← hB1]
  have h12 : B1 ≠ B2 := by omega
  have HB := Lib.hid (show w.heap.size = B1 ∧ B2 = w.heap.size + 1 from ⟨hB1.symm, hB2⟩)
  go_loopg [5, 6] 8 (fun g _ s wr => ∃ i : Nat, i + g = 8 ∧ s = .int .i64 (i : Int) ∧ Hid (Row wr B1 44 ((b.take (64 - i) ++ (Sh.lenB n).drop (8 - i)).map bv) ∧ Row wr B2 44 (List.replicate 64 (bv 0)) ∧ Below w.heap.size w wr))
  case atStart =>
    subst hB1 hB2
    refine ⟨0, rfl, rfl, Lib.hid ⟨?_, Row.new1 w _ _ (List.replicate 64 (bv 0)), ((Below.refl _ _).alloc (Nat.le_refl _) _).alloc (by simp) _⟩⟩
    rw [HA.out, List.take_of_length_le (by have := HBL.out; omega), List.drop_of_length_le (by rw [Sh.length_lenB]; omega), List.append_nil]
    exact (Row.new w _ (b.map bv)).alloc _
  case round =>
    clear hB1 hB2
    obtain ⟨k, hk, rfl, HU⟩ := hrel
    obtain rfl | rfl | rfl | rfl | rfl | rfl | rfl | rfl | rfl : k = 0 ∨ k = 1 ∨ k = 2 ∨ k = 3 ∨ k = 4 ∨ k = 5 ∨ k = 6 ∨ k = 7 ∨ k = 8 := by omega
    · have cz := HU.out.1.cell 63 (.int .u8 (ib (b.getD 63 0))) (by
        rw [List.getElem?_map, List.getElem?_append_left (by rw [List.length_take]; have := HBL.out; omega), List.getElem?_take, if_pos (by decide), List.getD_eq_getElem?_getD, List.getElem?_eq_getElem (by have := HBL.out; omega)]; rfl)
      have fr := HU.out.1.frozen 63
      have kc : ((0 : Nat) : Int) = 0 := rfl
      have ku : IntKind.u8.wrap ((n : Int)) = ib (UInt8.ofNat (n / 2 ^ 0)) := by rw [← u8_of, Int.natCast_ediv]; first | rfl | (congr 1; simp)
      go_wp2
      go_roundg 7
      case measure => omega
      case rel =>
        refine ⟨1, rfl, rfl, Lib.hid ⟨?_, HU.out.2.1.other h12.symm _, HU.out.2.2.setCell (p := ⟨B1, 63, none⟩) (show w.heap.size ≤ B1 by have := HB.out; omega) _⟩⟩
        have e := HU.out.1.set 63 (.int .u8 (ib (UInt8.ofNat (n))))
        rw [row_set, setL b _ HBL.out (Sh.length_lenB n) 0 (by decide) _ (by have := lenB_at n 7 (by decide); simpa using this)] at e
        exact e
    · have cz := HU.out.1.cell 62 (.int .u8 (ib (b.getD 62 0))) (by
        rw [List.getElem?_map, List.getElem?_append_left (by rw [List.length_take]; have := HBL.out; omega), List.getElem?_take, if_pos (by decide), List.getD_eq_getElem?_getD, List.getElem?_eq_getElem (by have := HBL.out; omega)]; rfl)
      have fr := HU.out.1.frozen 62
      have kc : ((1 : Nat) : Int) = 1 := rfl
      have ku : IntKind.u8.wrap ((n : Int) / (256 : Int)) = ib (UInt8.ofNat (n / 2 ^ 8)) := by rw [← u8_of, Int.natCast_ediv]; first | rfl | (congr 1; simp)
      go_wp2
      go_roundg 6
      case measure => omega
      case rel =>
        refine ⟨2, rfl, rfl, Lib.hid ⟨?_, HU.out.2.1.other h12.symm _, HU.out.2.2.setCell (p := ⟨B1, 62, none⟩) (show w.heap.size ≤ B1 by have := HB.out; omega) _⟩⟩
        have e := HU.out.1.set 62 (.int .u8 (ib (UInt8.ofNat (n / 2 ^ 8))))
        rw [row_set, setL b _ HBL.out (Sh.length_lenB n) 1 (by decide) _ (by have := lenB_at n 6 (by decide); simpa using this)] at e
        exact e
    · have cz := HU.out.1.cell 61 (.int .u8 (ib (b.getD 61 0))) (by
        rw [List.getElem?_map, List.getElem?_append_left (by rw [List.length_take]; have := HBL.out; omega), List.getElem?_take, if_pos (by decide), List.getD_eq_getElem?_getD, List.getElem?_eq_getElem (by have := HBL.out; omega)]; rfl)
      have fr := HU.out.1.frozen 61
      have kc : ((2 : Nat) : Int) = 2 := rfl
      have ku : IntKind.u8.wrap ((n : Int) / (65536 : Int)) = ib (UInt8.ofNat (n / 2 ^ 16)) := by rw [← u8_of, Int.natCast_ediv]; first | rfl | (congr 1; simp)
      go_wp2
      go_roundg 5
      case measure => omega
      case rel =>
        refine ⟨3, rfl, rfl, Lib.hid ⟨?_, HU.out.2.1.other h12.symm _, HU.out.2.2.setCell (p := ⟨B1, 61, none⟩) (show w.heap.size ≤ B1 by have := HB.out; omega) _⟩⟩
        have e := HU.out.1.set 61 (.int .u8 (ib (UInt8.ofNat (n / 2 ^ 16))))
        rw [row_set, setL b _ HBL.out (Sh.length_lenB n) 2 (by decide) _ (by have := lenB_at n 5 (by decide); simpa using this)] at e
        exact e
    · have cz := HU.out.1.cell 60 (.int .u8 (ib (b.getD 60 0))) (by
        rw [List.getElem?_map, List.getElem?_append_left (by rw [List.length_take]; have := HBL.out; omega), List.getElem?_take, if_pos (by decide), List.getD_eq_getElem?_getD, List.getElem?_eq_getElem (by have := HBL.out; omega)]; rfl)
      have fr := HU.out.1.frozen 60
      have kc : ((3 : Nat) : Int) = 3 := rfl
      have ku : IntKind.u8.wrap ((n : Int) / (16777216 : Int)) = ib (UInt8.ofNat (n / 2 ^ 24)) := by rw [← u8_of, Int.natCast_ediv]; first | rfl | (congr 1; simp)
      go_wp2
      go_roundg 4
      case measure => omega
      case rel =>
        refine ⟨4, rfl, rfl, Lib.hid ⟨?_, HU.out.2.1.other h12.symm _, HU.out.2.2.setCell (p := ⟨B1, 60, none⟩) (show w.heap.size ≤ B1 by have := HB.out; omega) _⟩⟩
        have e := HU.out.1.set 60 (.int .u8 (ib (UInt8.ofNat (n / 2 ^ 24))))
        rw [row_set, setL b _ HBL.out (Sh.length_lenB n) 3 (by decide) _ (by have := lenB_at n 4 (by decide); simpa using this)] at e
        exact e
    · have cz := HU.out.1.cell 59 (.int .u8 (ib (b.getD 59 0))) (by
        rw [List.getElem?_map, List.getElem?_append_left (by rw [List.length_take]; have := HBL.out; omega), List.getElem?_take, if_pos (by decide), List.getD_eq_getElem?_getD, List.getElem?_eq_getElem (by have := HBL.out; omega)]; rfl)
      have fr := HU.out.1.frozen 59
      have kc : ((4 : Nat) : Int) = 4 := rfl
      have ku : IntKind.u8.wrap ((n : Int) / (4294967296 : Int)) = ib (UInt8.ofNat (n / 2 ^ 32)) := by rw [← u8_of, Int.natCast_ediv]; first | rfl | (congr 1; simp)
      go_wp2
      go_roundg 3
      case measure => omega
      case rel =>
        refine ⟨5, rfl, rfl, Lib.hid ⟨?_, HU.out.2.1.other h12.symm _, HU.out.2.2.setCell (p := ⟨B1, 59, none⟩) (show w.heap.size ≤ B1 by have := HB.out; omega) _⟩⟩
        have e := HU.out.1.set 59 (.int .u8 (ib (UInt8.ofNat (n / 2 ^ 32))))
        rw [row_set, setL b _ HBL.out (Sh.length_lenB n) 4 (by decide) _ (by have := lenB_at n 3 (by decide); simpa using this)] at e
        exact e
    · have cz := HU.out.1.cell 58 (.int .u8 (ib (b.getD 58 0))) (by
        rw [List.getElem?_map, List.getElem?_append_left (by rw [List.length_take]; have := HBL.out; omega), List.getElem?_take, if_pos (by decide), List.getD_eq_getElem?_getD, List.getElem?_eq_getElem (by have := HBL.out; omega)]; rfl)
      have fr := HU.out.1.frozen 58
      have kc : ((5 : Nat) : Int) = 5 := rfl
      have ku : IntKind.u8.wrap ((n : Int) / (1099511627776 : Int)) = ib (UInt8.ofNat (n / 2 ^ 40)) := by rw [← u8_of, Int.natCast_ediv]; first | rfl | (congr 1; simp)
      go_wp2
      go_roundg 2
      case measure => omega
      case rel =>
        refine ⟨6, rfl, rfl, Lib.hid ⟨?_, HU.out.2.1.other h12.symm _, HU.out.2.2.setCell (p := ⟨B1, 58, none⟩) (show w.heap.size ≤ B1 by have := HB.out; omega) _⟩⟩
        have e := HU.out.1.set 58 (.int .u8 (ib (UInt8.ofNat (n / 2 ^ 40))))
        rw [row_set, setL b _ HBL.out (Sh.length_lenB n) 5 (by decide) _ (by have := lenB_at n 2 (by decide); simpa using this)] at e
        exact e
    · have cz := HU.out.1.cell 57 (.int .u8 (ib (b.getD 57 0))) (by
        rw [List.getElem?_map, List.getElem?_append_left (by rw [List.length_take]; have := HBL.out; omega), List.getElem?_take, if_pos (by decide), List.getD_eq_getElem?_getD, List.getElem?_eq_getElem (by have := HBL.out; omega)]; rfl)
      have fr := HU.out.1.frozen 57
      have kc : ((6 : Nat) : Int) = 6 := rfl
      have ku : IntKind.u8.wrap ((n : Int) / (281474976710656 : Int)) = ib (UInt8.ofNat (n / 2 ^ 48)) := by rw [← u8_of, Int.natCast_ediv]; first | rfl | (congr 1; simp)
      go_wp2
      go_roundg 1
      case measure => omega
      case rel =>
        refine ⟨7, rfl, rfl, Lib.hid ⟨?_, HU.out.2.1.other h12.symm _, HU.out.2.2.setCell (p := ⟨B1, 57, none⟩) (show w.heap.size ≤ B1 by have := HB.out; omega) _⟩⟩
        have e := HU.out.1.set 57 (.int .u8 (ib (UInt8.ofNat (n / 2 ^ 48))))
        rw [row_set, setL b _ HBL.out (Sh.length_lenB n) 6 (by decide) _ (by have := lenB_at n 1 (by decide); simpa using this)] at e
        exact e
    · have cz := HU.out.1.cell 56 (.int .u8 (ib (b.getD 56 0))) (by
        rw [List.getElem?_map, List.getElem?_append_left (by rw [List.length_take]; have := HBL.out; omega), List.getElem?_take, if_pos (by decide), List.getD_eq_getElem?_getD, List.getElem?_eq_getElem (by have := HBL.out; omega)]; rfl)
      have fr := HU.out.1.frozen 56
      have kc : ((7 : Nat) : Int) = 7 := rfl
      have ku : IntKind.u8.wrap ((n : Int) / (72057594037927936 : Int)) = ib (UInt8.ofNat (n / 2 ^ 56)) := by rw [← u8_of, Int.natCast_ediv]; first | rfl | (congr 1; simp)
      go_wp2
      go_roundg 0
      case measure => omega
      case rel =>
        refine ⟨8, rfl, rfl, Lib.hid ⟨?_, HU.out.2.1.other h12.symm _, HU.out.2.2.setCell (p := ⟨B1, 56, none⟩) (show w.heap.size ≤ B1 by have := HB.out; omega) _⟩⟩
        have e := HU.out.1.set 56 (.int .u8 (ib (UInt8.ofNat (n / 2 ^ 56))))
        rw [row_set, setL b _ HBL.out (Sh.length_lenB n) 7 (by decide) _ (by have := lenB_at n 0 (by decide); simpa using this)] at e
        exact e
    · have kc : ((8 : Nat) : Int) = 8 := rfl
      have R1 := HU.out.1
      obtain ⟨M, hM⟩ : ∃ M, M = ((b.take 56 ++ Sh.lenB n).map bv).toArray := ⟨_, rfl⟩
      have HM := Lib.hid hM
      have hMs := Lib.hid (show M.size = 64 by rw [hM]; have := HBL.out; simp [Sh.length_lenB]; omega)
      have hMo := Lib.hid (show M.all (·.oneCell') = true by rw [hM]; exact one_bv _)
      have m1 := Lib.hid (show wr.heap[B1]? = some (.cells M 44 (0, 0)) by rw [hM]; exact R1)
      have m4 := Lib.hid (show wr.heap[B2]? = some (.cells (List.replicate 64 (bv 0)).toArray 44 (0, 0)) from HU.out.2.1)
      have m5 := Lib.hid (show (wr.setRow B2 M).heap[B2]? = some (.cells M 44 (0, 0)) by rw [hM]; exact (show Row wr B2 44 (List.replicate 64 (bv 0)) from HU.out.2.1).setRow _)
      have hw2 := Lib.hid (below_setRow HU.out.2.2 (show w.heap.size ≤ B2 by have := HB.out; omega) M)
      clear hM R1 HU
      go_wp2_with (first
        | (refine wpList_load_row rfl 44 _ rfl B1 rfl 44 M (0, 0) _ m1.out Tryd.underlying44 rfl (by rw [hMs.out]; exact info_b) ?_)
        | (refine wpList_store_row rfl 44 _ _ rfl B2 M rfl rfl 44 _ m4.out (by rw [hMs.out]; exact info_b) (by rw [hMs.out]; rfl) hMo.out ?_))
      (try simp only [Exit.inBlock, Exit.then])
      refine bodyPost_ret (results_cell_row rfl _ _ B2 44 M (0, 0) _ rfl m5.out Tryd.underlying44 rfl (by rw [hMs.out]; exact info_b)) rfl ?_
      exact ⟨by rw [HM.out], hw2.out⟩
end Go.Proofs.YtjlmhpokamdkhaaDoor
