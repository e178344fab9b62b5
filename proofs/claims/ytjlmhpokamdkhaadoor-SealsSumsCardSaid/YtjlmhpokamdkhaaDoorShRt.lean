/- Sums: the document's text of 32 bytes. -/
import Derived.Test.YtjlmhpokamdkhaaDoorShS
import Derived.BigQuiet
import Derived.Laws.Concat
import Derived.Deep.QuietTactic
namespace Go.Proofs.YtjlmhpokamdkhaaDoor
open Go Go.Proofs Go.RowKit Go.Shelf

attribute [local go_sem] Oper.semAt_some
set_option maxRecDepth 100000
theorem dig_ext (n : Nat) (hn : n < 16) : (⟨#[48, 49, 50, 51, 52, 53, 54, 55, 56, 57, 97, 98, 99, 100, 101, 102]⟩ : ByteArray).extract n (n + 1) = ⟨#[Sh.dig n]⟩ := by
  obtain rfl | rfl | rfl | rfl | rfl | rfl | rfl | rfl | rfl | rfl | rfl | rfl | rfl | rfl | rfl | rfl : n = 0 ∨ n = 1 ∨ n = 2 ∨ n = 3 ∨ n = 4 ∨ n = 5 ∨ n = 6 ∨ n = 7 ∨ n = 8 ∨ n = 9 ∨ n = 10 ∨ n = 11 ∨ n = 12 ∨ n = 13 ∨ n = 14 ∨ n = 15 := by omega
  all_goals decide +kernel
theorem add_dig (A : ByteArray) (d : UInt8) (hA : A.size ≤ 1000) (W : World) : (Op.stringOp .add A ⟨#[d]⟩).run Tryd.prog W = .ok (.string (A ++ ⟨#[d]⟩)) W :=
  run_string_add_sum W A ⟨#[d]⟩ (by show A.size + 1 ≤ _; omega)
set_option maxHeartbeats 4000000 in
theorem rtext_any (l : List UInt8) (hl : l.length = 32) (w : World) : Calls Tryd.prog 13 #[.agg (l.map bv).toArray] w fun e w' => e = .returned (.string ⟨(Sh.hex l).toArray⟩) ∧ Below w.heap.size w w' := by
  obtain ⟨A, hA⟩ : ∃ A, A = (l.map bv).toArray := ⟨_, rfl⟩
  have HA := Lib.hid hA
  have HL := Lib.hid hl
  rw [← hA]
  clear hA hl
  go_enter Tryd.func13, Tryd.ntmps13
  go_wp2
  have k0 : ((0 : Nat) : Int) = 0 := rfl
  have HU := Lib.hid (show Row (w.alloc (.cells A 24)) w.heap.size 24 (l.map bv) ∧ Below w.heap.size w (w.alloc (.cells A 24)) from ⟨by rw [HA.out]; exact Row.new _ _ _, (Below.refl _ _).alloc (Nat.le_refl _) _⟩)
  go_loopg [3, 4] 32 (fun g t i wr => ∃ (k : Nat) (T : ByteArray), k + g = 32 ∧ i = .int .i64 (k : Int) ∧ t = .string T ∧ Hid (T = ⟨(Sh.hex (l.take k)).toArray⟩) ∧ Hid (Row wr w.heap.size 24 (l.map bv) ∧ Below w.heap.size w wr))
  case atStart => exact ⟨0, _, rfl, rfl, rfl, Lib.hid rfl, HU⟩
  case round =>
    clear HU k0
    obtain ⟨k, T, hk, rfl, rfl, HT, HU⟩ := hrel
    by_cases hlt : k < 32
    · have n0 : (0 : Int) ≤ (k : Int) := by omega
      have l0 : (k : Int) < 32 := by omega
      have w0 : IntKind.i64.wrap ((k : Int) + 1) = ((k + 1 : Nat) : Int) := i64n (k + 1) (by omega)
      obtain ⟨b, hb⟩ : ∃ b, b = l.getD k 0 := ⟨_, rfl⟩
      have c1 := HU.out.1.cell k _ (getD_some (by rw [HL.out]; exact hlt))
      rw [← hb] at c1
      have HX := Lib.hid (hex_take l k (by rw [HL.out]; exact hlt))
      rw [← hb] at HX
      have hbl := b.toNat_lt
      obtain ⟨m1, hm1⟩ : ∃ m, m = b.toNat / 16 := ⟨_, rfl⟩
      obtain ⟨m2, hm2⟩ : ∃ m, m = b.toNat % 16 := ⟨_, rfl⟩
      have q1 : ib b / (16 : Int) = (m1 : Int) := by rw [hm1]; exact ib_div b
      have q2 : ib b % (16 : Int) = (m2 : Int) := by rw [hm2]; unfold ib; omega
      have q3 : Int.tdiv (ib b) 16 = (m1 : Int) := by rw [Int.tdiv_eq_ediv_of_nonneg (ib_lt b).1]; exact q1
      have q4 : Int.tmod (ib b) 16 = (m2 : Int) := by rw [Int.tmod_eq_emod_of_nonneg (ib_lt b).1]; exact q2
      have q5 : IntKind.u8.wrap (m1 : Int) = (m1 : Int) := by rw [IntKind.wrap_u8']; omega
      have q6 : IntKind.u8.wrap ((m1 : Int) + 1) = ((m1 + 1 : Nat) : Int) := by rw [IntKind.wrap_u8']; omega
      have q7 : IntKind.u8.wrap ((m2 : Int) + 1) = ((m2 + 1 : Nat) : Int) := by rw [IntKind.wrap_u8']; omega
      have q8 : IntKind.u8.wrap (m2 : Int) = (m2 : Int) := by rw [IntKind.wrap_u8']; omega
      have r1 : (0 : Int) ≤ (m1 : Int) := by omega
      have r2 : (m1 : Int) + 1 ≤ (16 : Int) := by omega
      have r3 : (0 : Int) ≤ (m2 : Int) := by omega
      have r4 : (m2 : Int) + 1 ≤ (16 : Int) := by omega
      have r5 : (0 : Int) ≤ (m1 : Int) + 1 := by omega
      have r6 : (0 : Int) ≤ (m2 : Int) + 1 := by omega
      have x1 := dig_ext m1 (by omega)
      have x2 := dig_ext m2 (by omega)
      have hTs : T.size ≤ 64 := by rw [HT.out]; show (Sh.hex (l.take k)).toArray.size ≤ 64; simp [Sh.length_hex, HL.out]; omega
      have a1 := add_dig T (Sh.dig m1) (by omega)
      have a2 := add_dig (T ++ ⟨#[Sh.dig m1]⟩) (Sh.dig m2) (by rw [ByteArray.size_append]; show T.size + 1 ≤ _; omega)
      rw [← hm1, ← hm2] at HX
      generalize hd1 : Sh.dig m1 = d1 at *
      generalize hd2 : Sh.dig m2 = d2 at *
      obtain ⟨T2, hT2⟩ : ∃ T2, T2 = T ++ ⟨#[d1]⟩ ++ ⟨#[d2]⟩ := ⟨_, rfl⟩
      rw [← hT2] at a2
      have HT2 := Lib.hid hT2
      clear hb hm1 hm2 hd1 hd2 hT2 hbl
      go_wp2
      go_quiet (fail)
      go_wp2
      go_roundg (32 - (k + 1))
      case measure => omega
      case rel =>
        refine ⟨k + 1, T2, by omega, rfl, rfl, Lib.hid ?_, Lib.hid ⟨HU.out.1, below_drewN HU.out.2 _⟩⟩
        rw [HT2.out, HT.out, HX.out]
        apply ByteArray.ext
        apply Array.toList_inj.1
        simp [ByteArray.data_append]
    · obtain rfl : k = 32 := by omega
      have k32 : ((32 : Nat) : Int) = 32 := rfl
      have hT : T = ⟨(Sh.hex l).toArray⟩ := by rw [HT.out, List.take_of_length_le (by rw [HL.out]; omega)]
      have HT := Lib.hid hT
      clear hT
      go_wp2
      go_ret
      exact ⟨by rw [← HT.out]; rfl, HU.out.2⟩
end Go.Proofs.YtjlmhpokamdkhaaDoor
