/- Seals: the document's stamp, and whether a text is it. -/
import Derived.Test.YtjlmhpokamdkhaaDoorSlR
import Derived.Test.YtjlmhpokamdkhaaDoorShRe
import Derived.Test.YtjlmhpokamdkhaaDoorShRt
namespace Go.Proofs.YtjlmhpokamdkhaaDoor
open Go Go.Proofs Go.RowKit Go.Shelf

attribute [local go_sem] Oper.semAt_some
set_option maxRecDepth 100000
theorem ten_ext (d : Nat) (hd : d < 10) : (⟨#[48, 49, 50, 51, 52, 53, 54, 55, 56, 57]⟩ : ByteArray).extract d (d + 1) = ⟨#[UInt8.ofNat (48 + d)]⟩ := by
  obtain rfl | rfl | rfl | rfl | rfl | rfl | rfl | rfl | rfl | rfl : d = 0 ∨ d = 1 ∨ d = 2 ∨ d = 3 ∨ d = 4 ∨ d = 5 ∨ d = 6 ∨ d = 7 ∨ d = 8 ∨ d = 9 := by omega
  all_goals rfl
set_option maxHeartbeats 4000000 in
theorem rdig_any (n : Nat) : n < 18446744073709551616 → ∀ w : World, Calls Tryd.prog 28 #[.int .u64 (n : Int)] w fun e w' => e = .returned (.string ⟨(Lib.decDigits n).toArray⟩) ∧ Below w.heap.size w w' := by
  induction n using Nat.strongRecOn with
  | ind n ih =>
    intro hn w
    by_cases h : n < 10
    · have i1 : (n : Int) < 10 := by omega
      have e1 : IntKind.u64.wrap ((n : Int) + 1) = ((n + 1 : Nat) : Int) := by rw [IntKind.wrap_u64]; omega
      have i2 : (0 : Int) ≤ (n : Int) := by omega
      have i3 : (n : Int) + 1 ≤ 10 := by omega
      have i4 : (0 : Int) ≤ (n : Int) + 1 := by omega
      obtain ⟨E, hE⟩ : ∃ E : ByteArray, E = ⟨#[UInt8.ofNat (48 + n)]⟩ := ⟨_, rfl⟩
      have x1 : (⟨#[48, 49, 50, 51, 52, 53, 54, 55, 56, 57]⟩ : ByteArray).extract n (n + 1) = E := by rw [hE]; exact ten_ext n h
      have HD := Lib.hid (show (⟨(Lib.decDigits n).toArray⟩ : ByteArray) = E by rw [Lib.decDigits_one h, hE])
      clear ih h hn hE
      go_enter Tryd.func28, Tryd.ntmps28
      go_wp2
      go_ret
      refine ⟨?_, Below.refl _ _⟩
      rw [HD.out]
      rfl
    · obtain ⟨p, hp⟩ : ∃ p, p = n / 10 := ⟨_, rfl⟩
      obtain ⟨r, hr⟩ : ∃ r, r = n % 10 := ⟨_, rfl⟩
      obtain ⟨D, hD⟩ : ∃ D : ByteArray, D = ⟨(Lib.decDigits p).toArray⟩ := ⟨_, rfl⟩
      obtain ⟨E, hE⟩ : ∃ E : ByteArray, E = ⟨#[UInt8.ofNat (48 + r)]⟩ := ⟨_, rfl⟩
      have KD := Lib.hid (show ∀ W, Calls Tryd.prog 28 #[.int .u64 (p : Int)] W fun e w' => e = .returned (.string D) ∧ Below W.heap.size W w' from fun W => by rw [hD]; exact ih p (by omega) (by omega) W)
      have hDs : D.size ≤ 20 := by rw [← bts_length, hD, bts_mk]; exact digits_short p (by omega)
      have i1 : ¬ (n : Int) < 10 := by omega
      have e1 : (n : Int) / 10 = (p : Int) := by omega
      have e1' : Int.tdiv (n : Int) 10 = (p : Int) := by rw [Int.tdiv_eq_ediv_of_nonneg (by omega)]; exact e1
      have e2 : (n : Int) % 10 = (r : Int) := by omega
      have e2' : Int.tmod (n : Int) 10 = (r : Int) := by rw [Int.tmod_eq_emod_of_nonneg (by omega)]; exact e2
      have e3 : IntKind.u64.wrap (p : Int) = (p : Int) := by rw [IntKind.wrap_u64]; omega
      have e4 : IntKind.u64.wrap (r : Int) = (r : Int) := by rw [IntKind.wrap_u64]; omega
      have e5 : IntKind.u64.wrap ((r : Int) + 1) = ((r + 1 : Nat) : Int) := by rw [IntKind.wrap_u64]; omega
      have i2 : (0 : Int) ≤ (r : Int) := by omega
      have i3 : (r : Int) + 1 ≤ 10 := by omega
      have i4 : (0 : Int) ≤ (r : Int) + 1 := by omega
      have x1 : (⟨#[48, 49, 50, 51, 52, 53, 54, 55, 56, 57]⟩ : ByteArray).extract r (r + 1) = E := by rw [hE]; exact ten_ext r (by omega)
      have sl : ∀ W, (Instr.sliceAt 9 (.string ⟨#[48, 49, 50, 51, 52, 53, 54, 55, 56, 57]⟩) (some (.int .u64 (r : Int))) (some (.int .u64 ((r : Int) + 1))) none).run Tryd.prog W = .ok (.string E) W := fun W => by
        rw [run_sliceAt_string W _ _ _ _ _ Tryd.underlying9, run_slice_string_if W _ _ _ _ _ _ Tryd.underlying9, if_pos ⟨i4, by show (r : Int) + 1 ≤ 10; omega⟩, if_pos ⟨i2, by omega⟩, show (r : Int).toNat = r by omega, show ((r : Int) + 1).toNat = r + 1 by omega, x1]
      have sl2 : ∀ W, (Instr.slice 9 (.string ⟨#[48, 49, 50, 51, 52, 53, 54, 55, 56, 57]⟩) (some (.int .u64 (r : Int))) (some (.int .u64 ((r : Int) + 1))) none).run Tryd.prog W = .ok (.string E) W := fun W => by
        have := sl W
        rw [run_sliceAt_string W _ _ _ _ _ Tryd.underlying9] at this
        exact this
      have a1 : ∀ W, (Op.stringOp .add D E).run Tryd.prog W = .ok (.string (D ++ E)) W := fun W => run_string_add_sum W D E (by rw [hE]; show D.size + 1 ≤ _; omega)
      have HD := Lib.hid (show (⟨(Lib.decDigits n).toArray⟩ : ByteArray) = D ++ E by
        rw [Lib.decDigits, dif_neg h, ← hp, ← hr, hD, hE]
        apply ByteArray.ext
        apply Array.toList_inj.1
        simp)
      have B0 := Lib.hid (Below.refl w.heap.size w)
      clear ih h hn hp hr hD hE hDs
      go_enter Tryd.func28, Tryd.ntmps28
      go_wp2
      go_region_held3 (fun _ => True) (trivial)
        (first
          | (go_at_call 28; (with_reducible refine (KD.out _).mono ?_); rintro e w5 ⟨rfl, q5⟩; have B5 := Lib.hid q5; clear q5)
          | fail)
      all_goals
        go_wp2
        go_ret
        refine ⟨by rw [HD.out]; rfl, ?_⟩
        have := B5.out
        exact below_of_drew (by first | exact this | exact this.drew)
set_option maxHeartbeats 4000000 in
theorem rmake_any (K N : ByteArray) (u : Nat) (hu : u < 18446744073709551616) (w : World) (hK : K.size ≤ 500000) (hN : N.size ≤ 500000) :
    Calls Tryd.prog 17 #[.string K, .string N, .int .u64 u] w fun e w' => e = .returned (.string ⟨(sealB (bts K) (bts N) u).toArray⟩) ∧ Below w.heap.size w w' := by
  obtain ⟨D, hD⟩ : ∃ D : ByteArray, D = ⟨(Lib.decDigits u).toArray⟩ := ⟨_, rfl⟩
  have hDs : D.size ≤ 20 := by rw [← bts_length, hD, bts_mk]; exact digits_short u hu
  obtain ⟨N0, hN0⟩ : ∃ X, X = N ++ (⟨#[0]⟩ : ByteArray) := ⟨_, rfl⟩
  have hN0s : N0.size = N.size + 1 := by rw [hN0, ByteArray.size_append]; rfl
  obtain ⟨ND, hND⟩ : ∃ X, X = N0 ++ D := ⟨_, rfl⟩
  have hNDs : ND.size = N0.size + D.size := by rw [hND, ByteArray.size_append]
  have a1 : ∀ W, (Op.stringOp .add N ⟨#[0]⟩).run Tryd.prog W = .ok (.string N0) W := fun W => by rw [hN0]; exact run_string_add_sum W N ⟨#[0]⟩ (by show N.size + 1 ≤ _; omega)
  have a2 : ∀ W, (Op.stringOp .add N0 D).run Tryd.prog W = .ok (.string ND) W := fun W => by rw [hND]; exact run_string_add_sum W N0 D (by omega)
  have KD := Lib.hid (show ∀ W, Calls Tryd.prog 28 #[.int .u64 (u : Int)] W fun e w' => e = .returned (.string D) ∧ Below W.heap.size W w' from fun W => by rw [hD]; exact rdig_any u hu W)
  have HB := Lib.hid (show bts ND = bts N ++ [0] ++ Lib.decDigits u by
    rw [hND, hN0]
    unfold bts
    rw [ByteArray.data_append, ByteArray.data_append, Array.toList_append, Array.toList_append, hD])
  have HL := Lib.hid (show K.size ≤ 500000 ∧ ND.size ≤ 500100 by omega)
  obtain ⟨c1, w1, hcv, hcc, q1, hg1, hcell⟩ := conv_run w K
  have R1 := Lib.hid (conv_rdb hcc hg1 hcell)
  have b1 := Lib.hid q1
  obtain ⟨g1, hgg⟩ : ∃ g, g = w.heap.size := ⟨_, rfl⟩
  rw [← hgg] at hcv R1
  clear hD hDs hN0 hN0s hND hNDs hcc q1 hg1 hcell hgg hK hN hu
  go_enter Tryd.func17, Tryd.ntmps17
  go_wp2_with (first
    | (go_at_call 28; (with_reducible refine (KD.out _).mono ?_); rintro e w2 ⟨rfl, q2⟩; have b2 := Lib.hid q2; clear q2 hcv; refine Hid.out ?_))
  refine Lib.hid ?_
  obtain ⟨c2, w3, hcv2, hcc2, q3, hg3, hcell3⟩ := conv_run w2 ND
  have R3 := Lib.hid (conv_rdb hcc2 hg3 hcell3)
  have R1 := Lib.hid ((R1.out.below b2.out).below q3)
  have b3 := Lib.hid q3
  have KK := Lib.hid (show Calls Tryd.prog 11 #[.slice (some ⟨g1, 0, none⟩) K.size c1, .slice (some ⟨w2.heap.size, 0, none⟩) ND.size c2] w3 fun e w' => e = .returned (.agg ((Sh.keyed (bts K) (bts N ++ [0] ++ Lib.decDigits u)).map bv).toArray) ∧ Below w3.heap.size w3 w' by
    have h3 := R3.out
    rw [HB.out] at h3
    have hl := congrArg List.length HB.out
    rw [bts_length] at hl
    exact rkeyed_any (bts K) _ _ _ w3 (by rw [bts_length]; have := HL.out; omega) (by have := HL.out; omega) R1.out h3)
  clear hcc2 q3 hg3 hcell3
  obtain ⟨S, hS⟩ : ∃ S, S = Sh.keyed (bts K) (bts N ++ [0] ++ Lib.decDigits u) := ⟨_, rfl⟩
  have hSl : S.length = 32 := by rw [hS, Sh.length_keyed]
  rw [← hS] at KK
  have HS := Lib.hid hS
  have KT := Lib.hid (fun W => rtext_any S hSl W)
  obtain ⟨A, hA⟩ : ∃ A, A = (S.map bv).toArray := ⟨_, rfl⟩
  rw [← hA] at KK KT
  clear hS hSl hA
  go_wp2_with (first
    | (go_at_call 11; refine KK.out.mono ?_; rintro e w4 ⟨rfl, q4⟩; have b4 := Lib.hid q4; clear q4)
    | (go_at_call 13; refine (KT.out _).mono ?_; rintro e w5 ⟨rfl, q5⟩; have b5 := Lib.hid q5; clear q5))
  go_ret
  refine ⟨?_, ?_⟩
  · rw [HS.out]; rfl
  · have h12 := b1.out.trans (b2.out.mono b1.out.size)
    have h13 := h12.trans (b3.out.mono h12.size)
    have h14 := h13.trans (b4.out.mono h13.size)
    exact h14.trans (b5.out.mono h14.size)
set_option maxHeartbeats 4000000 in
theorem rcheck_any (K N T : ByteArray) (u : Nat) (hu : u < 18446744073709551616) (w : World) (hK : K.size ≤ 500000) (hN : N.size ≤ 500000) :
    Calls Tryd.prog 19 #[.string K, .string N, .int .u64 u, .string T] w fun e w' => e = .returned (.bool (sealB (bts K) (bts N) u == bts T)) ∧ Below w.heap.size w w' := by
  obtain ⟨S, hS⟩ : ∃ S : ByteArray, S = ⟨(sealB (bts K) (bts N) u).toArray⟩ := ⟨_, rfl⟩
  have KM := Lib.hid (rmake_any K N u hu w hK hN)
  rw [← hS] at KM
  obtain ⟨q, hq⟩ : ∃ q, q = (sealB (bts K) (bts N) u == bts T) := ⟨_, rfl⟩
  have e : (T.toList == S.toList) = q := by
    rw [hq, hS, ByteArray.toList_eq, ByteArray.toList_eq, Bool.eq_iff_iff, beq_iff_eq, beq_iff_eq]
    constructor
    · intro h; exact h.symm
    · intro h; exact h.symm
  rw [← hq]
  clear hS hq hK hN hu
  go_enter Tryd.func19, Tryd.ntmps19
  go_wp2_with (first
    | (go_at_call 17; refine KM.out.mono ?_; rintro e w1 ⟨rfl, q1⟩; have b1 := Lib.hid q1; clear q1))
  go_ret
  exact ⟨rfl, b1.out⟩
end Go.Proofs.YtjlmhpokamdkhaaDoor
