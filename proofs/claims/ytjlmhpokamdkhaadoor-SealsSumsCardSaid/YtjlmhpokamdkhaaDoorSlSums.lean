/- Seals: the law on a stamp as a sum with a key. -/
import Derived.Test.YtjlmhpokamdkhaaDoorSlM
namespace Go.Proofs.YtjlmhpokamdkhaaDoor
open Go Go.Proofs Go.RowKit Go.Shelf

attribute [local go_sem] Oper.semAt_some
set_option maxRecDepth 100000
/-- what is left of k, and the digits that stand already -/
def DD (k m : Nat) (d : ByteArray) : Prop := (bts d = [] ∧ m = k) ∨ (bts d ≠ [] ∧ (if m = 0 then [] else Lib.decDigits m) ++ bts d = Lib.decDigits k)
theorem DD.step {k m : Nat} {d : ByteArray} (h : DD k m d) (hm : 0 < m ∨ bts d = []) (E : ByteArray) (hE : bts E = [UInt8.ofNat (48 + m % 10)]) : DD k (m / 10) (E ++ d) := by
  have e : bts (E ++ d) = UInt8.ofNat (48 + m % 10) :: bts d := by
    have : bts (E ++ d) = bts E ++ bts d := by unfold bts; rw [ByteArray.data_append, Array.toList_append]
    rw [this, hE]; rfl
  right
  refine ⟨by rw [e]; simp, ?_⟩
  rw [e]
  have key : (if m / 10 = 0 then [] else Lib.decDigits (m / 10)) ++ [UInt8.ofNat (48 + m % 10)] = Lib.decDigits m := by
    by_cases h10 : m < 10
    · rw [if_pos (by omega), Lib.decDigits_one h10, show m % 10 = m by omega]; rfl
    · rw [if_neg (by omega)]
      conv => rhs; rw [Lib.decDigits, dif_neg h10]
  rw [show (UInt8.ofNat (48 + m % 10) :: bts d) = [UInt8.ofNat (48 + m % 10)] ++ bts d from rfl, ← List.append_assoc, key]
  rcases h with ⟨h1, h2⟩ | ⟨h1, h2⟩
  · rw [h1, h2, List.append_nil]
  · rcases hm with hm | hm
    · rw [if_neg (by omega)] at h2; exact h2
    · exact absurd hm h1
theorem DD.done {k m : Nat} {d : ByteArray} (h : DD k m d) (hm : m = 0) (hd : bts d ≠ []) : bts d = Lib.decDigits k := by
  rcases h with ⟨h1, _⟩ | ⟨_, h2⟩
  · exact absurd h1 hd
  · rw [if_pos hm] at h2; exact h2
theorem bts_nil {d : ByteArray} : bts d = [] ↔ d.size = 0 := by
  rw [← bts_length, List.length_eq_zero_iff]
set_option maxHeartbeats 8000000 in
theorem slsums_all (K N : ByteArray) (n : Int) (w : World) (hn : (Lit.int .u16 n).wf = true) (hW : HasW w) :
    Calls Tryd.prog 6 #[.string K, .string N, .int .u16 n] w fun e w' => e = .returned (.bool true) ∧ Below w.heap.size w w' := by
  have KA := Lib.hid (show ∀ W, Below w.heap.size w W → Calls Tryd.prog 20 #[] W fun e w' => e = .returned (.bool true) ∧ Below w.heap.size w w' from fun W hb => (sl_alive W (hW.below hb)).mono fun _ _ h => ⟨h.1, hb.trans (h.2.mono hb.size)⟩)
  have B0 := Lib.hid (Below.refl w.heap.size w)
  obtain ⟨k1, hk1⟩ : ∃ k, k = K.size := ⟨_, rfl⟩
  obtain ⟨k2, hk2⟩ : ∃ k, k = N.size := ⟨_, rfl⟩
  have s1 : (K.size : Int) = (k1 : Int) := by omega
  have s2 : (N.size : Int) = (k2 : Int) := by omega
  by_cases h1 : 3000 < k1
  · have i1 : (3000 : Int) < (k1 : Int) := by omega
    clear h1 hW hn hk1 hk2
    go_enter Tryd.func6, Tryd.ntmps6
    go_wp2_with (go_at_call 20; (with_reducible refine (KA.out _ B0.out).mono ?_); clear B0; rintro e w1 ⟨rfl, q1⟩; have B0 := Lib.hid q1; clear q1)
    go_ret
    exact ⟨rfl, B0.out⟩
  have i1 : ¬ (3000 : Int) < (k1 : Int) := by omega
  by_cases h2 : 3000 < k2
  · have i2 : (3000 : Int) < (k2 : Int) := by omega
    clear h1 h2 hW hn hk1 hk2
    go_enter Tryd.func6, Tryd.ntmps6
    go_wp2_with (go_at_call 20; (with_reducible refine (KA.out _ B0.out).mono ?_); clear B0; rintro e w1 ⟨rfl, q1⟩; have B0 := Lib.hid q1; clear q1)
    go_ret
    exact ⟨rfl, B0.out⟩
  have i2 : ¬ (3000 : Int) < (k2 : Int) := by omega
  have hn' : 0 ≤ n ∧ n < 65536 := by
    simp [Lit.wf, IntKind.min, IntKind.max, IntKind.signed, IntKind.bits] at hn
    omega
  obtain ⟨k, hk⟩ : ∃ k, k = n.toNat % 10000 := ⟨_, rfl⟩
  have e1 : IntKind.i64.wrap n = n := IntWalk.i64_in _ (by omega)
  have e2 : n % 10000 = (k : Int) := by omega
  have e3 : Int.tmod n 10000 = (k : Int) := by rw [Int.tmod_eq_emod_of_nonneg hn'.1]; exact e2
  have e4 : IntKind.u64.wrap (k : Int) = (k : Int) := by rw [IntKind.wrap_u64]; omega
  have HKs := Lib.hid (show K.size ≤ 3000 ∧ N.size ≤ 3000 ∧ k < 10000 from ⟨by omega, by omega, by omega⟩)
  obtain ⟨L, hL⟩ : ∃ L, L = sealB (bts K) (bts N) k := ⟨_, rfl⟩
  obtain ⟨S, hS⟩ : ∃ S : ByteArray, S = ⟨L.toArray⟩ := ⟨_, rfl⟩
  have hSs : S.size = 64 := by rw [← bts_length, hS, bts_mk, hL, sealB_length]
  have es : (S.size : Int) = 64 := by omega
  have KM := Lib.hid (show ∀ W, Below w.heap.size w W → Calls Tryd.prog 16 #[.string K, .string N, .int .u64 (k : Int)] W fun e w' => e = .returned (.string S) ∧ Below w.heap.size w w' from fun W hb => by rw [hS, hL]; exact (make_any K N k (by omega) W (by omega) (by omega) (hW.below hb)).mono fun _ _ h => ⟨h.1, hb.trans (h.2.mono hb.size)⟩)
  have HS := Lib.hid (show S = ⟨L.toArray⟩ ∧ L = sealB (bts K) (bts N) k ∧ S.size = 64 from ⟨hS, hL, hSs⟩)
  have HV := Lib.hid hW
  clear h1 h2 hW hn hn' hk1 hk2 hk hL hS hSs
  go_enter Tryd.func6, Tryd.ntmps6
  go_wp2_with (go_at_call 20; (with_reducible refine (KA.out _ B0.out).mono ?_); clear B0; rintro e w1 ⟨rfl, q1⟩; have B0 := Lib.hid q1; clear q1)
  clear e1 e2 e3
  go_loopg [8, 9] (k + 1) (fun g d m wr => ∃ (D : ByteArray) (M E : Nat), M + E = g ∧ d = .string D ∧ m = .int .i64 (M : Int) ∧ Hid (M ≤ k) ∧ Hid (DD k M D) ∧ Hid (D.size = 0 ∧ E = 1 ∨ 0 < D.size ∧ E = 0) ∧ Hid (D.size + M ≤ 10100) ∧ Hid (Below w.heap.size w wr))
  case atStart => exact ⟨⟨#[]⟩, k, 1, rfl, rfl, rfl, Lib.hid (Nat.le_refl _), Lib.hid (.inl ⟨rfl, rfl⟩), Lib.hid (.inl ⟨rfl, rfl⟩), Lib.hid (by have := HKs.out; show 0 + k ≤ 10100; omega), B0⟩
  case round =>
    clear B0
    obtain ⟨D, M, E, hE, rfl, rfl, HM, HD, HE, HZ, HW⟩ := hrel
    have HEE := Lib.hid hE
    clear hE
    by_cases hgo : 0 < M ∨ D.size = 0
    · obtain ⟨r, hr⟩ : ∃ r, r = M % 10 := ⟨_, rfl⟩
      obtain ⟨p, hp⟩ : ∃ p, p = M / 10 := ⟨_, rfl⟩
      obtain ⟨C, hC⟩ : ∃ C : ByteArray, C = ⟨#[UInt8.ofNat (48 + r)]⟩ := ⟨_, rfl⟩
      have HCs := Lib.hid (show C.size = 1 by rw [hC]; rfl)
      have HC := Lib.hid (show bts C = [UInt8.ofNat (48 + M % 10)] by rw [hC, hr]; rfl)
      have m1 : (M : Int) % 10 = (r : Int) := by omega
      have m2 : Int.tmod (M : Int) 10 = (r : Int) := by rw [Int.tmod_eq_emod_of_nonneg (by omega)]; exact m1
      have m3 : (M : Int) / 10 = (p : Int) := by omega
      have m4 : Int.tdiv (M : Int) 10 = (p : Int) := by rw [Int.tdiv_eq_ediv_of_nonneg (by omega)]; exact m3
      have m5 : IntKind.i64.wrap (p : Int) = (p : Int) := i64n p (by have := HZ.out; omega)
      have m6 : IntKind.i64.wrap ((r : Int) + 1) = ((r + 1 : Nat) : Int) := i64n (r + 1) (by omega)
      have m7 : IntKind.i64.wrap (r : Int) = (r : Int) := i64n r (by omega)
      have j0 : (0 : Int) ≤ (r : Int) := by omega
      have j1 : (r : Int) + 1 ≤ 10 := by omega
      have j2 : (0 : Int) ≤ (r : Int) + 1 := by omega
      have x1 : (⟨#[48, 49, 50, 51, 52, 53, 54, 55, 56, 57]⟩ : ByteArray).extract r (r + 1) = C := by rw [hC]; exact ten_ext r (by omega)
      have a1 : ∀ W, (Op.stringOp .add C D).run Tryd.prog W = .ok (.string (C ++ D)) W := fun W => run_string_add_sum W C D (by have := HCs.out; have := HZ.out; omega)
      have b1 : ¬ (9223372036854775807 < 1 + D.size) := by have := HZ.out; omega
      have HR := Lib.hid (show p = M / 10 from hp)
      have HN := Lib.hid (HD.out.step (hgo.imp id (fun h => bts_nil.2 h)) C HC.out)
      rw [← hp] at HN
      have HGO := Lib.hid hgo
      clear hr hp hC hgo
      by_cases hM : 0 < M
      · have l0 : (0 : Int) < (M : Int) := by omega
        go_wp2
        go_roundg p
        case measure => have := HR.out; have := HEE.out; have := HE.out; omega
        case rel => exact ⟨C ++ D, p, 0, rfl, rfl, rfl, Lib.hid (by have := HR.out; have := HM.out; omega), HN, Lib.hid (.inr ⟨by rw [ByteArray.size_append]; have := HCs.out; omega, rfl⟩), Lib.hid (by rw [ByteArray.size_append]; have := HCs.out; have := HR.out; have := HZ.out; omega), Lib.hid (by first | exact HW.out | exact below_drewN HW.out _ | exact HW.out.drew)⟩
      · have hD0 : D.size = 0 := by have := HGO.out; omega
        have l0 : ¬ (0 : Int) < (M : Int) := by omega
        have de : (D.toList == (⟨#[]⟩ : ByteArray).toList) = true := by
          rw [ByteArray.toList_eq, ByteArray.toList_eq, beq_iff_eq]
          exact bts_nil.2 hD0
        have de2 : D.toList = [] := by
          rw [ByteArray.toList_eq]; exact bts_nil.2 hD0
        have de3 : D.toList.isEmpty = true := by rw [de2]; rfl
        go_wp2
        go_roundg p
        case measure => have := HR.out; have := HEE.out; have := HE.out; omega
        case rel => exact ⟨C ++ D, p, 0, rfl, rfl, rfl, Lib.hid (by have := HR.out; have := HM.out; omega), HN, Lib.hid (.inr ⟨by rw [ByteArray.size_append]; have := HCs.out; omega, rfl⟩), Lib.hid (by rw [ByteArray.size_append]; have := HCs.out; have := HR.out; have := HZ.out; omega), Lib.hid (by first | exact HW.out | exact below_drewN HW.out _ | exact HW.out.drew)⟩
    · obtain rfl : M = 0 := by omega
      have hD0 : 0 < D.size := by omega
      have kz : ((0 : Nat) : Int) = 0 := rfl
      have de : (D.toList == (⟨#[]⟩ : ByteArray).toList) = false := by
        rw [ByteArray.toList_eq, ByteArray.toList_eq, beq_eq_false_iff_ne]
        intro h
        have := bts_nil.1 (show bts D = [] from h)
        omega
      have de2 : ¬ D.toList = [] := by
        rw [ByteArray.toList_eq]; intro h
        have := bts_nil.1 (show bts D = [] from h)
        omega
      have de3 : D.toList.isEmpty = false := by
        cases h : D.toList with
        | nil => exact absurd h de2
        | cons => rfl
      have HB := Lib.hid (HD.out.done rfl (by intro h; have := bts_nil.1 h; omega))
      have KM := Lib.hid (KM.out wr HW.out)
      clear hgo hD0 HD HE HM HEE
      go_wp2_with (go_at_call 16; (with_reducible refine KM.out.mono ?_); rintro e w2 ⟨rfl, q1⟩; have B2 := Lib.hid q1; clear q1)
      clear kz de de2 de3
      have k0 : ((0 : Nat) : Int) = 0 := rfl
      go_loopg [11] 64 (fun g x wr => ∃ i : Nat, i + g = 64 ∧ x = .int .i64 (i : Int) ∧ Hid (Below w.heap.size w wr))
      case atStart => exact ⟨0, rfl, rfl, B2⟩
      case round =>
        clear k0 B2
        obtain ⟨i, hi, rfl, HX⟩ := hrel
        by_cases hlt : i < 64
        · have n0 : (0 : Int) ≤ (i : Int) := by omega
          have l0 : (i : Int) < 64 := by omega
          have w0 : IntKind.i64.wrap ((i : Int) + 1) = ((i + 1 : Nat) : Int) := i64n (i + 1) (by omega)
          have ix := str_at S i (by have := HS.out; omega)
          have hkd := hex_kind (Sh.keyed (bts K) (bts N ++ [0] ++ Lib.decDigits k)) S[i] (by
            have hb := bts_get S i (by have := HS.out; omega)
            have h2 : bts S = Sh.hex (Sh.keyed (bts K) (bts N ++ [0] ++ Lib.decDigits k)) := by rw [HS.out.1, bts_mk, HS.out.2.1]; rfl
            rw [hb, h2, List.getD_eq_getElem?_getD, List.getElem?_eq_getElem (by rw [Sh.length_hex, Sh.length_keyed]; omega)]
            exact List.getElem_mem _)
          obtain ⟨x, hx⟩ : ∃ x, x = ib S[i] := ⟨_, rfl⟩
          rw [← hx] at ix hkd
          clear hx
          rcases hkd with ⟨x1, x2⟩ | ⟨x1, x2⟩
          · have y1 : ¬ 65 ≤ x := by omega
            have y2 : x < 65 := by omega
            go_wp2
            go_roundg (64 - (i + 1))
            case measure => omega
            case rel => exact ⟨i + 1, by omega, rfl, HX⟩
          · have y1 : 65 ≤ x := by omega
            have y2 : ¬ x < 65 := by omega
            have y3 : ¬ x ≤ 70 := by omega
            have y4 : 70 < x := by omega
            go_wp2
            go_roundg (64 - (i + 1))
            case measure => omega
            case rel => exact ⟨i + 1, by omega, rfl, HX⟩
        · obtain rfl : i = 64 := by omega
          have k64 : ((64 : Nat) : Int) = 64 := rfl
          obtain ⟨c1, w5, hcv, hcc, q1, hg1, hcell⟩ := conv_run wr K
          have R1 := Lib.hid (conv_rdb hcc hg1 hcell)
          obtain ⟨N0, hN0⟩ : ∃ X, X = N ++ (⟨#[0]⟩ : ByteArray) := ⟨_, rfl⟩
          have hN0s : N0.size = N.size + 1 := by rw [hN0, ByteArray.size_append]; rfl
          obtain ⟨ND, hND⟩ : ∃ X, X = N0 ++ D := ⟨_, rfl⟩
          have hNDs : ND.size = N0.size + D.size := by rw [hND, ByteArray.size_append]
          have a1 : ∀ W, (Op.stringOp .add N ⟨#[0]⟩).run Tryd.prog W = .ok (.string N0) W := fun W => by rw [hN0]; exact run_string_add_sum W N ⟨#[0]⟩ (by have := HKs.out; show N.size + 1 ≤ _; omega)
          have a2 : ∀ W, (Op.stringOp .add N0 D).run Tryd.prog W = .ok (.string ND) W := fun W => by rw [hND]; exact run_string_add_sum W N0 D (by have := HKs.out; have := HZ.out; omega)
          obtain ⟨c2, w6, hcv2, hcc2, q2, hg2, hcell2⟩ := conv_run w5 ND
          have R2 := Lib.hid (conv_rdb hcc2 hg2 hcell2)
          have R1 := Lib.hid (R1.out.below q2)
          have B5 := HX.out.trans (q1.mono HX.out.size)
          have B6 := Lib.hid (B5.trans (q2.mono B5.size))
          have hbn : bts ND = bts N ++ [0] ++ Lib.decDigits k := by
            rw [← HB.out, hND, hN0]
            unfold bts
            rw [ByteArray.data_append, ByteArray.data_append, Array.toList_append, Array.toList_append]
          obtain ⟨g1, hg1'⟩ : ∃ g, g = wr.heap.size := ⟨_, rfl⟩
          obtain ⟨g2, hg2'⟩ : ∃ g, g = w5.heap.size := ⟨_, rfl⟩
          rw [← hg1'] at hcv R1
          rw [← hg2'] at hcv2 R2
          have KK := Lib.hid (show Calls Tryd.prog 9 #[.slice (some ⟨g1, 0, none⟩) K.size c1, .slice (some ⟨g2, 0, none⟩) ND.size c2] w6 fun e w' => e = .returned (.agg ((Sh.keyed (bts K) (bts ND)).map bv).toArray) ∧ Below w.heap.size w w' from
            (keyed_any (bts K) _ _ _ w6 (by rw [bts_length]; have := HKs.out; omega) (by rw [bts_length]; have := HKs.out; have := HZ.out; omega) R1.out R2.out (HV.out.1.below B6.out)).mono fun _ _ h => ⟨h.1, B6.out.trans (h.2.mono B6.out.size)⟩)
          obtain ⟨Q, hQ⟩ : ∃ S, S = Sh.keyed (bts K) (bts ND) := ⟨_, rfl⟩
          have hQl : Q.length = 32 := by rw [hQ, Sh.length_keyed]
          rw [← hQ] at KK
          have KT := Lib.hid (show ∀ W, Below w.heap.size w W → Calls Tryd.prog 12 #[.agg (Q.map bv).toArray] W fun e w' => e = .returned (.string S) ∧ Below w.heap.size w w' from fun W hb => by
            have h := text_any Q hQl W
            have e : (⟨(Sh.hex Q).toArray⟩ : ByteArray) = S := by rw [HS.out.1, HS.out.2.1, hQ, hbn]; rfl
            rw [e] at h
            exact h.mono fun _ _ h => ⟨h.1, hb.trans (h.2.mono hb.size)⟩)
          obtain ⟨A, hA⟩ : ∃ A, A = (Q.map bv).toArray := ⟨_, rfl⟩
          rw [← hA] at KK KT
          have qss : (S.toList == S.toList) = true := beq_self_eq_true _
          clear hcc q1 hg1 hcell hN0 hN0s hND hNDs hcc2 q2 hg2 hcell2 B5 hbn hQ hQl hA hlt hi
          have G1 := Lib.hid hg1'
          have G2 := Lib.hid hg2'
          clear hg1' hg2'
          go_wp2_with (first
            | (go_at_call 9; refine KK.out.mono ?_; rintro e w7 ⟨rfl, q4⟩; have B7 := Lib.hid q4; clear q4)
            | (go_at_call 12; refine (KT.out _ B7.out).mono ?_; rintro e w8 ⟨rfl, q5⟩; have B8 := Lib.hid q5; clear q5))
          go_ret
          exact ⟨rfl, B8.out⟩
end Go.Proofs.YtjlmhpokamdkhaaDoor
