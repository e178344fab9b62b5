/- Seals: a stamp is made, and looked at. -/
import Derived.Test.YtjlmhpokamdkhaaDoorSlB
namespace Go.Proofs.YtjlmhpokamdkhaaDoor
open Go Go.Proofs Go.RowKit Go.Shelf

attribute [local go_sem] Oper.semAt_some
/-- the stamp -/
def sealB (k n : List UInt8) (u : Nat) : List UInt8 := Sh.hex (Sh.keyed k (n ++ [0] ++ Lib.decDigits u))
theorem sealB_length (k n : List UInt8) (u : Nat) : (sealB k n u).length = 64 := by unfold sealB; rw [Sh.length_hex, Sh.length_keyed]
/-- the tables are as they were laid -/
def HasW (W : World) : Prop := HasV W ∧ HasP W
theorem HasW.below {W W' : World} (h : HasW W) (hb : Below W.heap.size W W') : HasW W' := ⟨h.1.below hb, h.2.below hb⟩
theorem digits_short (u : Nat) (hu : u < 18446744073709551616) : (Lib.decDigits u).length ≤ 20 := by
  rw [Lib.decDigits_length]
  by_cases h : 1 ≤ u
  · have := Lib.numDigits_eq u h hu; split at this <;> omega
  · obtain rfl : u = 0 := by omega
    rw [Lib.nDigits_small (by decide)]; decide
theorem bts_mk (l : List UInt8) : bts ⟨l.toArray⟩ = l := rfl
set_option maxRecDepth 100000
set_option maxHeartbeats 4000000 in
theorem make_any (K N : ByteArray) (u : Nat) (hu : u < 18446744073709551616) (w : World) (hK : K.size ≤ 500000) (hN : N.size ≤ 500000) (hW : HasW w) :
    Calls Tryd.prog 16 #[.string K, .string N, .int .u64 u] w fun e w' => e = .returned (.string ⟨(sealB (bts K) (bts N) u).toArray⟩) ∧ Below w.heap.size w w' := by
  obtain ⟨D, hD⟩ : ∃ D : ByteArray, D = ⟨(Lib.decDigits u).toArray⟩ := ⟨_, rfl⟩
  have hDs : D.size ≤ 20 := by rw [← bts_length, hD]; exact digits_short u hu
  have KF := Lib.hid (show Calls Tryd.prog 27 #[.int .u64 u, .int .i64 10] w fun e w' => e = .returned (.string D) ∧ Below w.heap.size w w' by rw [hD]; exact fu_any u hu w hW.2)
  have KJ := Lib.hid (show ∀ W : World, Calls Tryd.prog 26 #[.slice (some ⟨W.heap.size, 0, none⟩) 3 3] (W.alloc (.cells #[.string N, .string ⟨#[0]⟩, .string D] 9)) fun e w' => ∃ v, e = .returned v ∧ RdB w' v (bts N ++ [0] ++ Lib.decDigits u) ∧ Below W.heap.size W w' from fun W => by
    have hb := (Below.refl W.heap.size W).alloc (Nat.le_refl _) (.cells #[.string N, .string ⟨#[0]⟩, .string D] 9)
    refine (joined_any W.heap.size N ⟨#[0]⟩ D _ (by simp) (by rw [World.cell?_alloc_new]; rfl) (by rw [World.cell?_alloc_new]; rfl) (by rw [World.cell?_alloc_new]; rfl) (by omega) (by decide) (by omega)).mono ?_
    rintro e w' ⟨v, rfl, hO, hx⟩
    refine ⟨v, rfl, ?_, hb.trans (hx.mono hb.size)⟩
    have := own_rdb hO
    rw [hD] at this
    exact this)
  have HL := Lib.hid (show K.size ≤ 500000 ∧ N.size ≤ 500000 ∧ (Lib.decDigits u).length ≤ 20 from ⟨hK, hN, digits_short u hu⟩)
  have HV := Lib.hid hW.1
  clear hD hDs hK hN hW hu
  go_enter Tryd.func16, Tryd.ntmps16
  go_wp2_with (first
    | (go_at_call 27; refine KF.out.mono ?_; rintro e w1 ⟨rfl, q1⟩; have b1 := Lib.hid q1; clear q1)
    | (go_at_call 26; refine (KJ.out w1).mono ?_; rintro e w2 ⟨v, rfl, qR, q2⟩; have R2 := Lib.hid qR; have b2 := Lib.hid q2; clear qR q2; refine Hid.out ?_))
  refine Lib.hid ?_
  obtain ⟨c, W3, hcv, hcc, qb3, hg3, hcell⟩ := conv_run w2 K
  have R1 := Lib.hid (conv_rdb hcc hg3 hcell)
  have R2 := Lib.hid (R2.out.below qb3)
  have b3 := Lib.hid qb3
  have KK := Lib.hid (show Calls Tryd.prog 9 #[.slice (some ⟨w2.heap.size, 0, none⟩) K.size c, v] W3 fun e w' => e = .returned (.agg ((Sh.keyed (bts K) (bts N ++ [0] ++ Lib.decDigits u)).map bv).toArray) ∧ Below W3.heap.size W3 w' from
    keyed_any (bts K) _ _ v W3 (by rw [bts_length]; have := HL.out; omega) (by simp only [List.length_append, bts_length, List.length_singleton]; have := HL.out; omega) R1.out R2.out (((HV.out.below b1.out).below (b2.out)).below b3.out))
  clear hcc qb3 hg3 hcell
  obtain ⟨S, hS⟩ : ∃ S, S = Sh.keyed (bts K) (bts N ++ [0] ++ Lib.decDigits u) := ⟨_, rfl⟩
  have hSl : S.length = 32 := by rw [hS, Sh.length_keyed]
  rw [← hS] at KK
  have HS := Lib.hid hS
  have KT := Lib.hid (fun W => text_any S hSl W)
  obtain ⟨A, hA⟩ : ∃ A, A = (S.map bv).toArray := ⟨_, rfl⟩
  rw [← hA] at KK KT
  clear hS hSl hA
  go_wp2_with (first
    | (go_at_call 9; refine KK.out.mono ?_; rintro e w4 ⟨rfl, q4⟩; have b4 := Lib.hid q4; clear q4)
    | (go_at_call 12; refine (KT.out _).mono ?_; rintro e w5 ⟨rfl, q5⟩; have b5 := Lib.hid q5; clear q5))
  go_ret
  refine ⟨?_, ?_⟩
  · rw [HS.out]; rfl
  · have h12 := b1.out.trans (b2.out.mono b1.out.size)
    have h13 := h12.trans (b3.out.mono h12.size)
    have h14 := h13.trans (b4.out.mono h13.size)
    exact h14.trans (b5.out.mono h14.size)
set_option maxHeartbeats 4000000 in
theorem check_any (K N T : ByteArray) (u : Nat) (hu : u < 18446744073709551616) (w : World) (hK : K.size ≤ 500000) (hN : N.size ≤ 500000) (hT : T.size ≤ 500000) (hW : HasW w) :
    Calls Tryd.prog 18 #[.string K, .string N, .int .u64 u, .string T] w fun e w' => e = .returned (.bool (sealB (bts K) (bts N) u == bts T)) ∧ Below w.heap.size w w' := by
  have KM := Lib.hid (make_any K N u hu w hK hN hW)
  have hl := sealB_length (bts K) (bts N) u
  obtain ⟨S, hS⟩ : ∃ S : ByteArray, S = ⟨(sealB (bts K) (bts N) u).toArray⟩ := ⟨_, rfl⟩
  have KS := Lib.hid (fun W => same_any S T W (by rw [← bts_length, hS, bts_mk, hl]; decide) (by omega))
  have HQ := Lib.hid (show (bts S == bts T) = (sealB (bts K) (bts N) u == bts T) by rw [hS, bts_mk])
  rw [← hS] at KM
  clear hS hl hW hK hN hT hu
  go_enter Tryd.func18, Tryd.ntmps18
  go_wp2_with (first
    | (go_at_call 16; refine KM.out.mono ?_; rintro e w1 ⟨rfl, q1⟩; have b1 := Lib.hid q1; clear q1)
    | (go_at_call 29; refine (KS.out _).mono ?_; rintro e w2 ⟨rfl, q2⟩; have b2 := Lib.hid q2; clear q2))
  go_ret
  exact ⟨by rw [HQ.out]; rfl, b1.out.trans (b2.out.mono b1.out.size)⟩
set_option maxHeartbeats 4000000 in
theorem great_no (K N T : ByteArray) (u : Int) (w : World) (hK : K.size ≤ 3000) (hN : N.size ≤ 3000) (hT : T.size ≤ 3000) :
    Calls Tryd.prog 15 #[.agg #[.string K, .string N, .int .u64 u, .string T]] w fun e w' => e = .returned (.bool false) ∧ Below w.heap.size w w' := by
  obtain ⟨k, hk⟩ : ∃ k, k = K.size := ⟨_, rfl⟩
  obtain ⟨n, hn⟩ : ∃ k, k = N.size := ⟨_, rfl⟩
  obtain ⟨t, ht⟩ : ∃ k, k = T.size := ⟨_, rfl⟩
  have i1 : ¬ (3000 : Int) < (k : Int) := by omega
  have i2 : ¬ (3000 : Int) < (n : Int) := by omega
  have i3 : ¬ (3000 : Int) < (t : Int) := by omega
  have e1 : (K.size : Int) = (k : Int) := by omega
  have e2 : (N.size : Int) = (n : Int) := by omega
  have e3 : (T.size : Int) = (t : Int) := by omega
  clear hk hn ht hK hN hT
  go_enter Tryd.func15, Tryd.ntmps15
  go_wp2
  go_ret
  exact ⟨rfl, (Below.refl _ _).alloc (Nat.le_refl _) _⟩
set_option maxHeartbeats 4000000 in
theorem great_yes (K N T : ByteArray) (u : Int) (w : World) (h : 3000 < K.size ∨ 3000 < N.size ∨ 3000 < T.size) :
    Calls Tryd.prog 15 #[.agg #[.string K, .string N, .int .u64 u, .string T]] w fun e w' => e = .returned (.bool true) ∧ Below w.heap.size w w' := by
  obtain ⟨k, hk⟩ : ∃ k, k = K.size := ⟨_, rfl⟩
  obtain ⟨n, hn⟩ : ∃ k, k = N.size := ⟨_, rfl⟩
  obtain ⟨t, ht⟩ : ∃ k, k = T.size := ⟨_, rfl⟩
  have e1 : (K.size : Int) = (k : Int) := by omega
  have e2 : (N.size : Int) = (n : Int) := by omega
  have e3 : (T.size : Int) = (t : Int) := by omega
  rw [← hk, ← hn, ← ht] at h
  clear hk hn ht
  by_cases h1 : 3000 < k
  · have i1 : (3000 : Int) < (k : Int) := by omega
    clear h h1
    go_enter Tryd.func15, Tryd.ntmps15
    go_wp2
    go_ret
    exact ⟨rfl, (Below.refl _ _).alloc (Nat.le_refl _) _⟩
  · have i1 : ¬ (3000 : Int) < (k : Int) := by omega
    by_cases h2 : 3000 < n
    · have i2 : (3000 : Int) < (n : Int) := by omega
      clear h h1 h2
      go_enter Tryd.func15, Tryd.ntmps15
      go_wp2
      go_ret
      exact ⟨rfl, (Below.refl _ _).alloc (Nat.le_refl _) _⟩
    · have i2 : ¬ (3000 : Int) < (n : Int) := by omega
      have i3 : (3000 : Int) < (t : Int) := by omega
      clear h h1 h2
      go_enter Tryd.func15, Tryd.ntmps15
      go_wp2
      go_ret
      exact ⟨rfl, (Below.refl _ _).alloc (Nat.le_refl _) _⟩
end Go.Proofs.YtjlmhpokamdkhaaDoor
