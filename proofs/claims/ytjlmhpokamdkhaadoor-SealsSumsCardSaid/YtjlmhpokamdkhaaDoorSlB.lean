/- Seals: texts as bytes, one behind the other; whether two texts are the same. -/
import Derived.Test.YtjlmhpokamdkhaaDoorSlA
import Derived.Test.YtjlmhpokamdkhaaDoorShTold
import Derived.Lib.AppendStr
import Derived.Lib.ConvBytes
namespace Go.Proofs.YtjlmhpokamdkhaaDoor
open Go Go.Proofs Go.RowKit Go.Shelf

attribute [local go_sem] Oper.semAt_some
/-- a text's bytes -/
def bts (s : ByteArray) : List UInt8 := s.data.toList
theorem bts_length (s : ByteArray) : (bts s).length = s.size := by unfold bts; rw [Array.length_toList]; rfl
theorem bts_get (s : ByteArray) (k : Nat) (hk : k < s.size) : s[k] = (bts s).getD k 0 := by
  unfold bts
  rw [List.getD_eq_getElem?_getD, List.getElem?_eq_getElem (by rw [Array.length_toList]; exact hk)]
  rfl
theorem bts_inj {s t : ByteArray} (h : bts s = bts t) : s = t := by
  apply ByteArray.ext; exact Array.toList_inj.1 h
theorem ownB_nil (W : World) (base : Nat) : OwnB W base (.slice none 0 0) [] := World.ownsRow_nil W base 5 1
theorem append_str {W : World} {base : Nat} {v : Value} {l : List UInt8} (hO : OwnB W base v l) (s : ByteArray) (hb : base ≤ W.heap.size) (hn : l.length + s.size ≤ 10000000) :
    ∃ v' W', (Builtin.append_ #[22, 9] 22 #[v, .string s]).run Tryd.prog W = .ok v' W' ∧ OwnB W' base v' (l ++ bts s) ∧ W.grownBy W' v.ownBlock := by
  obtain ⟨i0, hi0, hz0, hz1, hz2⟩ := info_parts info_u8'
  obtain ⟨v', W', hr, ho, hg, _⟩ := Lib.run_append_own_string (P := Tryd.prog) W base 22 9 22 5 i0 Tryd.underlying22 Tryd.underlying9 hi0 hz0 hz1 hz2 v l.length (l.map bv) hO s (small_max (by omega)) (by omega) hb
  refine ⟨v', W', hr, ?_, hg⟩
  unfold OwnB
  rw [List.length_append, bts_length, List.map_append]
  exact ho
theorem conv_run (W : World) (s : ByteArray) : ∃ c W', (convert 9 22 (.string s)).run Tryd.prog W = .ok (.slice (some ⟨W.heap.size, 0, none⟩) s.size c) W' ∧ s.size ≤ c ∧ Below W.heap.size W W' ∧ W.heap.size < W'.heap.size ∧ ∀ j, j < s.size → W'.cell? ⟨W.heap.size, j, none⟩ = some (.int .u8 (ib ((bts s).getD j 0))) ∧ W'.frozen? ⟨W.heap.size, j, none⟩ = false := by
  refine ⟨_, _, Lib.run_convert_string_bytes W 9 22 5 s Tryd.underlying9 Tryd.underlying22 Tryd.underlying5, grownCap_ge _ _ _ _, ⟨rfl, rfl, rfl, ?_, fun j hj => ?_⟩, ?_, fun j hj => ⟨?_, ?_⟩⟩
  · rw [Lib.bytesWorld_size]; omega
  · exact Lib.bytesWorld_at_old W _ s j hj
  · rw [Lib.bytesWorld_size]; omega
  · exact Lib.bytesWorld_cell W _ s j hj
  · unfold World.frozen?
    rw [Lib.bytesWorld_at_new]
    have : s.size ≤ (Lib.bytesCells W 5 s).size := by
      unfold Lib.bytesCells
      rw [Array.size_append, Array.size_map]
      have : s.data.size = s.size := rfl
      omega
    simp
    omega
theorem conv_rdb {W' : World} {s : ByteArray} {g c : Nat} (hc : s.size ≤ c) (hg : g < W'.heap.size) (h : ∀ j, j < s.size → W'.cell? ⟨g, j, none⟩ = some (.int .u8 (ib ((bts s).getD j 0))) ∧ W'.frozen? ⟨g, j, none⟩ = false) : RdB W' (.slice (some ⟨g, 0, none⟩) s.size c) (bts s) :=
  ⟨_, c, by rw [bts_length], by rw [bts_length]; exact hc, fun _ => ⟨g, 0, rfl, hg, fun j hj => by rw [Nat.zero_add]; exact (h j (by rw [← bts_length]; exact hj)).1⟩⟩
theorem ib_or (x y : UInt8) : bits .or .u8 (ib x) (ib y) = ib (x ||| y) := by
  unfold ib; rw [u8_or_nat _ _ x.toNat_lt y.toNat_lt, UInt8.toNat_or]
set_option maxRecDepth 100000
set_option maxHeartbeats 4000000 in
theorem joined_any (b : Nat) (s0 s1 s2 : ByteArray) (w : World) (hb : b < w.heap.size) (h0 : w.cell? ⟨b, 0, none⟩ = some (.string s0)) (h1 : w.cell? ⟨b, 1, none⟩ = some (.string s1)) (h2 : w.cell? ⟨b, 2, none⟩ = some (.string s2)) (hs0 : s0.size ≤ 1000000) (hs1 : s1.size ≤ 1000000) (hs2 : s2.size ≤ 1000000) :
    Calls Tryd.prog 26 #[.slice (some ⟨b, 0, none⟩) 3 3] w fun e w' => ∃ v, e = .returned v ∧ OwnB w' w.heap.size v (bts s0 ++ bts s1 ++ bts s2) ∧ Below w.heap.size w w' := by
  obtain ⟨v0, W0, r0, o0, g0⟩ := append_str (ownB_nil w w.heap.size) s0 (Nat.le_refl _) (by simp; omega)
  have b0 := grown_bel (Below.refl _ _) (ownB_nil w w.heap.size) g0
  obtain ⟨v1, W1, r1, o1, g1⟩ := append_str o0 s1 b0.size (by simp [bts_length]; omega)
  have b1 := grown_bel b0 o0 g1
  obtain ⟨v2, W2, r2, o2, g2⟩ := append_str o1 s2 b1.size (by simp [bts_length]; omega)
  have b2 := grown_bel b1 o1 g2
  rw [List.nil_append] at o2
  have c0 := Lib.hid h0
  have c1 := Lib.hid ((b0.cell (p := ⟨b, 1, none⟩) hb).trans h1)
  have c2 := Lib.hid ((b1.cell (p := ⟨b, 2, none⟩) hb).trans h2)
  have R0 := Lib.hid r0
  have R1 := Lib.hid r1
  have R2 := Lib.hid r2
  have O2 := Lib.hid o2
  have B2 := Lib.hid b2
  clear h0 h1 h2 r0 r1 r2 o0 o1 o2 g0 g1 g2 b0 b1 b2 hs0 hs1 hs2
  go_enter Tryd.func26, Tryd.ntmps26
  go_wp2
  have k0 : ((0 : Nat) : Int) = 0 := rfl
  go_loopg [3, 5, 8] 3 (fun g out _ i wr => ∃ k : Nat, k + g = 3 ∧ i = .int .i64 (k : Int) ∧ Hid ((k = 0 ∧ out = .slice none 0 0 ∧ wr = w) ∨ (k = 1 ∧ out = v0 ∧ wr = W0) ∨ (k = 2 ∧ out = v1 ∧ wr = W1) ∨ (k = 3 ∧ out = v2 ∧ wr = W2)))
  case atStart => exact ⟨0, rfl, rfl, Lib.hid (.inl ⟨rfl, rfl, rfl⟩)⟩
  case round =>
    clear k0
    obtain ⟨k, hk, rfl, HX⟩ := hrel
    rcases HX.out with ⟨rfl, rfl, rfl⟩ | ⟨rfl, rfl, rfl⟩ | ⟨rfl, rfl, rfl⟩ | ⟨rfl, rfl, rfl⟩
    · clear HX
      have kc : ((0 : Nat) : Int) = 0 := rfl
      have cc := c0.out
      go_wp2_with (at_builtin; refine Lib.wpList_append_run _ rfl _ _ _ _ rfl _ _ rfl rfl _ _ R0.out ?_)
      go_roundg 2
      case measure => omega
      case rel => exact ⟨1, rfl, rfl, Lib.hid (.inr (.inl ⟨rfl, rfl, rfl⟩))⟩
    · clear HX
      have kc : ((1 : Nat) : Int) = 1 := rfl
      have cc := c1.out
      go_wp2_with (at_builtin; refine Lib.wpList_append_run _ rfl _ _ _ _ rfl _ _ rfl rfl _ _ R1.out ?_)
      go_roundg 1
      case measure => omega
      case rel => exact ⟨2, rfl, rfl, Lib.hid (.inr (.inr (.inl ⟨rfl, rfl, rfl⟩)))⟩
    · clear HX
      have kc : ((2 : Nat) : Int) = 2 := rfl
      have cc := c2.out
      go_wp2_with (at_builtin; refine Lib.wpList_append_run _ rfl _ _ _ _ rfl _ _ rfl rfl _ _ R2.out ?_)
      go_roundg 0
      case measure => omega
      case rel => exact ⟨3, rfl, rfl, Lib.hid (.inr (.inr (.inr ⟨rfl, rfl, rfl⟩)))⟩
    · clear HX
      have kc : ((3 : Nat) : Int) = 3 := rfl
      go_wp2
      go_ret
      exact ⟨_, rfl, O2.out, B2.out⟩
theorem or_zero (x y : UInt8) : x ||| y = 0 ↔ x = 0 ∧ y = 0 := by
  constructor
  · intro h
    constructor
    · apply UInt8.eq_of_toBitVec_eq
      have e := congrArg UInt8.toBitVec h
      rw [UInt8.toBitVec_or] at e
      exact (BitVec.or_eq_zero_iff.1 e).1
    · apply UInt8.eq_of_toBitVec_eq
      have e := congrArg UInt8.toBitVec h
      rw [UInt8.toBitVec_or] at e
      exact (BitVec.or_eq_zero_iff.1 e).2
  · rintro ⟨rfl, rfl⟩; rfl
theorem xor_zero (x y : UInt8) : x ^^^ y = 0 ↔ x = y := by
  rw [UInt8.xor_eq_zero_iff]
theorem take_eq_succ (a b : List UInt8) (k : Nat) (ha : k < a.length) (hb : k < b.length) : a.take (k + 1) = b.take (k + 1) ↔ a.take k = b.take k ∧ a.getD k 0 = b.getD k 0 := by
  rw [List.take_add_one, List.take_add_one, List.getElem?_eq_getElem ha, List.getElem?_eq_getElem hb, List.getD_eq_getElem?_getD, List.getD_eq_getElem?_getD, List.getElem?_eq_getElem ha, List.getElem?_eq_getElem hb]
  constructor
  · intro h
    have := List.append_inj h (by simp; omega)
    exact ⟨this.1, by simpa using this.2⟩
  · rintro ⟨h1, h2⟩
    have h2 : a[k] = b[k] := h2
    rw [h1, h2]
set_option maxHeartbeats 4000000 in
theorem same_any (s t : ByteArray) (w : World) (hs : s.size ≤ 1000000) (_ht : t.size ≤ 1000000) :
    Calls Tryd.prog 29 #[.string s, .string t] w fun e w' => e = .returned (.bool (bts s == bts t)) ∧ Below w.heap.size w w' := by
  obtain ⟨q, hq⟩ : ∃ q, q = (bts s == bts t) := ⟨_, rfl⟩
  obtain ⟨n, hn⟩ : ∃ n, n = s.size := ⟨_, rfl⟩
  obtain ⟨m, hm⟩ : ∃ n, n = t.size := ⟨_, rfl⟩
  rw [← hq]
  by_cases hnm : n = m
  · subst hnm
    have HQ := Lib.hid hq
    have HN := Lib.hid (show n = s.size ∧ n = t.size ∧ n ≤ 1000000 from ⟨hn, hm, by omega⟩)
    have e1 : ((n : Int) == (n : Int)) = true := by simp
    have es : (s.size : Int) = (n : Int) := by omega
    have et : (t.size : Int) = (n : Int) := by omega
    have kx := ib_xor
    have ko := ib_or
    clear hn hm hq hs _ht
    go_enter Tryd.func29, Tryd.ntmps29
    go_wp2
    have k0 : ((0 : Nat) : Int) = 0 := rfl
    go_loopg [5, 6, 14] n (fun g d _ i wr => ∃ (k : Nat) (x : UInt8), k + g = n ∧ i = .int .i64 (k : Int) ∧ d = .int .u8 (ib x) ∧ Hid (x = 0 ↔ (bts s).take k = (bts t).take k) ∧ Hid (Below w.heap.size w wr))
    case atStart => exact ⟨0, 0, by omega, rfl, rfl, Lib.hid (by simp), Lib.hid (Below.refl _ _)⟩
    case round =>
      clear k0
      obtain ⟨k, x, hk, rfl, rfl, HX, HW⟩ := hrel
      by_cases hlt : k < n
      · have n0 : (0 : Int) ≤ (k : Int) := by omega
        have l0 : (k : Int) < (n : Int) := by omega
        have w0 : IntKind.i64.wrap ((k : Int) + 1) = ((k + 1 : Nat) : Int) := i64n (k + 1) (by have := HN.out; omega)
        obtain ⟨a, ha⟩ : ∃ a, a = (bts s).getD k 0 := ⟨_, rfl⟩
        obtain ⟨b, hb⟩ : ∃ a, a = (bts t).getD k 0 := ⟨_, rfl⟩
        have i1 := str_at s k (by have := HN.out; omega)
        have i2 := str_at t k (by have := HN.out; omega)
        rw [bts_get s k (by have := HN.out; omega), ← ha] at i1
        rw [bts_get t k (by have := HN.out; omega), ← hb] at i2
        have HA := Lib.hid (show a = (bts s).getD k 0 ∧ b = (bts t).getD k 0 from ⟨ha, hb⟩)
        clear ha hb
        go_wp2
        go_quiet (fail)
        go_wp2
        go_roundg (n - (k + 1))
        case measure => omega
        case rel =>
          refine ⟨k + 1, x ||| (a ^^^ b), by omega, rfl, rfl, Lib.hid ?_, Lib.hid (below_drewN HW.out _)⟩
          have := HN.out
          rw [or_zero, xor_zero, HX.out, take_eq_succ _ _ _ (by rw [bts_length]; omega) (by rw [bts_length]; omega), HA.out.1, HA.out.2]
      · obtain rfl : k = n := by omega
        have hN := HN.out
        have hiff : x = 0 ↔ bts s = bts t := by
          have := HX.out
          rw [List.take_of_length_le (by rw [bts_length]; omega), List.take_of_length_le (by rw [bts_length]; omega)] at this
          exact this
        clear HX hlt hk kx ko
        by_cases hx : x = 0
        · have hq : q = true := by rw [HQ.out]; simpa using hiff.1 hx
          subst hx
          subst hq
          have z0 : ib 0 = 0 := rfl
          clear hiff hN
          go_wp2
          go_ret
          exact ⟨rfl, HW.out⟩
        · have hq : q = false := by rw [HQ.out]; simpa using fun h => hx (hiff.2 h)
          subst hq
          have z1 : (ib x == 0) = false := by
            rw [beq_eq_false_iff_ne]
            intro h
            exact hx (ib_inj (h.trans rfl))
          have z2 : ¬ (ib x = 0) := by intro h; exact hx (ib_inj (h.trans rfl))
          clear hiff hN hx
          go_wp2
          go_ret
          exact ⟨rfl, HW.out⟩
  · have hq' : q = false := by
      rw [hq, beq_eq_false_iff_ne]
      intro h
      have := congrArg List.length h
      rw [bts_length, bts_length] at this
      omega
    subst hq'
    have e1 : ¬ ((n : Int) = (m : Int)) := by omega
    have es : (s.size : Int) = (n : Int) := by omega
    have et : (t.size : Int) = (m : Int) := by omega
    clear hn hm hq hs _ht hnm
    go_enter Tryd.func29, Tryd.ntmps29
    go_wp2
    go_ret
    exact ⟨rfl, Below.refl _ _⟩
end Go.Proofs.YtjlmhpokamdkhaaDoor
