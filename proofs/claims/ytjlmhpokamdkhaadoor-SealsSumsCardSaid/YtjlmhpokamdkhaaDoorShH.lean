/- Sums: what is left is taken in, and what closes all. -/
import Derived.Test.YtjlmhpokamdkhaaDoorShE
import Derived.Test.YtjlmhpokamdkhaaDoorShG
import Derived.Test.YtjlmhpokamdkhaaDoorShM
namespace Go.Proofs.YtjlmhpokamdkhaaDoor
open Go Go.Proofs Go.RowKit Go.Shelf

attribute [local go_sem] Oper.semAt_some
/-- The slice value v reads as the bytes l. -/
def RdB (W : World) (v : Value) (l : List UInt8) : Prop := ∃ a cap, v = .slice a l.length cap ∧ l.length ≤ cap ∧ (0 < l.length → ∃ b off, a = some ⟨b, off, none⟩ ∧ b < W.heap.size ∧ ∀ j, j < l.length → W.cell? ⟨b, off + j, none⟩ = some (bv (l.getD j 0)))
theorem RdB.below {W W' : World} {v : Value} {l : List UInt8} (h : RdB W v l) (hb : Below W.heap.size W W') : RdB W' v l := by
  obtain ⟨a, cap, e, hc, h⟩ := h
  refine ⟨a, cap, e, hc, fun hl => ?_⟩
  obtain ⟨b, off, ea, hlt, hcell⟩ := h hl
  exact ⟨b, off, ea, Nat.lt_of_lt_of_le hlt hb.size, fun j hj => (hb.cell (p := ⟨b, off + j, none⟩) hlt).trans (hcell j hj)⟩
theorem RdB.form {W : World} {v : Value} {l : List UInt8} (h : RdB W v l) : ∃ a cap, v = .slice a l.length cap ∧ l.length ≤ cap := by
  obtain ⟨a, cap, e, hc, _⟩ := h; exact ⟨a, cap, e, hc⟩

theorem info_u8 : (Tryd.prog.info? 5).map (·.size) = some 1 := by kernel_rfl
theorem getD_take (l : List UInt8) (n j : Nat) (v : Value) (h : ((l.take n).map bv)[j]? = some v) : j < l.length ∧ v = bv (l.getD j 0) := by
  rw [List.getElem?_map, List.getElem?_take] at h
  split at h
  · cases hj : l[j]? with
    | none => rw [hj] at h; simp at h
    | some c =>
      rw [hj] at h
      simp only [Option.map_some, Option.some.injEq] at h
      refine ⟨(List.getElem?_eq_some_iff.1 hj).1, ?_⟩
      rw [List.getD_eq_getElem?_getD, hj, ← h]; rfl
  · simp at h
theorem copy_run {W : World} {g n : Nat} {T : TypeId} {z l : List UInt8} {p : Option Addr} {cap : Nat} (hz : z.length = n) (hg : Row W g T (z.map bv)) (hR : RdB W (.slice p l.length cap) l) :
    (Builtin.copy_ #[22, 22] 3 #[.slice (some ⟨g, 0, none⟩) n n, .slice p l.length cap]).run Tryd.prog W = .ok (.int .i64 ((min l.length n : Nat) : Int)) (W.setRow g ((l.take n ++ z.drop (min l.length n)).map bv).toArray) := by
  by_cases h0 : min l.length n = 0
  · have e : l.take n ++ z.drop (min l.length n) = z := by
      rw [h0, List.drop_zero]
      rcases Nat.eq_zero_or_pos n with hn | hn
      · rw [hn, List.take_zero, List.nil_append]
      · have : l = [] := List.eq_nil_of_length_eq_zero (by omega)
        rw [this]; simp
    rw [e, setRow_self W g _ T (0, 0) hg]
    have := run_copy_none (P := Tryd.prog) W 22 22 3 5 (some ⟨g, 0, none⟩) p n n l.length cap Tryd.underlying22 info_u8 h0
    rw [this, h0]; rfl
  · obtain ⟨a, cap', e, hc, h⟩ := hR
    obtain ⟨b, off, ea, hlt, hcell⟩ := h (by omega)
    cases e
    subst ea
    have := run_copy_row (P := Tryd.prog) W 22 22 3 5 g 0 n n ⟨b, off, none⟩ l.length cap (z.map bv).toArray T ((l.take n).map bv) Tryd.underlying22 info_u8 hg (by rw [List.length_map, List.length_take]; exact Nat.min_comm _ _) (fun j v hv => by
      obtain ⟨hj, rfl⟩ := getD_take l n j v hv
      rw [Addr.add_lit]
      exact hcell j hj) (by simp [hz]; omega) (one_bv' _)
    rw [this]
    congr 1
    · unfold goInt
      rw [List.length_map, List.length_take, Nat.min_comm]
    · congr 1
      simp [Nat.min_comm]
theorem RdB.drop {W : World} {a : Option Addr} {cap : Nat} {b : List UInt8} (h : RdB W (.slice a b.length cap) b) (_h64 : 64 ≤ b.length) : RdB W (.slice (Option.map (fun x => ({ block := x.block, off := x.off + 64 } : Addr)) a) (b.length - 64) (cap - 64)) (b.drop 64) := by
  obtain ⟨a', cap', e, hc, h⟩ := h
  cases e
  refine ⟨_, _, by rw [List.length_drop], by rw [List.length_drop]; omega, fun hl => ?_⟩
  rw [List.length_drop] at hl
  obtain ⟨p, off, ea, hlt, hcell⟩ := h (by omega)
  subst ea
  refine ⟨p, off + 64, rfl, hlt, fun j hj => ?_⟩
  rw [List.length_drop] at hj
  have := hcell (64 + j) (by omega)
  rw [List.getD_eq_getElem?_getD, ← List.getElem?_drop, ← List.getD_eq_getElem?_getD] at this
  rw [show off + 64 + j = off + (64 + j) by omega]
  exact this
theorem RdB.none {W : World} {a : Option Addr} {cap : Nat} {b : List UInt8} (h : b.length = 64) : RdB W (.slice a (b.length - 64) cap) (b.drop 64) :=
  ⟨a, cap, by rw [List.length_drop], by rw [List.length_drop]; omega, fun hl => by rw [List.length_drop] at hl; omega⟩
theorem close_lt {n : Nat} {s : St} {b : List UInt8} (h : ¬ 56 ≤ b.length) : Sh.close n s b = Sh.outB (Sh.comp s ((b ++ 128 :: List.replicate (63 - b.length) 0).take 56 ++ Sh.lenB n)) := by
  unfold Sh.close
  rw [if_neg h]
  congr 3
  rw [List.take_append, List.take_of_length_le (by omega), show 56 - b.length = (55 - b.length) + 1 by omega, List.take_succ_cons, List.take_replicate, show min (55 - b.length) (63 - b.length) = 55 - b.length by omega]
theorem close_ge {n : Nat} {s : St} {b : List UInt8} (h : 56 ≤ b.length) : Sh.close n s b = Sh.outB (Sh.comp (Sh.comp s (b ++ 128 :: List.replicate (63 - b.length) 0)) ((List.replicate 64 (0 : UInt8)).take 56 ++ Sh.lenB n)) := by
  unfold Sh.close
  rw [if_pos h, List.take_replicate]
  rfl
set_option maxRecDepth 100000
set_option maxHeartbeats 4000000 in
theorem finish_any (s : St) (n : Nat) (l : List UInt8) (v : Value) (w : World) (hn : n ≤ 1000000) (hl : l.length ≤ 1000000) (hR : RdB w v l) (hC : HasC w) :
    Calls Tryd.prog 21 #[.agg ((Sh.list s).map uv).toArray, .int .i64 (n : Int), v] w fun e w' => e = .returned (.agg ((Sh.fin (8 * (n + l.length)) s l).map bv).toArray) ∧ Below w.heap.size w w' := by
  obtain ⟨a, cap, rfl, hcap⟩ := hR.form
  have HR := Lib.hid hR
  obtain ⟨m, hm⟩ : ∃ m, m = l.length := ⟨_, rfl⟩
  have HL := Lib.hid hm
  obtain ⟨N, hN⟩ : ∃ N, N = 8 * (n + m) := ⟨_, rfl⟩
  have c1 : IntKind.u64.wrap (n : Int) = (n : Int) := by rw [IntKind.wrap_u64]; omega
  have c2 : IntKind.u64.wrap (m : Int) = (m : Int) := by rw [IntKind.wrap_u64]; omega
  have c3 : IntKind.u64.wrap ((n : Int) + (m : Int)) = ((n + m : Nat) : Int) := by rw [IntKind.wrap_u64]; omega
  have c4 : IntKind.u64.wrap (8 * ((n + m : Nat) : Int)) = (N : Int) := by rw [IntKind.wrap_u64]; omega
  have HN := Lib.hid hN
  rw [← hm, ← hN]
  rw [← hm] at hcap hl
  obtain ⟨A, hA⟩ : ∃ A, A = ((Sh.list s).map uv).toArray := ⟨_, rfl⟩
  have HA := Lib.hid hA
  rw [← hA]
  clear hA hN hR hm
  go_enter Tryd.func21, Tryd.ntmps21
  go_wp2
  have e8 : 8 * ((n : Int) + (m : Int)) = (N : Int) := by have := HN.out; omega
  rw [e8]
  obtain ⟨B1, hB1⟩ : ∃ B, B = w.heap.size := ⟨_, rfl⟩
  obtain ⟨B2, hB2⟩ : ∃ B, B = w.heap.size + 1 := ⟨_, rfl⟩
  obtain ⟨B3, hB3⟩ : ∃ B, B = w.heap.size + 1 + 1 := ⟨_, rfl⟩
  rw [← hB3, ← hB2, ← hB1]
  have h12 : B1 ≠ B2 := by omega
  have h13 : B1 ≠ B3 := by omega
  have h23 : B2 ≠ B3 := by omega
  have HB := Lib.hid (show w.heap.size = B1 ∧ B2 = w.heap.size + 1 ∧ B3 = w.heap.size + 1 + 1 from ⟨hB1.symm, hB2, hB3⟩)
  have hC := Lib.hid hC
  clear e8 c1 c2 c3 c4
  go_loopg [2] (m / 64) (fun g x wr => ∃ (b : List UInt8) (a : Option Addr) (cap : Nat) (S : St), x = .slice a b.length cap ∧ b.length / 64 = g ∧ b.length ≤ 1000000 ∧ b.length ≤ cap ∧ Hid (RdB w (.slice a b.length cap) b) ∧ Hid (Sh.finN N g S b = Sh.fin N s l) ∧ Hid (Row wr B1 42 ((Sh.list S).map uv) ∧ Row wr B2 24 (List.replicate 32 (bv 0)) ∧ (∃ z : List UInt8, z.length = 64 ∧ Row wr B3 44 (z.map bv)) ∧ Below w.heap.size w wr))
  case atStart =>
    subst hB1 hB2 hB3
    have hm := HL.out
    refine ⟨l, a, cap, s, by rw [hm], by rw [hm], by omega, by omega, HR, Lib.hid (by rw [hm]; rfl), Lib.hid ⟨?_, (Row.new1 w _ _ (List.replicate 32 (bv 0))).alloc _, ⟨List.replicate 64 0, by simp, Row.new2 w _ _ _ (List.replicate 64 (bv 0))⟩, (((Below.refl _ _).alloc (Nat.le_refl _) _).alloc (by simp) _).alloc (by simp; omega) _⟩⟩
    rw [HA.out]
    exact ((Row.new w _ ((Sh.list s).map uv)).alloc _).alloc _
  case round =>
    clear hB1 hB2 hB3 HR
    obtain ⟨b, a, cap, S, rfl, hg, hbl, hbc, HR, HF, HU⟩ := hrel
    have HG := Lib.hid hg
    clear hg
    by_cases hge : 64 ≤ b.length
    · obtain ⟨k, hk⟩ : ∃ k, k = b.length := ⟨_, rfl⟩
      have HK := Lib.hid hk
      have i0 : (64 : Int) ≤ (k : Int) := by omega
      have i1 : (k : Int) ≤ (cap : Int) := by omega
      have i2 : (64 : Int) ≤ (cap : Int) := by omega
      have i3 : ¬ k < 64 := by omega
      obtain ⟨z, hz, HZ⟩ := HU.out.2.2.1
      have hcp := copy_run hz HZ (HR.out.below HU.out.2.2.2)
      rw [show min b.length 64 = 64 by omega, show ((64 : Nat) : Int) = 64 from rfl, List.drop_of_length_le (by omega), List.append_nil, ← hk] at hcp
      obtain ⟨L3, hL3⟩ : ∃ L, L = ((b.take 64).map bv).toArray := ⟨_, rfl⟩
      obtain ⟨SA, hSA⟩ : ∃ L, L = ((Sh.list S).map uv).toArray := ⟨_, rfl⟩
      obtain ⟨SB, hSB⟩ : ∃ L, L = ((Sh.list (Sh.comp S (b.take 64))).map uv).toArray := ⟨_, rfl⟩
      rw [← hL3] at hcp
      obtain ⟨w3, hw3⟩ : ∃ W, W = wr.setRow B3 L3 := ⟨_, rfl⟩
      rw [← hw3] at hcp
      have hle : w.heap.size ≤ B3 := by have := HB.out; omega
      have hb3 : Below w.heap.size w w3 := by rw [hw3]; exact below_setRow HU.out.2.2.2 hle _
      have g1 := Lib.hid (show w3.heap[B1]? = some (.cells SA 42 (0, 0)) by rw [hw3, hSA]; exact HU.out.1.aside h13 _)
      have g3 := Lib.hid (show w3.heap[B3]? = some (.cells L3 44 (0, 0)) by rw [hw3, hL3]; exact HZ.setRow _)
      have g2 := Lib.hid (show Row w3 B2 24 (List.replicate 32 (bv 0)) by rw [hw3]; exact HU.out.2.1.aside h23 _)
      have KT := Lib.hid (show Calls Tryd.prog 23 #[.agg SA, .agg L3] w3 fun e w' => e = .returned (.agg SB) ∧ Below w3.heap.size w3 w' by
        rw [hSA, hL3, hSB]; exact taken_any S (b.take 64) (by rw [List.length_take]; omega) w3 (hC.out.below hC.out.lt hb3))
      have HL3 := Lib.hid (show L3 = ((b.take 64).map bv).toArray ∧ SB = ((Sh.list (Sh.comp S (b.take 64))).map uv).toArray ∧ Below w.heap.size w w3 ∧ L3.size = 64 ∧ SA.size = 8 ∧ SB.size = 8 ∧ SB.all (·.oneCell') = true from ⟨hL3, hSB, hb3, by rw [hL3]; simp; omega, by rw [hSA]; rfl, by rw [hSB]; rfl, by rw [hSB]; exact one_uv _⟩)
      have HSA := Lib.hid hSA
      rw [← hk] at hbc hbl hge ⊢
      clear hk hw3 hb3 hL3 hSA hSB HZ hz hle
      go_wp2_with (first
        | (refine wpList_load_row rfl 42 _ rfl B1 rfl 42 SA (0, 0) _ g1.out Tryd.underlying42 rfl (by rw [HL3.out.2.2.2.2.1]; exact info_n) ?_)
        | (refine wpList_load_row rfl 44 _ rfl B3 rfl 44 L3 (0, 0) _ g3.out Tryd.underlying44 rfl (by rw [HL3.out.2.2.2.1]; exact info_b) ?_)
        | (go_at_call 23; refine KT.out.mono ?_; rintro e w4 ⟨rfl, hb4⟩; have hb4 := Lib.hid hb4)
        | (refine wpList_store_row rfl 42 _ _ rfl B1 SB rfl rfl 42 SA (heap_b g1.out (Array.getElem?_eq_some_iff.1 g1.out).1 hb4.out) (by rw [HL3.out.2.2.2.2.2.1]; exact info_n) (by rw [HL3.out.2.2.2.2.1, HL3.out.2.2.2.2.2.1]) HL3.out.2.2.2.2.2.2 ?_))
      · have hk := HK.out
        clear hk
        go_roundg (gk - 1)
        case measure => have := HG.out; have := HK.out; omega
        case rel =>
          have hk := HK.out
          have hG := HG.out
          refine ⟨b.drop 64, _, _, Sh.comp S (b.take 64), by rw [List.length_drop, ← hk], by rw [List.length_drop]; omega, by rw [List.length_drop]; omega, by rw [List.length_drop]; omega, Lib.hid ?_, Lib.hid ?_, Lib.hid ⟨?_, ?_, ⟨b.take 64, by rw [List.length_take]; omega, ?_⟩, ?_⟩⟩
          · rw [List.length_drop]; exact RdB.none (by omega)
          · rw [← HF.out]
            obtain ⟨q, hq⟩ : ∃ q, gk = q + 1 := ⟨gk - 1, by omega⟩
            subst hq
            rfl
          · rw [HL3.out.2.1]
            exact Row.setRow (l := (Sh.list S).map uv) (show Row w4 B1 42 _ from by have := heap_b g1.out (Array.getElem?_eq_some_iff.1 g1.out).1 hb4.out; rw [show SA = ((Sh.list S).map uv).toArray from HSA.out] at this; exact this) _
          · exact (g2.out.below hb4.out g2.out.lt).aside h12.symm _
          · have e := heap_b g3.out (Array.getElem?_eq_some_iff.1 g3.out).1 hb4.out
            rw [HL3.out.1] at e
            exact (show Row w4 B3 44 ((b.take 64).map bv) from e).aside h13.symm _
          · exact below_setRow (HL3.out.2.2.1.trans (hb4.out.mono HL3.out.2.2.1.size)) (by have := HB.out; omega) _
      · have hk := HK.out
        clear hk
        go_roundg (gk - 1)
        case measure => have := HG.out; have := HK.out; omega
        case rel =>
          have hk := HK.out
          have hG := HG.out
          refine ⟨b.drop 64, _, _, Sh.comp S (b.take 64), by rw [List.length_drop, ← hk], by rw [List.length_drop]; omega, by rw [List.length_drop]; omega, by rw [List.length_drop]; omega, Lib.hid ?_, Lib.hid ?_, Lib.hid ⟨?_, ?_, ⟨b.take 64, by rw [List.length_take]; omega, ?_⟩, ?_⟩⟩
          · rw [List.length_drop]; exact HR.out.drop (by omega)
          · rw [← HF.out]
            obtain ⟨q, hq⟩ : ∃ q, gk = q + 1 := ⟨gk - 1, by omega⟩
            subst hq
            rfl
          · rw [HL3.out.2.1]
            exact Row.setRow (l := (Sh.list S).map uv) (show Row w4 B1 42 _ from by have := heap_b g1.out (Array.getElem?_eq_some_iff.1 g1.out).1 hb4.out; rw [show SA = ((Sh.list S).map uv).toArray from HSA.out] at this; exact this) _
          · exact (g2.out.below hb4.out g2.out.lt).aside h12.symm _
          · have e := heap_b g3.out (Array.getElem?_eq_some_iff.1 g3.out).1 hb4.out
            rw [HL3.out.1] at e
            exact (show Row w4 B3 44 ((b.take 64).map bv) from e).aside h13.symm _
          · exact below_setRow (HL3.out.2.2.1.trans (hb4.out.mono HL3.out.2.2.1.size)) (by have := HB.out; omega) _
    · have hlt : b.length < 64 := by omega
      obtain ⟨k, hk⟩ : ∃ k, k = b.length := ⟨_, rfl⟩
      have hG := HG.out
      have hgk : gk = 0 := by omega
      have HF' := Lib.hid (show Sh.close N S b = Sh.fin N s l by rw [← HF.out, hgk]; rfl)
      have hR' : RdB (wr.alloc (.cells ((List.replicate 64 (0 : UInt8)).map bv).toArray 44)) (.slice a b.length cap) b := (HR.out.below HU.out.2.2.2).below ((Below.refl _ _).alloc (Nat.le_refl _) _)
      obtain ⟨LZ, hLZ⟩ : ∃ L, L = ((b ++ List.replicate (64 - b.length) (0 : UInt8)).map bv).toArray := ⟨_, rfl⟩
      have hcp := copy_run (n := 64) (by simp) (Row.new wr 44 ((List.replicate 64 (0 : UInt8)).map bv)) hR'
      rw [show min b.length 64 = b.length by omega, List.take_of_length_le (by omega), List.drop_replicate, ← hLZ, World.setRow_alloc_new, ← hk] at hcp
      have hcp : (Builtin.copy_ #[22, 22] 3 #[.slice (some ⟨wr.heap.size, 0, none⟩) 64 64, .slice a k cap]).run Tryd.prog (wr.alloc (.cells #[.int .u8 0, .int .u8 0, .int .u8 0, .int .u8 0, .int .u8 0, .int .u8 0, .int .u8 0, .int .u8 0, .int .u8 0, .int .u8 0, .int .u8 0, .int .u8 0, .int .u8 0, .int .u8 0, .int .u8 0, .int .u8 0, .int .u8 0, .int .u8 0, .int .u8 0, .int .u8 0, .int .u8 0, .int .u8 0, .int .u8 0, .int .u8 0, .int .u8 0, .int .u8 0, .int .u8 0, .int .u8 0, .int .u8 0, .int .u8 0, .int .u8 0, .int .u8 0, .int .u8 0, .int .u8 0, .int .u8 0, .int .u8 0, .int .u8 0, .int .u8 0, .int .u8 0, .int .u8 0, .int .u8 0, .int .u8 0, .int .u8 0, .int .u8 0, .int .u8 0, .int .u8 0, .int .u8 0, .int .u8 0, .int .u8 0, .int .u8 0, .int .u8 0, .int .u8 0, .int .u8 0, .int .u8 0, .int .u8 0, .int .u8 0, .int .u8 0, .int .u8 0, .int .u8 0, .int .u8 0, .int .u8 0, .int .u8 0, .int .u8 0, .int .u8 0] 44)) = .ok (.int .i64 (k : Int)) (wr.alloc (.cells LZ 44)) := hcp
      have i0 : (0 : Int) ≤ (k : Int) := by omega
      have i1 : (k : Int) < (64 : Int) := by omega
      have i2 : ¬ (64 : Int) ≤ (k : Int) := by omega
      have r9 : Row (wr.alloc (.cells LZ 44)) wr.heap.size 44 ((b ++ List.replicate (64 - b.length) (0 : UInt8)).map bv) := by rw [hLZ]; exact Row.new _ _ _
      have fr := r9.frozen k
      have cz := r9.cell k (.int .u8 0) (by rw [List.getElem?_map, List.getElem?_append_right (by omega), hk, Nat.sub_self, List.getElem?_replicate, if_pos (by omega)]; rfl)
      obtain ⟨BK, hBK⟩ : ∃ B : List UInt8, B = b ++ 128 :: List.replicate (63 - b.length) 0 := ⟨_, rfl⟩
      have hBKl : BK.length = 64 := by rw [hBK]; simp; omega
      obtain ⟨LQ, hLQ⟩ : ∃ L, L = (BK.map bv).toArray := ⟨_, rfl⟩
      have eLQ : LZ.setIfInBounds k (.int .u8 128) = LQ := by
        have e2 : ((b ++ List.replicate (63 - b.length + 1) (0 : UInt8)).map bv).set b.length (bv 128) = (b ++ 128 :: List.replicate (63 - b.length) (0 : UInt8)).map bv := by
          rw [← List.map_set, List.replicate_succ, List.set_append_right _ _ (Nat.le_refl _), Nat.sub_self, List.set_cons_zero]
        rw [hLQ, hBK, ← e2, hLZ, hk, show 64 - b.length = (63 - b.length) + 1 by omega, List.setIfInBounds_toArray]; rfl
      have HLQ := Lib.hid (show LQ = (BK.map bv).toArray ∧ BK = b ++ 128 :: List.replicate (63 - b.length) 0 ∧ BK.length = 64 from ⟨hLQ, hBK, hBKl⟩)
      clear hLQ hBK hBKl
      have HK := Lib.hid hk
      have HG2 := Lib.hid hlt
      rw [← hk]
      clear hk hR' hLZ r9 hG hgk hge hbl hbc hlt
      have h19 : B1 ≠ wr.heap.size := by have := HU.out.1.lt; omega
      have h29 : B2 ≠ wr.heap.size := by have := HU.out.2.1.lt; omega
      by_cases h56 : 56 ≤ k
      · have i3 : (56 : Int) ≤ (k : Int) := by omega
        obtain ⟨SA, hSA⟩ : ∃ L, L = ((Sh.list S).map uv).toArray := ⟨_, rfl⟩
        obtain ⟨SB, hSB⟩ : ∃ L, L = ((Sh.list (Sh.comp S BK)).map uv).toArray := ⟨_, rfl⟩
        have hbV : Below w.heap.size w (wr.alloc (.cells LQ 44)) := HU.out.2.2.2.alloc HU.out.2.2.2.size _
        have g1 := Lib.hid (show (wr.alloc (.cells LQ 44)).heap[B1]? = some (.cells SA 42 (0, 0)) by rw [hSA]; exact HU.out.1.alloc _)
        have g9 := Lib.hid (heap_n0 wr LQ 44)
        have KT := Lib.hid (show Calls Tryd.prog 23 #[.agg SA, .agg LQ] (wr.alloc (.cells LQ 44)) fun e w' => e = .returned (.agg SB) ∧ Below (wr.alloc (.cells LQ 44)).heap.size (wr.alloc (.cells LQ 44)) w' by
          have hh := hC.out.below hC.out.lt hbV
          rw [hSA, hSB, HLQ.out.1]
          rw [HLQ.out.1] at hh
          exact taken_any S BK HLQ.out.2.2 _ hh)
        have HS3 := Lib.hid (show SB = ((Sh.list (Sh.comp S BK)).map uv).toArray ∧ SA.size = 8 ∧ SB.size = 8 ∧ SB.all (·.oneCell') = true ∧ LQ.size = 64 ∧ SA = ((Sh.list S).map uv).toArray from ⟨hSB, by rw [hSA]; rfl, by rw [hSB]; rfl, by rw [hSB]; exact one_uv _, by rw [HLQ.out.1]; simpa using HLQ.out.2.2, hSA⟩)
        have hbV := Lib.hid hbV
        clear hSA hSB
        go_wp2_with (first
          | (refine wpList_load_row rfl 42 _ rfl B1 rfl 42 SA (0, 0) _ g1.out Tryd.underlying42 rfl (by rw [HS3.out.2.1]; exact info_n) ?_)
          | (refine wpList_load_row rfl 44 _ rfl wr.heap.size rfl 44 LQ (0, 0) _ g9.out Tryd.underlying44 rfl (by rw [HS3.out.2.2.2.2.1]; exact info_b) ?_)
          | (go_at_call 23; refine KT.out.mono ?_; rintro e w4 ⟨rfl, hb4⟩; have hb4 := Lib.hid hb4)
          | (refine wpList_store_row rfl 42 _ _ rfl B1 SB rfl rfl 42 SA (heap_b g1.out (Array.getElem?_eq_some_iff.1 g1.out).1 hb4.out) (by rw [HS3.out.2.2.1]; exact info_n) (by rw [HS3.out.2.1, HS3.out.2.2.1]) HS3.out.2.2.2.1 ?_)
          | (refine wpList_store_row rfl 44 _ _ rfl wr.heap.size #[.int .u8 0, .int .u8 0, .int .u8 0, .int .u8 0, .int .u8 0, .int .u8 0, .int .u8 0, .int .u8 0, .int .u8 0, .int .u8 0, .int .u8 0, .int .u8 0, .int .u8 0, .int .u8 0, .int .u8 0, .int .u8 0, .int .u8 0, .int .u8 0, .int .u8 0, .int .u8 0, .int .u8 0, .int .u8 0, .int .u8 0, .int .u8 0, .int .u8 0, .int .u8 0, .int .u8 0, .int .u8 0, .int .u8 0, .int .u8 0, .int .u8 0, .int .u8 0, .int .u8 0, .int .u8 0, .int .u8 0, .int .u8 0, .int .u8 0, .int .u8 0, .int .u8 0, .int .u8 0, .int .u8 0, .int .u8 0, .int .u8 0, .int .u8 0, .int .u8 0, .int .u8 0, .int .u8 0, .int .u8 0, .int .u8 0, .int .u8 0, .int .u8 0, .int .u8 0, .int .u8 0, .int .u8 0, .int .u8 0, .int .u8 0, .int .u8 0, .int .u8 0, .int .u8 0, .int .u8 0, .int .u8 0, .int .u8 0, .int .u8 0, .int .u8 0] rfl rfl 44 LQ ((_root_.Go.setRow_other w4 B1 wr.heap.size SB h19.symm).trans (heap_b g9.out (Array.getElem?_eq_some_iff.1 g9.out).1 hb4.out)) info_b (by rw [HS3.out.2.2.2.2.1]; rfl) (by kernel_rfl) ?_))
        obtain ⟨u, hu⟩ : ∃ u, u = (w4.setRow B1 SB).setRow wr.heap.size #[.int .u8 0, .int .u8 0, .int .u8 0, .int .u8 0, .int .u8 0, .int .u8 0, .int .u8 0, .int .u8 0, .int .u8 0, .int .u8 0, .int .u8 0, .int .u8 0, .int .u8 0, .int .u8 0, .int .u8 0, .int .u8 0, .int .u8 0, .int .u8 0, .int .u8 0, .int .u8 0, .int .u8 0, .int .u8 0, .int .u8 0, .int .u8 0, .int .u8 0, .int .u8 0, .int .u8 0, .int .u8 0, .int .u8 0, .int .u8 0, .int .u8 0, .int .u8 0, .int .u8 0, .int .u8 0, .int .u8 0, .int .u8 0, .int .u8 0, .int .u8 0, .int .u8 0, .int .u8 0, .int .u8 0, .int .u8 0, .int .u8 0, .int .u8 0, .int .u8 0, .int .u8 0, .int .u8 0, .int .u8 0, .int .u8 0, .int .u8 0, .int .u8 0, .int .u8 0, .int .u8 0, .int .u8 0, .int .u8 0, .int .u8 0, .int .u8 0, .int .u8 0, .int .u8 0, .int .u8 0, .int .u8 0, .int .u8 0, .int .u8 0, .int .u8 0] := ⟨_, rfl⟩
        obtain ⟨S', hS'⟩ : ∃ S', S' = Sh.comp S BK := ⟨_, rfl⟩
        obtain ⟨CK, hCK⟩ : ∃ C : List UInt8, C = List.replicate 64 0 := ⟨_, rfl⟩
        obtain ⟨B9, hB9⟩ : ∃ B, B = wr.heap.size := ⟨_, rfl⟩
        have hb4' : Below w.heap.size w w4 := hbV.out.trans (hb4.out.mono hbV.out.size)
        have HT := Lib.hid (show Row u B1 42 ((Sh.list S').map uv) ∧ Row u B9 44 (CK.map bv) ∧ Row u B2 24 (List.replicate 32 (bv 0)) ∧ Below w.heap.size w u ∧ CK.length = 64 ∧ Sh.outB (Sh.comp S' (CK.take 56 ++ Sh.lenB N)) = Sh.fin N s l by
          subst hu hS' hCK hB9
          refine ⟨?_, ?_, ?_, ?_, by simp, ?_⟩
          · have e := heap_b g1.out (Array.getElem?_eq_some_iff.1 g1.out).1 hb4.out
            rw [HS3.out.2.2.2.2.2] at e
            rw [HS3.out.1]
            exact ((show Row w4 B1 42 ((Sh.list S).map uv) from e).setRow _).aside h19 _
          · have e := heap_b g9.out (Array.getElem?_eq_some_iff.1 g9.out).1 hb4.out
            rw [HLQ.out.1] at e
            exact Row.setRow (l := BK.map bv) (Row.aside (show Row w4 wr.heap.size 44 (BK.map bv) from e) h19.symm _) ((List.replicate 64 (0 : UInt8)).map bv)
          · exact (((HU.out.2.1.alloc _).below hb4.out (HU.out.2.1.alloc _).lt).aside h12.symm _).aside h29 _
          · exact below_setRow (below_setRow hb4' (by have := HB.out; omega) _) HU.out.2.2.2.size _
          · rw [HLQ.out.2.1, ← close_ge (by have := HK.out; omega)]; exact HF'.out)
        rw [← hu, ← hB9]
        have hS9 : B1 ≠ B9 ∧ B2 ≠ B9 := ⟨by omega, by omega⟩
        clear hu hS' hCK hB9 g1 g9 KT HS3 hb4 hb4' hbV HU
        clear hcp fr cz HF HF' HR h19 h29 eLQ
        obtain ⟨h19, h29⟩ := hS9
        have hu1 := HT.out.1.lt
        have hu9 := HT.out.2.1.lt
        have hu2 := HT.out.2.2.1.lt
        obtain ⟨CS, hCS⟩ : ∃ C, C = CK.map bv := ⟨_, rfl⟩
        obtain ⟨XB, hXB⟩ : ∃ X : List UInt8, X = CK.take 56 ++ Sh.lenB N := ⟨_, rfl⟩
        have hXl : XB.length = 64 := by rw [hXB]; simp [Sh.length_lenB, HT.out.2.2.2.2.1]
        obtain ⟨XA, hXA⟩ : ∃ X, X = (XB.map bv).toArray := ⟨_, rfl⟩
        obtain ⟨YA, hYA⟩ : ∃ X, X = ((Sh.list (Sh.comp S' XB)).map uv).toArray := ⟨_, rfl⟩
        obtain ⟨OL, hOL⟩ : ∃ X, X = (Sh.outB (Sh.comp S' XB)).map bv := ⟨_, rfl⟩
        have HD := Lib.hid (show ∀ W : World, Below u.heap.size u W → F12 W B1 B9 B2 S' CS from fun W hW => (F12.rows HT.out.1 (by rw [hCS]; exact HT.out.2.1) HT.out.2.2.1 (by simp)).below hu1 hu9 hu2 hW)
        have KW := Lib.hid (show ∀ W, Calls Tryd.prog 31 #[.agg CS.toArray, .int .u64 (N : Int)] W fun e w' => e = .returned (.agg XA) ∧ Below W.heap.size W w' by
          intro W; rw [hCS, hXA, hXB]; exact withLength_any CK N HT.out.2.2.2.2.1 (by have := HN.out; have := HL.out; omega) W)
        have KT := Lib.hid (show ∀ W, HasC W → Calls Tryd.prog 23 #[.agg #[.int .u32 (iu S'.a), .int .u32 (iu S'.b), .int .u32 (iu S'.c), .int .u32 (iu S'.d), .int .u32 (iu S'.e), .int .u32 (iu S'.f), .int .u32 (iu S'.g), .int .u32 (iu S'.h)], .agg XA] W fun e w' => e = .returned (.agg YA) ∧ Below W.heap.size W w' by
          intro W hW; rw [hXA, hYA]; exact taken_any S' XB hXl W hW)
        have KD := Lib.hid (show ∀ W, Calls Tryd.prog 30 #[.agg YA] W fun e w' => e = .returned (.agg OL.toArray) ∧ Below W.heap.size W w' by
          intro W; rw [hYA, hOL]; exact told_any _ W)
        have HO := Lib.hid (show OL = (Sh.fin N s l).map bv by rw [hOL, hXB, HT.out.2.2.2.2.2])
        have hC2 := Lib.hid (hC.out.below hC.out.lt HT.out.2.2.2.1)
        have p1 := Tryd.underlying44
        have p2 : (Tryd.prog.info? 44).map (·.size) = some CS.length := by rw [hCS, List.length_map, HT.out.2.2.2.2.1]; exact info_b
        have p3 : CS.length = 64 := by rw [hCS, List.length_map, HT.out.2.2.2.2.1]
        have q1 : ∀ v ∈ OL, v.oneCell' = true := by rw [hOL]; exact one_bv' _
        have q2 : (Tryd.prog.info? 24).map (·.size) = some OL.length := by rw [hOL, List.length_map, Sh.length_outB]; exact info_s
        have q3 : OL.length = 32 := by rw [hOL, List.length_map, Sh.length_outB]
        have q4 := Tryd.underlying24
        clear hCS hXB hXl hXA hYA hOL
        go_region_held3 (fun W => W.cell? ⟨B1, 0, none⟩ = some (.int .u32 (iu S'.a)) ∧ W.cell? ⟨B1, 1, none⟩ = some (.int .u32 (iu S'.b)) ∧ W.cell? ⟨B1, 2, none⟩ = some (.int .u32 (iu S'.c)) ∧ W.cell? ⟨B1, 3, none⟩ = some (.int .u32 (iu S'.d)) ∧ W.cell? ⟨B1, 4, none⟩ = some (.int .u32 (iu S'.e)) ∧ W.cell? ⟨B1, 5, none⟩ = some (.int .u32 (iu S'.f)) ∧ W.cell? ⟨B1, 6, none⟩ = some (.int .u32 (iu S'.g)) ∧ W.cell? ⟨B1, 7, none⟩ = some (.int .u32 (iu S'.h)) ∧ W.rangeAt B9 0 CS ∧ W.there B2 0 32)
          (first
            | (with_reducible exact F12.un (HD.out _ hc.out))
            | (with_reducible exact F12.un (HD.out _ hb.out))
            | (with_reducible exact F12.un (HD.out _ ha.out))
            | (with_reducible exact F12.un ((HD.out _ hc.out).set h12 h29.symm _))
            | (exact F12.un (HD.out u.drew (Below.refl _ _).drew))
            | fail)
          (first
            | (go_at_call 31; (with_reducible refine (KW.out _).mono ?_); rintro e wa ⟨rfl, ha⟩; have ha := Lib.hid (show Below u.heap.size u wa from below_of_drew ha))
            | (go_at_call 23; (with_reducible refine (KT.out _ (hC2.out.below hC2.out.lt ha.out)).mono ?_); rintro e wb ⟨rfl, hb⟩; have hb := Lib.hid (ha.out.trans (hb.mono ha.out.size)))
            | (go_at_call 30; (with_reducible refine (KD.out _).mono ?_); rintro e wc ⟨rfl, hc⟩; have hc := Lib.hid (hb.out.trans (hc.mono hb.out.size))))
        go_wp2
        (try simp only [Exit.inBlock, Exit.then])
        have hth : wc.there B2 0 OL.length := by rw [q3]; exact (HD.out _ hc.out).2.2.2.2.2.2.2.2.2
        refine bodyPost_ret (results_cell_mid rfl _ _ B2 OL _ rfl (World.rangeAt_setCells_same wc B2 0 OL hth) q4 rfl q2) rfl ?_
        refine ⟨by rw [HO.out], ?_⟩
        exact below_setCells (show w.heap.size ≤ B2 by have := HB.out; omega) OL 0 wc (HT.out.2.2.2.1.trans (hc.out.mono HT.out.2.2.2.1.size))
      · have i3 : ¬ (56 : Int) ≤ (k : Int) := by omega
        go_wp2
        obtain ⟨u, hu⟩ : ∃ u, u = wr.alloc (.cells LQ 44) := ⟨_, rfl⟩
        obtain ⟨S', hS'⟩ : ∃ S', S' = S := ⟨_, rfl⟩
        obtain ⟨CK, hCK⟩ : ∃ C : List UInt8, C = BK := ⟨_, rfl⟩
        obtain ⟨B9, hB9⟩ : ∃ B, B = wr.heap.size := ⟨_, rfl⟩
        have HT := Lib.hid (show Row u B1 42 ((Sh.list S').map uv) ∧ Row u B9 44 (CK.map bv) ∧ Row u B2 24 (List.replicate 32 (bv 0)) ∧ Below w.heap.size w u ∧ CK.length = 64 ∧ Sh.outB (Sh.comp S' (CK.take 56 ++ Sh.lenB N)) = Sh.fin N s l by
          rw [hS', hCK, hB9, hu]
          refine ⟨HU.out.1.alloc _, ?_, HU.out.2.1.alloc _, HU.out.2.2.2.alloc HU.out.2.2.2.size _, HLQ.out.2.2, ?_⟩
          · rw [HLQ.out.1]; exact Row.new _ _ _
          · rw [HLQ.out.2.1, ← close_lt (by have := HK.out; omega)]; exact HF'.out)
        rw [← hu, ← hB9]
        have hS9 : B1 ≠ B9 ∧ B2 ≠ B9 := ⟨by omega, by omega⟩
        clear hu hS' hCK hB9 HU
        clear hcp fr cz HF HF' HR h19 h29 eLQ
        obtain ⟨h19, h29⟩ := hS9
        have hu1 := HT.out.1.lt
        have hu9 := HT.out.2.1.lt
        have hu2 := HT.out.2.2.1.lt
        obtain ⟨CS, hCS⟩ : ∃ C, C = CK.map bv := ⟨_, rfl⟩
        obtain ⟨XB, hXB⟩ : ∃ X : List UInt8, X = CK.take 56 ++ Sh.lenB N := ⟨_, rfl⟩
        have hXl : XB.length = 64 := by rw [hXB]; simp [Sh.length_lenB, HT.out.2.2.2.2.1]
        obtain ⟨XA, hXA⟩ : ∃ X, X = (XB.map bv).toArray := ⟨_, rfl⟩
        obtain ⟨YA, hYA⟩ : ∃ X, X = ((Sh.list (Sh.comp S' XB)).map uv).toArray := ⟨_, rfl⟩
        obtain ⟨OL, hOL⟩ : ∃ X, X = (Sh.outB (Sh.comp S' XB)).map bv := ⟨_, rfl⟩
        have HD := Lib.hid (show ∀ W : World, Below u.heap.size u W → F12 W B1 B9 B2 S' CS from fun W hW => (F12.rows HT.out.1 (by rw [hCS]; exact HT.out.2.1) HT.out.2.2.1 (by simp)).below hu1 hu9 hu2 hW)
        have KW := Lib.hid (show ∀ W, Calls Tryd.prog 31 #[.agg CS.toArray, .int .u64 (N : Int)] W fun e w' => e = .returned (.agg XA) ∧ Below W.heap.size W w' by
          intro W; rw [hCS, hXA, hXB]; exact withLength_any CK N HT.out.2.2.2.2.1 (by have := HN.out; have := HL.out; omega) W)
        have KT := Lib.hid (show ∀ W, HasC W → Calls Tryd.prog 23 #[.agg #[.int .u32 (iu S'.a), .int .u32 (iu S'.b), .int .u32 (iu S'.c), .int .u32 (iu S'.d), .int .u32 (iu S'.e), .int .u32 (iu S'.f), .int .u32 (iu S'.g), .int .u32 (iu S'.h)], .agg XA] W fun e w' => e = .returned (.agg YA) ∧ Below W.heap.size W w' by
          intro W hW; rw [hXA, hYA]; exact taken_any S' XB hXl W hW)
        have KD := Lib.hid (show ∀ W, Calls Tryd.prog 30 #[.agg YA] W fun e w' => e = .returned (.agg OL.toArray) ∧ Below W.heap.size W w' by
          intro W; rw [hYA, hOL]; exact told_any _ W)
        have HO := Lib.hid (show OL = (Sh.fin N s l).map bv by rw [hOL, hXB, HT.out.2.2.2.2.2])
        have hC2 := Lib.hid (hC.out.below hC.out.lt HT.out.2.2.2.1)
        have p1 := Tryd.underlying44
        have p2 : (Tryd.prog.info? 44).map (·.size) = some CS.length := by rw [hCS, List.length_map, HT.out.2.2.2.2.1]; exact info_b
        have p3 : CS.length = 64 := by rw [hCS, List.length_map, HT.out.2.2.2.2.1]
        have q1 : ∀ v ∈ OL, v.oneCell' = true := by rw [hOL]; exact one_bv' _
        have q2 : (Tryd.prog.info? 24).map (·.size) = some OL.length := by rw [hOL, List.length_map, Sh.length_outB]; exact info_s
        have q3 : OL.length = 32 := by rw [hOL, List.length_map, Sh.length_outB]
        have q4 := Tryd.underlying24
        clear hCS hXB hXl hXA hYA hOL
        go_region_held3 (fun W => W.cell? ⟨B1, 0, none⟩ = some (.int .u32 (iu S'.a)) ∧ W.cell? ⟨B1, 1, none⟩ = some (.int .u32 (iu S'.b)) ∧ W.cell? ⟨B1, 2, none⟩ = some (.int .u32 (iu S'.c)) ∧ W.cell? ⟨B1, 3, none⟩ = some (.int .u32 (iu S'.d)) ∧ W.cell? ⟨B1, 4, none⟩ = some (.int .u32 (iu S'.e)) ∧ W.cell? ⟨B1, 5, none⟩ = some (.int .u32 (iu S'.f)) ∧ W.cell? ⟨B1, 6, none⟩ = some (.int .u32 (iu S'.g)) ∧ W.cell? ⟨B1, 7, none⟩ = some (.int .u32 (iu S'.h)) ∧ W.rangeAt B9 0 CS ∧ W.there B2 0 32)
          (first
            | (with_reducible exact F12.un (HD.out _ hc.out))
            | (with_reducible exact F12.un (HD.out _ hb.out))
            | (with_reducible exact F12.un (HD.out _ ha.out))
            | (with_reducible exact F12.un ((HD.out _ hc.out).set h12 h29.symm _))
            | (exact F12.un (HD.out u.drew (Below.refl _ _).drew))
            | fail)
          (first
            | (go_at_call 31; (with_reducible refine (KW.out _).mono ?_); rintro e wa ⟨rfl, ha⟩; have ha := Lib.hid (show Below u.heap.size u wa from below_of_drew ha))
            | (go_at_call 23; (with_reducible refine (KT.out _ (hC2.out.below hC2.out.lt ha.out)).mono ?_); rintro e wb ⟨rfl, hb⟩; have hb := Lib.hid (ha.out.trans (hb.mono ha.out.size)))
            | (go_at_call 30; (with_reducible refine (KD.out _).mono ?_); rintro e wc ⟨rfl, hc⟩; have hc := Lib.hid (hb.out.trans (hc.mono hb.out.size))))
        go_wp2
        (try simp only [Exit.inBlock, Exit.then])
        have hth : wc.there B2 0 OL.length := by rw [q3]; exact (HD.out _ hc.out).2.2.2.2.2.2.2.2.2
        refine bodyPost_ret (results_cell_mid rfl _ _ B2 OL _ rfl (World.rangeAt_setCells_same wc B2 0 OL hth) q4 rfl q2) rfl ?_
        refine ⟨by rw [HO.out], ?_⟩
        exact below_setCells (show w.heap.size ≤ B2 by have := HB.out; omega) OL 0 wc (HT.out.2.2.2.1.trans (hc.out.mono HT.out.2.2.2.1.size))
end Go.Proofs.YtjlmhpokamdkhaaDoor
