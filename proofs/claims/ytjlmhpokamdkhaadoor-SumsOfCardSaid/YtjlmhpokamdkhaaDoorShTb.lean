/- Sums: the law package's twin of bytes, and whether it is left. -/
import Derived.Test.YtjlmhpokamdkhaaDoorShRe
namespace Go.Proofs.YtjlmhpokamdkhaaDoor
open Go Go.Proofs Go.RowKit Go.Shelf

attribute [local go_sem] Oper.semAt_some
set_option maxRecDepth 100000
/-- a row that holds l, and a spare byte behind it -/
def Twin (W : World) (v : Value) (l : List UInt8) : Prop := ∃ g c, v = .slice (some ⟨g, 0, none⟩) l.length c ∧ l.length + 1 ≤ c ∧ g < W.heap.size ∧ ∀ j, j < l.length + 1 → W.cell? ⟨g, j, none⟩ = some (.int .u8 (ib ((l ++ [77]).getD j 0)))
theorem Twin.below {W W' : World} {v : Value} {l : List UInt8} (h : Twin W v l) (hb : Below W.heap.size W W') : Twin W' v l := by
  obtain ⟨g, c, e, hc, hg, h⟩ := h
  exact ⟨g, c, e, hc, Nat.lt_of_lt_of_le hg hb.size, fun j hj => (hb.cell (p := ⟨g, j, none⟩) hg).trans (h j hj)⟩
theorem Twin.rdb {W : World} {v : Value} {l : List UInt8} (h : Twin W v l) : RdB W v l := by
  obtain ⟨g, c, e, hc, hg, h⟩ := h
  refine ⟨_, c, e, by omega, fun _ => ⟨g, 0, rfl, hg, fun j hj => ?_⟩⟩
  rw [Nat.zero_add, h j (by omega)]
  simp [List.getD_eq_getElem?_getD, List.getElem?_append_left hj, bv]
theorem OwnB'.cap {W : World} {base g n c : Nat} {l : List UInt8} (h : OwnB' W base (.slice (some ⟨g, 0, none⟩) n c) l) : l.length ≤ c ∧ g < W.heap.size := by
  rcases h.2 with ⟨h', _⟩ | ⟨g', c', cur, h', _, hg, hn, _⟩
  · simp at h'
  · simp only [Value.slice.injEq, Option.some.injEq, Addr.mk.injEq] at h'
    exact ⟨by omega, by rw [h'.1.1]; exact (Array.getElem?_eq_some_iff.1 hg).1⟩
set_option maxHeartbeats 8000000 in
theorem twinB_any (l : List UInt8) (v : Value) (w : World) (hl : l.length ≤ 900000) (hR : RdB w v l) :
    Calls Tryd.prog 7 #[v] w fun e w' => ∃ t, e = .returned t ∧ Twin w' t l ∧ Below w.heap.size w w' := by
  obtain ⟨i0, hi0, hz0, hz1, hz2⟩ := info_parts info_u8'
  obtain ⟨a, cap, rfl, hcap⟩ := hR.form
  obtain ⟨n, hn⟩ : ∃ n, n = l.length := ⟨_, rfl⟩
  obtain ⟨q, hq⟩ : ∃ q, q = n + 1 := ⟨_, rfl⟩
  have w1 : IntKind.i64.wrap ((n : Int) + 1) = (q : Int) := by rw [hq]; exact i64n (n + 1) (by omega)
  have HR := Lib.hid (show RdB w (.slice a n cap) l by rw [hn]; exact hR)
  have HN := Lib.hid (show n = l.length ∧ q = n + 1 ∧ n ≤ 900000 from ⟨hn, hq, by omega⟩)
  have HI := Lib.hid hi0
  have HZ := Lib.hid hz0
  have HZ1 := Lib.hid hz1
  have HZ2 := Lib.hid hz2
  have q0 : (0 : Int) ≤ (q : Int) := by omega
  rw [← hn]
  clear hi0 hz0 hz1 hz2 hR hcap hl hn hq
  go_enter Tryd.func7, Tryd.ntmps7
  go_wp2_with (at_make; go_loud (refine wpList_make_own _ rfl _ _ 22 rfl w.heap.size 5 i0 (.int .u8 0) 1 Tryd.underlying22 HI.out HZ.out HZ1.out .i64 .i64 _ q rfl rfl (by have := HN.out; omega) (by rw [HZ2.out]; have := HN.out; omega) (by unfold maxLen; have := HN.out; omega) (Nat.le_refl _) ?_); intro w1 qo qg; have O1 := Lib.hid qo; have G1 := Lib.hid qg; clear qo qg)
  have HB := Lib.hid (show Below w.heap.size w w1 from (Below.refl _ _).grown G1.out (Nat.le_refl _) (fun k e => by cases e))
  have HO := Lib.hid (show OwnB' w1 w.heap.size (.slice (some ⟨w.heap.size, 0, none⟩) 0 q) (l.take 0) from O1.out)
  clear O1 G1 q0
  have k0 : ((0 : Nat) : Int) = 0 := rfl
  obtain ⟨g0, hg0⟩ : ∃ g, g = w.heap.size := ⟨_, rfl⟩
  have HO := Lib.hid (show OwnB' w1 w.heap.size (.slice (some ⟨g0, 0, none⟩) 0 q) (l.take 0) by rw [hg0]; exact HO.out)
  simp only [← hg0]
  clear hg0
  go_loopg [3, 4] n (fun g t x wr => ∃ (k gv cv : Nat), k + g = n ∧ t = .slice (some ⟨gv, 0, none⟩) k cv ∧ x = .int .i64 (k : Int) ∧ Hid (OwnB' wr w.heap.size (.slice (some ⟨gv, 0, none⟩) k cv) (l.take k)) ∧ Hid (Below w.heap.size w wr))
  case atStart => exact ⟨0, g0, q, by omega, rfl, rfl, HO, HB⟩
  case round =>
    clear HO HB k0
    obtain ⟨k, gv, cv, hk, rfl, rfl, HO, HW⟩ := hrel
    by_cases hlt : k < n
    · have n0 : (0 : Int) ≤ (k : Int) := by omega
      have l0 : (k : Int) < (n : Int) := by omega
      have w0 : IntKind.i64.wrap ((k : Int) + 1) = ((k + 1 : Nat) : Int) := i64n (k + 1) (by have := HN.out; omega)
      obtain ⟨c, hc⟩ : ∃ c, c = l.getD k 0 := ⟨_, rfl⟩
      obtain ⟨a9, c9, e9, _, h9⟩ := (HR.out.below HW.out)
      obtain ⟨b, off, e8, _, hcell⟩ := h9 (by have := HN.out; omega)
      simp only [Value.slice.injEq] at e9
      have ea := e9.1.trans e8
      subst ea
      have cz : wr.cell? ⟨b, off + k, none⟩ = some (.int .u8 (ib c)) := by
        have := hcell k (by have := HN.out; omega)
        rw [hc]; exact this
      have htl : (l.take k).length = k := by have := HN.out; simp; omega
      obtain ⟨g3, c3, W3, hap, ho, hb, -, -⟩ := app_b (w := w) (W := wr) (V := wr.alloc (.cells #[.int .u8 (ib c)] 5)) c HW.out HO.out (by have := HN.out; omega) rfl rfl rfl rfl
      rw [htl] at hap ho
      have ho := Lib.hid (show OwnB' W3 w.heap.size (.slice (some ⟨g3, 0, none⟩) (k + 1) c3) (l.take (k + 1)) by
        rw [List.take_add_one, List.getElem?_eq_getElem (by have := HN.out; omega)]
        rw [hc, List.getD_eq_getElem?_getD, List.getElem?_eq_getElem (by have := HN.out; omega)] at ho
        exact ho)
      have hap := Lib.hid hap
      have hb := Lib.hid hb
      clear e8 e9 h9 hcell hc htl
      go_wp2_with (at_builtin; refine Lib.wpList_append_run _ rfl _ _ _ _ rfl _ _ rfl rfl _ _ hap.out ?_)
      go_roundg (n - (k + 1))
      case measure => omega
      case rel => exact ⟨k + 1, g3, c3, by omega, rfl, rfl, ho, hb⟩
    · obtain rfl : k = n := by omega
      have htl : l.take k = l := List.take_of_length_le (by have := HN.out; omega)
      rw [htl] at HO
      obtain ⟨g3, c3, W3, hap, ho, hb, -, -⟩ := app_b (w := w) (W := wr) (V := wr.alloc (.cells #[.int .u8 77] 5)) 77 HW.out HO.out (by have := HN.out; omega) rfl rfl rfl rfl
      rw [← HN.out.1] at hap ho
      have hcp := (OwnB'.cap ho)
      have hlen : (l ++ [(77 : UInt8)]).length = k + 1 := by rw [List.length_append, ← HN.out.1]; rfl
      have n0 : (0 : Int) ≤ (k : Int) := by omega
      have l0 : (k : Int) ≤ (c3 : Int) := by omega
      have HT := Lib.hid (show Twin W3 (.slice (some ⟨g3, 0, none⟩) k c3) l from ⟨g3, c3, by rw [HN.out.1], by have := HN.out; omega, hcp.2, fun j hj => OwnB'.cell ho j (by have := HN.out; omega)⟩)
      have hap := Lib.hid hap
      have hb := Lib.hid hb
      clear ho hcp hlen htl
      go_wp2_with (at_builtin; refine Lib.wpList_append_run _ rfl _ _ _ _ rfl _ _ rfl rfl _ _ hap.out ?_)
      go_ret
      exact ⟨_, rfl, HT.out, hb.out⟩
set_option maxHeartbeats 8000000 in
theorem leftB_any (l : List UInt8) (t v : Value) (w : World) (hl : l.length ≤ 900000) (hT : Twin w t l) (hR : RdB w v l) :
    Calls Tryd.prog 14 #[t, v] w fun e w' => e = .returned (.bool true) ∧ Below w.heap.size w w' := by
  obtain ⟨a, cap, rfl, hcap⟩ := hR.form
  obtain ⟨gt, ct, rfl, hct, hgt, hcell⟩ := hT
  obtain ⟨n, hn⟩ : ∃ n, n = l.length := ⟨_, rfl⟩
  obtain ⟨q, hq⟩ : ∃ q, q = n + 1 := ⟨_, rfl⟩
  have w1 : IntKind.i64.wrap ((n : Int) + 1) = (q : Int) := by rw [hq]; exact i64n (n + 1) (by omega)
  rw [← hn] at hct hcell
  have HR := Lib.hid (show RdB w (.slice a n cap) l by rw [hn]; exact hR)
  have HC := Lib.hid (show gt < w.heap.size ∧ ∀ j, j < n + 1 → w.cell? ⟨gt, j, none⟩ = some (.int .u8 (ib ((l ++ [77]).getD j 0))) from ⟨hgt, hcell⟩)
  have HN := Lib.hid (show n = l.length ∧ q = n + 1 ∧ n ≤ 900000 ∧ n + 1 ≤ ct from ⟨hn, hq, by omega, by omega⟩)
  rw [← hn]
  have e1 : ((n : Int) == (n : Int)) = true := by simp
  have i1 : ¬ (ct : Int) ≤ (n : Int) := by omega
  have k0 : ((0 : Nat) : Int) = 0 := rfl
  clear hR hcap hl hn hq hcell hct hgt
  go_enter Tryd.func14, Tryd.ntmps14
  go_wp2
  go_loopg [5] n (fun g x wr => ∃ (k : Nat), k + g = n ∧ x = .int .i64 (k : Int) ∧ Hid (Below w.heap.size w wr))
  case atStart => exact ⟨0, by omega, rfl, Lib.hid (Below.refl _ _)⟩
  case round =>
    clear k0
    obtain ⟨k, hk, rfl, HW⟩ := hrel
    by_cases hlt : k < n
    · have n0 : (0 : Int) ≤ (k : Int) := by omega
      have l0 : (k : Int) < (n : Int) := by omega
      have w0 : IntKind.i64.wrap ((k : Int) + 1) = ((k + 1 : Nat) : Int) := i64n (k + 1) (by have := HN.out; omega)
      obtain ⟨c, hc⟩ : ∃ c, c = l.getD k 0 := ⟨_, rfl⟩
      obtain ⟨a9, c9, e9, _, h9⟩ := (HR.out.below HW.out)
      obtain ⟨b, off, e8, _, hcell⟩ := h9 (by have := HN.out; omega)
      simp only [Value.slice.injEq] at e9
      have ea := e9.1.trans e8
      subst ea
      have cz : wr.cell? ⟨b, off + k, none⟩ = some (.int .u8 (ib c)) := by
        have := hcell k (by have := HN.out; omega)
        rw [hc]; exact this
      have ct' : wr.cell? ⟨gt, k, none⟩ = some (.int .u8 (ib c)) := by
        have := (HW.out.cell (p := ⟨gt, k, none⟩) HC.out.1).trans (HC.out.2 k (by omega))
        rw [this, hc]
        have := HN.out
        simp [List.getD_eq_getElem?_getD, List.getElem?_append_left (show k < l.length by omega)]
      have e2 : (ib c == ib c) = true := by simp
      clear e8 e9 h9 hcell hc
      go_wp2
      go_quiet (fail)
      go_wp2
      go_roundg (n - (k + 1))
      case measure => omega
      case rel => exact ⟨k + 1, by omega, rfl, Lib.hid (below_drewN HW.out _)⟩
    · obtain rfl : k = n := by omega
      have n0 : (0 : Int) ≤ (k : Int) := by omega
      have n1 : (0 : Int) ≤ (q : Int) := by omega
      have l0 : (q : Int) ≤ (ct : Int) := by have := HN.out; omega
      have l1 : (k : Int) < (q : Int) := by have := HN.out; omega
      have ct' : wr.cell? ⟨gt, k, none⟩ = some (.int .u8 77) := by
        have := (HW.out.cell (p := ⟨gt, k, none⟩) HC.out.1).trans (HC.out.2 k (by omega))
        rw [this]
        have := HN.out
        simp [List.getD_eq_getElem?_getD, List.getElem?_append_right (show l.length ≤ k by omega), show k - l.length = 0 by omega, ib]
      go_wp2
      go_ret
      exact ⟨rfl, HW.out⟩
end Go.Proofs.YtjlmhpokamdkhaaDoor
