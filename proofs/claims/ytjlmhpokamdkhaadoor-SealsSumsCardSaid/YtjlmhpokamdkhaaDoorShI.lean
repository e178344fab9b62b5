/- Sums: the sum of bytes, with a key. -/
import Derived.Test.YtjlmhpokamdkhaaDoorShH
namespace Go.Proofs.YtjlmhpokamdkhaaDoor
open Go Go.Proofs Go.RowKit Go.Shelf

attribute [local go_sem] Oper.semAt_some
/-- The numbers H lie where the program's text lays them. -/
def HasS (W : World) : Prop := ∃ tt fr, W.heap[0]? = some (.cells ((Sh.list Sh.H).map uv).toArray tt fr)
theorem HasS.lt {W : World} (h : HasS W) : 0 < W.heap.size := by
  obtain ⟨tt, fr, h⟩ := h; exact (Array.getElem?_eq_some_iff.1 h).1
theorem HasS.below {W W' : World} {B : Nat} (h : HasS W) (hB : 0 < B) (hb : Below B W W') : HasS W' := by
  obtain ⟨tt, fr, h⟩ := h; exact ⟨tt, fr, (hb.block _ hB).trans h⟩
theorem HasS.cell {W : World} (h : HasS W) (j : Nat) (v : Value) (hj : ((Sh.list Sh.H).map uv)[j]? = some v) : W.cell? ⟨0, j, none⟩ = some v := by
  obtain ⟨tt, fr, h⟩ := h
  unfold World.cell?
  rw [h]
  simpa using hj
def HasV (W : World) : Prop := HasC W ∧ HasS W
theorem HasV.lt {W : World} (h : HasV W) : 0 < W.heap.size ∧ 1 < W.heap.size := ⟨h.2.lt, h.1.lt⟩
theorem HasV.below {W W' : World} (h : HasV W) (hb : Below W.heap.size W W') : HasV W' := ⟨h.1.below h.1.lt hb, h.2.below h.2.lt hb⟩
theorem F12.has {W : World} {B9 B2 : Nat} {s : St} {cs z : List Value} {t' t'' : TypeId} (h : HasS W) (hs : s = Sh.H) (h9 : Row W B9 t' cs) (h2 : Row W B2 t'' z) (hz : z.length = 32) : F12 W 0 B9 B2 s cs := by
  subst hs
  exact ⟨h.cell 0 _ rfl, h.cell 1 _ rfl, h.cell 2 _ rfl, h.cell 3 _ rfl, h.cell 4 _ rfl, h.cell 5 _ rfl, h.cell 6 _ rfl, h.cell 7 _ rfl, h9.range, h2.there hz⟩
theorem heap_n0l (W : World) (l : List Value) (t : TypeId) : Row (W.alloc (.cells l.toArray t)) W.heap.size t l := Row.new W t l

set_option maxRecDepth 100000
set_option maxHeartbeats 4000000 in
theorem of_any (l : List UInt8) (v : Value) (w : World) (hl : l.length ≤ 1000000) (hR : RdB w v l) (hV : HasV w) :
    Calls Tryd.prog 8 #[v] w fun e w' => e = .returned (.agg ((Sh.sha l).map bv).toArray) ∧ Below w.heap.size w w' := by
  obtain ⟨a, cap, rfl, hcap⟩ := hR.form
  obtain ⟨LH, hLH⟩ : ∃ L, L = ((Sh.list Sh.H).map uv).toArray := ⟨_, rfl⟩
  obtain ⟨OA, hOA⟩ : ∃ L, L = ((Sh.sha l).map bv).toArray := ⟨_, rfl⟩
  have hS : OA.size = 32 ∧ OA.all (·.oneCell') = true := ⟨by rw [hOA]; simp [Sh.length_sha], by rw [hOA]; exact one_bv _⟩
  have h8 : LH.size = 8 := by rw [hLH]; rfl
  obtain ⟨tt, fr, hq⟩ := hV.2
  rw [← hLH] at hq
  have HQ := Lib.hid (heap_old (.cells #[.int .u8 0, .int .u8 0, .int .u8 0, .int .u8 0, .int .u8 0, .int .u8 0, .int .u8 0, .int .u8 0, .int .u8 0, .int .u8 0, .int .u8 0, .int .u8 0, .int .u8 0, .int .u8 0, .int .u8 0, .int .u8 0, .int .u8 0, .int .u8 0, .int .u8 0, .int .u8 0, .int .u8 0, .int .u8 0, .int .u8 0, .int .u8 0, .int .u8 0, .int .u8 0, .int .u8 0, .int .u8 0, .int .u8 0, .int .u8 0, .int .u8 0, .int .u8 0] 24) hq)
  have KF := Lib.hid (show ∀ W, Below w.heap.size w W → Calls Tryd.prog 21 #[.agg LH, .int .i64 0, .slice a l.length cap] W fun e w' => e = .returned (.agg OA) ∧ Below W.heap.size W w' by
    intro W hW
    rw [hLH, hOA]
    have := finish_any Sh.H 0 l (.slice a l.length cap) W (by omega) hl (hR.below hW) (hV.1.below hV.1.lt hW)
    rw [Nat.zero_add] at this
    exact this)
  have HS := Lib.hid hS
  have H8 := Lib.hid h8
  rw [← hOA]
  clear hq hLH hOA hS h8 hR hV
  generalize l.length = n at *
  go_enter Tryd.func8, Tryd.ntmps8
  go_wp2_with (first
    | (refine wpList_load_row rfl 42 _ rfl 0 rfl tt LH fr _ HQ.out Tryd.underlying42 rfl (by rw [H8.out]; exact info_n) ?_)
    | (refine wpList_store_row rfl 24 _ _ rfl w.heap.size OA rfl rfl 24 #[.int .u8 0, .int .u8 0, .int .u8 0, .int .u8 0, .int .u8 0, .int .u8 0, .int .u8 0, .int .u8 0, .int .u8 0, .int .u8 0, .int .u8 0, .int .u8 0, .int .u8 0, .int .u8 0, .int .u8 0, .int .u8 0, .int .u8 0, .int .u8 0, .int .u8 0, .int .u8 0, .int .u8 0, .int .u8 0, .int .u8 0, .int .u8 0, .int .u8 0, .int .u8 0, .int .u8 0, .int .u8 0, .int .u8 0, .int .u8 0, .int .u8 0, .int .u8 0] (heap_b (heap_n0 w _ _) (by simp) hb1.out) (by rw [HS.out.1]; exact info_s) (by rw [HS.out.1]; rfl) HS.out.2 ?_)
    | (go_at_call 21; refine (KF.out _ ((Below.refl _ _).alloc (Nat.le_refl _) _)).mono ?_; rintro e w1 ⟨rfl, hb1⟩; have hb1 := Lib.hid hb1))
  (try simp only [Exit.inBlock, Exit.then])
  have hrow : (w1.setRow w.heap.size OA).heap[w.heap.size]? = some (.cells OA 24 (0, 0)) := by
    have := Row.setRow (show Row w1 w.heap.size 24 (Array.toList #[.int .u8 0, .int .u8 0, .int .u8 0, .int .u8 0, .int .u8 0, .int .u8 0, .int .u8 0, .int .u8 0, .int .u8 0, .int .u8 0, .int .u8 0, .int .u8 0, .int .u8 0, .int .u8 0, .int .u8 0, .int .u8 0, .int .u8 0, .int .u8 0, .int .u8 0, .int .u8 0, .int .u8 0, .int .u8 0, .int .u8 0, .int .u8 0, .int .u8 0, .int .u8 0, .int .u8 0, .int .u8 0, .int .u8 0, .int .u8 0, .int .u8 0, .int .u8 0]) from heap_b (heap_n0 w _ _) (by simp) hb1.out) OA.toList
    simpa [Row] using this
  refine bodyPost_ret (results_cell_row rfl _ _ w.heap.size 24 OA (0, 0) _ rfl hrow Tryd.underlying24 rfl (by rw [HS.out.1]; exact info_s)) rfl ?_
  exact ⟨rfl, below_setRow (((Below.refl _ _).alloc (Nat.le_refl _) _).trans (hb1.out.mono (by simp))) (Nat.le_refl _) _⟩
end Go.Proofs.YtjlmhpokamdkhaaDoor
