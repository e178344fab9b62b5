/- Sums: bytes behind bytes. -/
import Derived.Test.YtjlmhpokamdkhaaDoorShU
import Derived.Laws.OwnMore
import Derived.OwnWalk
import Derived.Lib.AppendZerosOnto
namespace Go.Proofs.YtjlmhpokamdkhaaDoor
open Go Go.Proofs Go.RowKit Go.Shelf

theorem own_rdb {W : World} {base : Nat} {v : Value} {l : List UInt8} (h : OwnB W base v l) : RdB W v l := by
  have hc := fun (g : Nat) (hg : v.ownBlock = some g) => World.ownsRow.cells h hg
  rcases h.2 with ⟨rfl, h0⟩ | ⟨g, cap, cur, rfl, _, hg, hn, _⟩
  · obtain rfl := List.eq_nil_of_length_eq_zero h0
    exact ⟨none, 0, rfl, Nat.le_refl _, fun h => by simp at h⟩
  · refine ⟨_, cap, rfl, hn, fun _ => ⟨g, 0, rfl, (Array.getElem?_eq_some_iff.1 hg).1, fun j hj => ?_⟩⟩
    have := hc g rfl j (bv (l.getD j 0)) (getD_some hj)
    rw [Addr.add_lit] at this
    exact this
theorem own_row {W : World} {base g n : Nat} {e : TypeId} {xs : List Value} (h : W.ownsRow base e 1 (.slice (some ⟨g, 0, none⟩) n n) n xs) : Row W g e xs := by
  rcases h.2 with ⟨h1, _⟩ | ⟨g', cap, cur, e1, _, hg, _, _, hs, ht⟩
  · cases h1
  · simp only [Value.slice.injEq, Option.some.injEq, Addr.mk.injEq, and_true, true_and] at e1
    obtain ⟨rfl, rfl⟩ := e1
    have : cur = xs.toArray := by
      apply Array.toList_inj.1
      rw [← ht, List.take_of_length_le (by simp; omega)]
    rw [this] at hg
    exact hg
theorem row_own {W : World} {base g n : Nat} {l : List UInt8} (h : Row W g 5 (l.map bv)) (hn : l.length = n) (hb : base ≤ g) (hm : n ≤ 10000000) : OwnB W base (.slice (some ⟨g, 0, none⟩) n n) l := by
  subst hn
  exact ⟨by simp, .inr ⟨g, l.length, _, rfl, hb, h, Nat.le_refl _, small_max hm, by simp, by simp; exact List.take_of_length_le (by simp)⟩⟩
theorem own_below {W W' : World} {base : Nat} {v : Value} {l : List UInt8} (h : OwnB W base v l) (hb : Below W.heap.size W W') : OwnB W' base v l := by
  refine ⟨h.1, ?_⟩
  rcases h.2 with h | ⟨g, cap, cur, e, hg, hgb, r⟩
  · exact .inl h
  · exact .inr ⟨g, cap, cur, e, hg, (hb.block g (Array.getElem?_eq_some_iff.1 hgb).1).trans hgb, r⟩
theorem append_run {W : World} {base : Nat} {v src : Value} {l m : List UInt8} (hO : OwnB W base v l) (hR : RdB W src m) (hb : base ≤ W.heap.size) (hn : l.length + m.length ≤ 10000000) :
    ∃ v' W', (Builtin.append_ #[22, 22] 22 #[v, src]).run Tryd.prog W = .ok v' W' ∧ OwnB W' base v' (l ++ m) ∧ W.grownBy W' v.ownBlock := by
  obtain ⟨i0, hi0, hz0, hz1, hz2⟩ := info_parts info_u8'
  obtain ⟨a, cap, rfl, hc, h⟩ := hR
  cases a with
  | none =>
    have hm : m = [] := by
      cases m with
      | nil => rfl
      | cons x m =>
        obtain ⟨b, off, e, _⟩ := h (by simp)
        cases e
    subst hm
    refine ⟨v, W, ?_, by rw [List.append_nil]; exact hO, ⟨rfl, rfl, rfl, Nat.le_refl _, fun _ _ _ => rfl⟩⟩
    have hu := run_underlying (P := Tryd.prog) Tryd.underlying22 W
    rcases hO.2 with ⟨rfl, _⟩ | ⟨g, cap', cur, rfl, _, _, hnc, _⟩
    · simp [Builtin.append_, run_underlying Tryd.underlying22, sizeOf, typeInfo, hi0, Builtin.lenOf, Builtin.firstCells]
    · simp [Builtin.append_, run_underlying Tryd.underlying22, sizeOf, typeInfo, hi0, Builtin.lenOf, Builtin.firstCells, hnc, storeCells]
  | some ad =>
    have hnews : ∀ j u, (m.map bv)[j]? = some u → W.cell? (ad.add j) = some u := by
      intro j u hu
      have hj : j < m.length := by have := (List.getElem?_eq_some_iff.1 hu).1; simpa using this
      obtain ⟨b, off, e, hlt, hcell⟩ := h (by omega)
      cases e
      rw [Addr.add_lit, hcell j hj]
      rw [getD_some hj] at hu
      exact hu
    obtain ⟨v', w', hr, ho, hg, _⟩ := run_append_own (P := Tryd.prog) W base 22 22 5 i0 (.int .u8 0) 1 1 Tryd.underlying22 hi0 hz0 hz1 hz2 rfl (by omega) v l.length (l.map bv) hO ad m.length cap (m.map bv) (by simp) hnews (one_bv' _) (small_max (by omega)) (by omega) hb
    refine ⟨v', w', hr, ?_, hg⟩
    unfold OwnB
    rw [List.length_append, List.map_append]
    exact ho
theorem grown_bel {w W W' : World} {v : Value} {l : List UInt8} (hb : Below w.heap.size w W) (hO : OwnB W w.heap.size v l) (hg : W.grownBy W' v.ownBlock) : Below w.heap.size w W' :=
  hb.grown hg hb.size fun k e => ((World.ownsRow.lt hO) k e).1
theorem made64 : (madeCells (Value.int .u8 0).cells (64 * 1)).toList = (List.replicate 64 (0 : UInt8)).map bv := by kernel_rfl
theorem copy_key {W : World} {g n cap : Nat} {p : Option Addr} {l K : List UInt8} (hg : Row W g 5 ((List.replicate 64 (0 : UInt8)).map bv)) (hR : RdB W (.slice p n cap) l) (hn : n = l.length) (hl : l.length ≤ 64) (hK : K = l ++ List.replicate (64 - l.length) 0) :
    (Builtin.copy_ #[22, 22] 3 #[.slice (some ⟨g, 0, none⟩) 64 64, .slice p n cap]).run Tryd.prog W = .ok (.int .i64 (n : Int)) (W.setRow g (K.map bv).toArray) := by
  subst hn
  have h := copy_run (n := 64) (by simp) hg hR
  rw [show min l.length 64 = l.length by omega, List.take_of_length_le (by omega), List.drop_replicate, ← hK] at h
  exact h
theorem mask_get (l : List UInt8) (m : UInt8) (i : Nat) (hi : i < l.length) : ((Sh.masked (l.take i) m ++ l.drop i).map bv)[i]? = some (.int .u8 (ib (l.getD i 0))) := by
  rw [List.getElem?_map, List.getElem?_append_right (by rw [Sh.length_masked, List.length_take]; omega), Sh.length_masked, List.length_take, List.getElem?_drop, List.getD_eq_getElem?_getD]
  rw [show i + (i - min i l.length) = i by omega, List.getElem?_eq_getElem hi]; rfl
end Go.Proofs.YtjlmhpokamdkhaaDoor
