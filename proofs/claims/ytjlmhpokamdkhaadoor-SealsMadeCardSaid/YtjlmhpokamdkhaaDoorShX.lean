/- Sums: noughts behind bytes. -/
import Derived.Test.YtjlmhpokamdkhaaDoorShW
namespace Go.Proofs.YtjlmhpokamdkhaaDoor
open Go Go.Proofs Go.RowKit Go.Shelf

theorem zeroCells_u8 (k : Nat) : Builtin.zeroCells (Value.int .u8 0).cells k = ((List.replicate k (0 : UInt8)).map bv).toArray := by
  apply Array.toList_inj.1
  simp only [Builtin.zeroCells, Value.cells, Array.toList_map, Array.toList_range, List.size_toArray, List.length_cons, List.length_nil, Nat.zero_add, Nat.mul_one]
  apply List.ext_getElem?
  intro i
  by_cases h : i < k
  · rw [List.getElem?_map, List.getElem?_range h, List.getElem?_map, List.getElem?_replicate, if_pos h]
    simp only [Option.map_some, Nat.mod_one]
    rfl
  · rw [List.getElem?_eq_none (by simp; omega), List.getElem?_eq_none (by simp; omega)]
theorem append_zeros {W : World} {base : Nat} {v : Value} {l : List UInt8} (hO : OwnB W base v l) (k : Nat) (hl : l.length ≤ 64) (hk : k ≤ 64) (hb : base ≤ W.heap.size) :
    ∃ v' W', (Builtin.append_ #[22, 3] 22 #[v, .int .i64 (k : Int)]).run Tryd.prog W = .ok v' W' ∧ OwnB W' base v' (l ++ List.replicate k 0) ∧ W.grownBy W' v.ownBlock := by
  obtain ⟨i0, hi0, hz0, hz1, hz2⟩ := info_parts info_u8'
  have hu := Tryd.underlying22
  have hn := Tryd.underlying3
  have hw : IntKind.i64.wrap (k : Int) = k := i64n k (by omega)
  have hO' := hO
  unfold OwnB at hO'
  -- a block of its own
  have grown : ∀ (a : Option Addr) (sCap : Nat), v = .slice a l.length sCap → sCap < l.length + k → 0 < k → (Builtin.firstCells i0.size l.length (.slice a l.length sCap)).run Tryd.prog W.drew = .ok (l.map bv).toArray W.drew →
      ∃ v' W', (Builtin.append_ #[22, 3] 22 #[v, .int .i64 (k : Int)]).run Tryd.prog W = .ok v' W' ∧ OwnB W' base v' (l ++ List.replicate k 0) ∧ W.grownBy W' v.ownBlock := by
    intro a sCap e hg h0 hold
    subst e
    have hns : Builtin.nextslicecap (l.length + k) sCap * i0.bytes ≤ 281474976710656 := by
      rw [hz2, Nat.mul_one]
      unfold Builtin.nextslicecap
      split
      · omega
      · split <;> omega
    have hr := Lib.run_append_grow_zeros (P := Tryd.prog) W 22 3 22 5 i0 (.int .u8 0) .i64 .i64 hu hn hi0 hz0 a l.length sCap (l.map bv) hold k h0 (by omega) hg (by omega) (by rw [hz2]; omega) hns
    have hge := grownCap_ge W (l.length + k) sCap 5
    have hcm : grownCap W (l.length + k) sCap 5 ≤ maxLen := grownCap_le_maxLen W (l.length + k) sCap 5 (small_max (by omega))
    refine ⟨_, _, hr, ⟨by simp, .inr ⟨W.heap.size, _, _, by simp, hb, heap_alloc_new W.drew _, by simpa using hge, hcm, ?_, ?_⟩⟩, ⟨rfl, rfl, rfl, by simp, fun j hj _ => Below.heap_alloc W.drew _ j hj⟩⟩
    · rw [zeroCells_u8, zeroCells_u8]; simp; omega
    · rw [zeroCells_u8, zeroCells_u8]
      simp only [Array.toList_append, List.append_assoc, List.length_append, List.length_replicate, Nat.mul_one, List.map_append]
      rw [← List.append_assoc]
      exact List.take_left' (by simp)
  rcases hO.2 with ⟨rfl, h0⟩ | ⟨g, cap, cur, rfl, hbg, hg, hnc, hcm, hcs, htake⟩
  · obtain rfl := List.eq_nil_of_length_eq_zero h0
    by_cases hk0 : k = 0
    · subst hk0
      refine ⟨.slice none 0 0, W, ?_, by simpa using hO, ⟨rfl, rfl, rfl, Nat.le_refl _, fun _ _ _ => rfl⟩⟩
      simp [Builtin.append_, run_underlying hu, run_underlying hn, sizeOf, typeInfo, hi0, asInt, asIntOf, IntKind.wrap_i64]
    · exact grown none 0 rfl (by simp; omega) (by omega) (by simp [Builtin.firstCells])
  · have hfirst : ∀ W' : World, W'.heap = W.heap → (Builtin.firstCells i0.size l.length (.slice (some ⟨g, 0, none⟩) l.length cap)).run Tryd.prog W' = .ok (l.map bv).toArray W' := by
      intro W' hW
      refine run_firstCells_some (P := Tryd.prog) W' i0.size l.length ⟨g, 0, none⟩ l.length cap (l.map bv) (by rw [hz1]; simp) (fun j u hj => ?_)
      have := World.ownsRow.cells hO (g := g) rfl j u hj
      unfold World.cell? at *
      rw [hW]
      exact this
    by_cases hroom : l.length + k ≤ cap
    · by_cases hk0 : k = 0
      · subst hk0
        refine ⟨.slice (some ⟨g, 0, none⟩) l.length cap, W, ?_, by simpa using hO, ⟨rfl, rfl, rfl, Nat.le_refl _, fun _ _ _ => rfl⟩⟩
        simp [Builtin.append_, run_underlying hu, run_underlying hn, sizeOf, typeInfo, hi0, asInt, asIntOf, IntKind.wrap_i64, hnc, storeCells]
      · have hst := run_storeCells_at Tryd.prog g l.length 5 ((List.replicate k (0 : UInt8)).map bv) 0 cur W hg (by simp; omega) (one_bv' _)
        simp only [Nat.add_zero, List.map_replicate, List.length_replicate, List.append_assoc] at hst
        refine ⟨.slice (some ⟨g, 0, none⟩) (l.length + k) cap, W.setRow g (cur.toList.take l.length ++ (List.replicate k (bv 0) ++ cur.toList.drop (l.length + k))).toArray, ?_, ?_, ?_⟩
        · have hneg : ¬ ((k : Int) < 0) := by omega
          have h48 : ¬ (281474976710656 < (k : Int)) := by omega
          simp [Builtin.append_, run_underlying hu, run_underlying hn, sizeOf, typeInfo, zeroValue, hi0, hz0, hz1, hz2, asInt, asIntOf, hw, hneg, h48, hroom, hk0, zeroCells_u8, Addr.add_lit, hst]
        · refine ⟨by simp, .inr ⟨g, cap, _, by simp, hbg, setRow_heap W g cur _ 5 _ hg, by simpa using hroom, hcm, ?_, ?_⟩⟩
          · simp; omega
          · simp only [List.length_append, List.length_replicate, Nat.mul_one, List.map_append]
            rw [Nat.mul_one] at htake
            rw [htake, ← List.append_assoc, List.map_replicate]
            exact List.take_left' (by simp)
        · exact ⟨rfl, rfl, rfl, by simp, fun j _ hj => _root_.Go.setRow_other W g j _ (fun e => hj (by simp [Value.ownBlock, e]))⟩
    · exact grown (some ⟨g, 0, none⟩) cap rfl (by omega) (by omega) (hfirst W.drew rfl)
end Go.Proofs.YtjlmhpokamdkhaaDoor
