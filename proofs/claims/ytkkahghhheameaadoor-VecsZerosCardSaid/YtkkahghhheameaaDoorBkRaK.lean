/- A book of tokens: it is told one, and its last call. -/
import Derived.Test.YtkkahghhheameaaDoorBkRaL
namespace Go.Proofs.YtkkahghhheameaaDoor
open Go Go.Proofs Go.RowKit Go.Shelf

attribute [local go_sem] Oper.semAt_some
set_option maxRecDepth 100000
theorem info_heldRa : (Tryd.prog.info? 62).map (fun i => (i.zero, i.size, i.bytes)) = some (some (.agg #[.slice none 0 0, .slice none 0 0, .int .i64 0]), 3, 56) := by kernel_rfl
theorem QRow.otherRa {HT : TypeId} {W : World} {B o : Nat} {v : Value} {es : List (Value × Nat)} (h : QRow HT W (B + 1) v es) (u : Value) : QRow HT (W.setCell ⟨B, o, none⟩ u) (B + 1) v es :=
  q_setCell_other h (fun e => by have := (World.ownsRow.lt h B e).1; omega) u
set_option maxHeartbeats 4000000 in
theorem keepRa_any {W : World} {B n : Nat} {f : Nat → Value} {es : List (Value × Nat)} {a : Option Addr} {l c : Nat} (h : QBook W B n f) (hr : QRow 62 W (B + 1) (f 8) es) (hn : n ≤ 100000) (hl : es.length ≤ 100000) :
    Calls Tryd.prog 13 #[.pointer (some ⟨B, 0, none⟩), .slice a l c] W fun e w' => e = .returned (.tuple #[]) ∧ ∃ hv', QBook w' B (n + 1) (upd f 8 hv') ∧ QRow 62 w' (B + 1) hv' (es ++ [(.slice a l c, n + 1)]) ∧ Below B W w' ∧ Kp W w' (fun b => b = B ∨ (f 8).ownBlock = some b) ∧ ∀ g, hv'.ownBlock = some g → (f 8).ownBlock = some g ∨ W.heap.size ≤ g := by
  obtain ⟨i0, hi, hz0, hz1, hz2⟩ := q_info info_heldRa
  obtain ⟨N1, hN1⟩ : ∃ N1, N1 = n + 1 := ⟨_, rfl⟩
  have hnn : ((n : Int) + 1) = (N1 : Int) := by omega
  obtain ⟨hv, hhv⟩ : ∃ v, v = f 8 := ⟨_, rfl⟩
  have HV := Lib.hid hhv
  rw [← hhv] at hr
  rw [← hN1, ← hhv]
  clear hhv
  have hw1 : IntKind.i64.wrap ((n : Int) + 1) = (N1 : Int) := by rw [hN1]; exact i64q (n + 1) (by omega)
  clear hN1
  have r1 := h.c0
  have r2 := h.fr 0
  have hlt := h.lt
  have h1 := Lib.hid (h.setn N1)
  have hr1 := Lib.hid (hr.otherRa (o := 0) (.int .i64 (N1 : Int)))
  have hm1 : es.length + 1 ≤ maxLen := by unfold maxLen; omega
  have hm2 : (es.length + 1) * 56 ≤ 140737488355328 := by omega
  have hb1 := Lib.hid ((Below.refl B W).setCell (p := ⟨B, 0, none⟩) (Nat.le_refl _) (.int .i64 (N1 : Int)))
  clear h hr
  go_enter Tryd.func13, Tryd.ntmps13
  go_wp2
  obtain ⟨W1, hW1⟩ : ∃ W1, W1 = W.setCell ⟨B, 0, none⟩ (.int .i64 (N1 : Int)) := ⟨_, rfl⟩
  rw [← hW1] at h1 hr1 hb1 ⊢
  have s1 := h1.out.c0
  have s2 : W1.cell? ⟨B, 8, none⟩ = some hv := h1.out.cell 8 hv (by rw [HV.out]; rfl)
  have s3 := h1.out.lt
  have hk1 := Lib.hid (show Kp W W1 (fun b => b = B ∨ hv.ownBlock = some b) by rw [hW1]; exact Kp.refl.grown (kp_set W B 0 _) (fun g e => .inl (.inl (by simpa using e.symm))))
  clear hW1 r1 r2
  go_region_law
    ((first
      | (refine step_append_lies _ (by rfl) _ _ _ (by rfl) (B + 1) 62 i0 _ 3 56 Tryd.underlying32 hi hz0 hz1 hz2 rfl (by omega) _ es.length (qheld es) (by rfl) (World.ownsRow.alloc (World.ownsRow.drew hr1.out) _)
          ⟨W1.heap.size, 0, none⟩ 1 1 [.slice a l c, .slice none 0 0, .int .i64 (N1 : Int)] (by rfl) (by rfl) (World.news_of_block (cs := #[.slice a l c, .slice none 0 0, .int .i64 (N1 : Int)]) (t := 62) (fr := (0, 0)) (heap_alloc_new _ _)) (by simp [Value.oneCell'])
          (by omega) hm1 hm2 (by simp; omega) (W1.heap.size + 1) (by simp) ?_; intro gg cap w6 hown1 hgrow hat hlt6; have hg6 := q_undrew hgrow; have b6 : QBook w6 B N1 f := (h1.out.alloc _).kept hg6 (fun e => by have := (World.ownsRow.lt hr1.out B e.symm).1; omega); have f6 := b6.fr 8; have c6 : w6.cell? ⟨B, 8, none⟩ = some hv := b6.cell 8 hv (by rw [HV.out]; rfl))))
  all_goals
    go_end0
    have q1 := QRow.snoc (.slice a l c) N1 hown1
    exact ⟨rfl, _, b6.set 8 _ rfl, q1.otherRa _, (((hb1.out.alloc (by omega) _).grown hg6 (by simp; omega) (fun k e => by have := (World.ownsRow.lt hr1.out k e).1; omega)).setCell (p := ⟨B, 8, none⟩) (Nat.le_refl _) _), ((hk1.out.alloc _).grown hg6 (fun g e => .inl (.inr e))).grown (kp_set _ B 8 _) (fun g e => .inl (.inl (by simpa using e.symm))), fun g e => by
      obtain rfl : gg = g := by simpa [Value.ownBlock] using e
      rcases hat with h | h
      · exact .inl h
      · exact .inr (by have := hk1.out.1; omega)⟩
end Go.Proofs.YtkkahghhheameaaDoor
