/- A book: its marks, and what it is told. -/
import Derived.Test.YtmbnojkciikobaaGreatDoorBook
import Derived.Deep.RegionHeld3
import Derived.Deep.RegionLaw
import Derived.Deep.AppendLies
namespace Go.Proofs.YtmbnojkciikobaaGreatDoor
open Go Go.Proofs Go.RowKit Go.Shelf Nu

attribute [local go_sem] Oper.semAt_some

set_option maxHeartbeats 400000 in
theorem mark_any (m : Nat) (hm : m ≤ 1000000) (W : World) : Calls Tryz.prog 144 #[.int .i64 (m : Int)] W fun e w' => e = .returned (.int .u32 ((1000 + m : Nat) : Int)) ∧ W = w' := by
  have e : ((1000 + m : Nat) : Int) = 1000 + (m : Int) := by omega
  rw [e]
  go_enter Tryz.func144, Tryz.ntmps144
  go_wp2
  go_ret
  exact ⟨rfl, rfl⟩
set_option maxHeartbeats 400000 in
theorem is_any (m : Nat) (hm : m ≤ 1000000) (W : World) : Calls Tryz.prog 156 #[.int .u32 ((1000 + m : Nat) : Int), .int .i64 (m : Int)] W fun e w' => e = .returned (.bool true) ∧ W = w' := by
  have e : ((1000 + m : Nat) : Int) = 1000 + (m : Int) := by omega
  rw [e]
  go_enter Tryz.func156, Tryz.ntmps156
  go_wp2
  go_ret
  exact ⟨by simp, rfl⟩

theorem undrew_grown {W W' : World} {row : Option Nat} (h : W.drew.grownBy W' row) : W.grownBy W' row := ⟨h.os, h.tape, h.output, h.size, h.block⟩
theorem info_held : (Tryz.prog.info? 125).map (fun i => (i.zero, i.size, i.bytes)) = some (some (.agg #[.slice none 0 0, .slice none 0 0, .int .i64 0]), 3, 56) := by kernel_rfl
theorem HRow.other {W : World} {B o : Nat} {v : Value} {es : List (Value × Nat)} (h : HRow W (B + 1) v es) (u : Value) : HRow (W.setCell ⟨B, o, none⟩ u) (B + 1) v es :=
  ownsRow_setCell_other h (fun e => by have := (World.ownsRow.lt h B e).1; omega) u
theorem HRow.snoc {W : World} {B : Nat} {v : Value} {es : List (Value × Nat)} (x : Value) (m : Nat) (h : W.ownsRow (B + 1) 125 3 v (es.length + 1) (hcells es ++ [x, .slice none 0 0, .int .i64 (m : Int)])) : HRow W (B + 1) v (es ++ [(x, m)]) := by
  unfold HRow
  rw [List.length_append, hcells_snoc]
  exact h

set_option maxRecDepth 100000 in
set_option maxHeartbeats 2000000 in
theorem bk_keep {W : World} {B n : Nat} {hv : Value} {es : List (Value × Nat)} {a : Option Addr} {l c : Nat} (h : BookAt W B n hv) (hr : HRow W (B + 1) hv es) (hn : n ≤ 100000) (hl : es.length ≤ 100000) :
    Calls Tryz.prog 76 #[.pointer (some ⟨B, 0, none⟩), .slice a l c] W fun e w' => e = .returned (.tuple #[]) ∧ ∃ hv', BookAt w' B (n + 1) hv' ∧ HRow w' (B + 1) hv' (es ++ [(.slice a l c, n + 1)]) ∧ Below B W w' := by
  obtain ⟨i0, hi, hz0, hz1, hz2⟩ := info_parts info_held
  obtain ⟨N1, hN1⟩ : ∃ N1, N1 = n + 1 := ⟨_, rfl⟩
  have hnn : ((n : Int) + 1) = (N1 : Int) := by omega
  have HN1 := Lib.hid hN1
  rw [← hN1]
  clear hN1
  have r1 := h.c0
  have r2 := h.fr 0
  have hlt := h.lt
  have h1 := Lib.hid (h.setn N1)
  have hr1 := Lib.hid (hr.other (o := 0) (.int .i64 (N1 : Int)))
  have hm1 : es.length + 1 ≤ maxLen := by unfold maxLen; omega
  have hm2 : (es.length + 1) * 56 ≤ 140737488355328 := by omega
  have hb1 := Lib.hid ((Below.refl B W).setCell (p := ⟨B, 0, none⟩) (Nat.le_refl _) (.int .i64 (N1 : Int)))
  clear h hr
  go_enter Tryz.func76, Tryz.ntmps76
  go_wp2
  obtain ⟨W1, hW1⟩ : ∃ W1, W1 = W.setCell ⟨B, 0, none⟩ (.int .i64 (N1 : Int)) := ⟨_, rfl⟩
  rw [← hW1] at h1 hr1 hb1 ⊢
  have s1 := h1.out.c0
  have s2 := h1.out.c2
  have s3 := h1.out.lt
  clear hW1 r1 r2
  go_region_law
    ((first
      | (refine step_append_lies _ (by rfl) _ _ _ (by rfl) (B + 1) 125 i0 _ 3 56 Tryz.underlying33 hi hz0 hz1 hz2 rfl (by omega) _ es.length (hcells es) (by rfl) (World.ownsRow.alloc (World.ownsRow.drew hr1.out) _)
          ⟨W1.heap.size, 0, none⟩ 1 1 [.slice a l c, .slice none 0 0, .int .i64 (N1 : Int)] (by rfl) (by rfl) (World.news_of_block (cs := #[.slice a l c, .slice none 0 0, .int .i64 (N1 : Int)]) (t := 125) (fr := (0, 0)) (heap_alloc_new _ _)) (by simp [Value.oneCell'])
          (by omega) hm1 hm2 (by simp; omega) (W1.heap.size + 1) (by simp) ?_; intro gg cap w6 hown1 hgrow hat hlt6; have hg6 := undrew_grown hgrow; have b6 : BookAt w6 B N1 hv := (h1.out.alloc _).kept hg6 (fun e => by have := (World.ownsRow.lt hr1.out B e.symm).1; omega); have f6 := b6.fr 2; have c6 := b6.c2)))
  all_goals
    go_end0
    have q1 := HRow.snoc (.slice a l c) N1 hown1
    exact ⟨rfl, _, b6.setv _, q1.other _, (((hb1.out.alloc (by omega) _).grown hg6 (by simp; omega) (fun k e => by have := (World.ownsRow.lt hr1.out k e).1; omega)).setCell (p := ⟨B, 2, none⟩) (Nat.le_refl _) _)⟩

end Go.Proofs.YtmbnojkciikobaaGreatDoor
