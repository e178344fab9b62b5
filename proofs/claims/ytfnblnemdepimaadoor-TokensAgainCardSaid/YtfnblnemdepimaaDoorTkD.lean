/- Tokens: the table of pieces. -/
import Derived.Test.YtfnblnemdepimaaDoorTkC
import Derived.Outline
import Derived.Deep.WholeRow
namespace Go.Proofs.YtfnblnemdepimaaDoor
open Go Go.Proofs Go.RowKit Go.Shelf
theorem size_pcs : (Tryd.prog.info? 42).map (·.size) = some pcs.size := by kernel_rfl
theorem one_pcs : pcs.all (·.oneCell') = true := by kernel_rfl
set_option maxRecDepth 100000 in
set_option maxHeartbeats 1000000 in
theorem pieces_any (w : World) : Calls Tryd.prog 13 #[] w fun e w' => e = .returned (.agg pcs) ∧ Below w.heap.size w w' := by
  go_enter Tryd.func13, Tryd.ntmps13
  go_wp2_with (refine wpList_store_row rfl 42 (.tmp 0) (.tmp 6) rfl w.heap.size pcs rfl rfl 42 _ (heap_alloc_last w _) size_pcs rfl one_pcs ?_; rw [World.setRow_alloc_new])
  exact bodyPost_ret (results_cell_row rfl _ _ w.heap.size 42 pcs (0, 0) _ rfl (heap_alloc_last w _) Tryd.underlying42 rfl size_pcs) rfl ⟨rfl, (Below.refl _ _).alloc (Nat.le_refl _) _⟩
end Go.Proofs.YtfnblnemdepimaaDoor
