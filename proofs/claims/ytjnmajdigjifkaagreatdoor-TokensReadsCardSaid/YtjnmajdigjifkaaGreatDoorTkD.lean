/- Tokens: the table of pieces. -/
import Derived.Test.YtjnmajdigjifkaaGreatDoorTkC
import Derived.Outline
import Derived.Deep.WholeRow
namespace Go.Proofs.YtjnmajdigjifkaaGreatDoor
open Go Go.Proofs Go.RowKit Go.Shelf
theorem size_pcs : (Tryz.prog.info? 47).map (·.size) = some pcs.size := by kernel_rfl
theorem one_pcs : pcs.all (·.oneCell') = true := by kernel_rfl
set_option maxRecDepth 100000 in
set_option maxHeartbeats 1000000 in
theorem pieces_any (w : World) : Calls Tryz.prog 9 #[] w fun e w' => e = .returned (.agg pcs) ∧ Below w.heap.size w w' := by
  go_enter Tryz.func9, Tryz.ntmps9
  go_wp2_with (refine wpList_store_row rfl 47 (.tmp 0) (.tmp 6) rfl w.heap.size pcs rfl rfl 47 _ (heap_alloc_last w _) size_pcs rfl one_pcs ?_; rw [World.setRow_alloc_new])
  exact bodyPost_ret (results_cell_row rfl _ _ w.heap.size 47 pcs (0, 0) _ rfl (heap_alloc_last w _) Tryz.underlying47 rfl size_pcs) rfl ⟨rfl, (Below.refl _ _).alloc (Nat.le_refl _) _⟩
end Go.Proofs.YtjnmajdigjifkaaGreatDoor
