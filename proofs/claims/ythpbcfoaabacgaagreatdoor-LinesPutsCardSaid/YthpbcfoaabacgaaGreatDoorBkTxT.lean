/- A book's texts: their marks. -/
import Derived.Test.YthpbcfoaabacgaaGreatDoorBkB
import Derived.Test.YthpbcfoaabacgaaGreatDoorLayI
import Derived.Deep.RegionHeld3
import Derived.Deep.RegionLaw
import Derived.Deep.AppendLies
import Derived.Deep.LoopGhost
import Derived.BigQuiet
import Derived.Deep.QuietTactic
import Derived.Laws.Strings
import Derived.Laws.Concat
import Derived.Laws.ResultCell
namespace Go.Proofs.YthpbcfoaabacgaaGreatDoor
open Go Go.Proofs Go.RowKit Go.Shelf

attribute [local go_sem] Oper.semAt_some
set_option maxRecDepth 100000
/-- a mark as a text -/
def wrd (m : Nat) : ByteArray := (⟨#[35]⟩ : ByteArray) ++ ⟨(Lib.decDigits m).toArray⟩
def mkTx (m : Nat) : List Value := [.string (wrd m)]
theorem marksTx : Marks 1 mkTx := ⟨fun _ => rfl, fun m v hv => by simp [mkTx] at hv; subst hv; rfl, by decide⟩
theorem itoa_any (m : Nat) (hm : m < 100) (W : World) : Calls Tryz.prog 92 #[.int .i64 (m : Int)] W fun e w' => e = .returned (.string ⟨(Lib.decDigits m).toArray⟩) ∧ w' = W := Any.strconv_Itoa_small YthpbcfoaabacgaaGreatDoor.itL m hm W
theorem word_any (m : Nat) (hm : m ≤ 99) (W : World) : Calls Tryz.prog 89 #[.int .i64 (m : Int)] W fun e w' => e = .returned (.string (wrd m)) ∧ W = w' := by
  obtain ⟨D, hD⟩ : ∃ D : ByteArray, D = ⟨(Lib.decDigits m).toArray⟩ := ⟨_, rfl⟩
  have KI := Lib.hid (show Calls Tryz.prog 92 #[.int .i64 (m : Int)] W fun e w' => e = .returned (.string D) ∧ w' = W by rw [hD]; exact itoa_any m (by omega) W)
  have hDs : D.size ≤ 20 := by
    have h : D.size = (Lib.decDigits m).length := by rw [hD]; rfl
    rw [h, Lib.decDigits_length]
    by_cases h1 : 1 ≤ m
    · have := Lib.numDigits_eq m h1 (by omega); split at this <;> omega
    · obtain rfl : m = 0 := by omega
      rw [Lib.nDigits_small (by decide)]; decide
  have a1 : ∀ W, (Op.stringOp .add ⟨#[35]⟩ D).run Tryz.prog W = .ok (.string (wrd m)) W := fun W => by
    unfold wrd
    rw [← hD]
    exact run_string_add_sum W ⟨#[35]⟩ D (by show 1 + D.size ≤ _; omega)
  clear hD hDs hm
  go_enter Tryz.func89, Tryz.ntmps89
  go_wp2_with (go_at_call 92; refine KI.out.mono ?_; rintro e w' ⟨rfl, rfl⟩)
  go_ret
  exact ⟨rfl, rfl⟩
theorem markTx_any (m : Nat) (hm : m ≤ 99) (W : World) : Calls Tryz.prog 66 #[.int .i64 (m : Int)] W fun e w' => e = .returned (.string (wrd m)) ∧ Below W.heap.size W w' := by
  obtain ⟨D, hD⟩ : ∃ D, D = wrd m := ⟨_, rfl⟩
  have KW := Lib.hid (fun W => word_any m hm W)
  rw [← hD] at KW ⊢
  clear hD hm
  go_enter Tryz.func66, Tryz.ntmps66
  go_wp2_with (go_at_call 89; refine (KW.out _).mono ?_; rintro e w' ⟨rfl, rfl⟩)
  go_ret
  exact ⟨rfl, Below.refl _ _⟩
theorem isTx_any (m : Nat) (hm : m ≤ 99) (W : World) : Calls Tryz.prog 78 #[.string (wrd m), .int .i64 (m : Int)] W fun e w' => e = .returned (.bool true) ∧ Below W.heap.size W w' := by
  obtain ⟨D, hD⟩ : ∃ D, D = wrd m := ⟨_, rfl⟩
  have KW := Lib.hid (fun W => word_any m hm W)
  have qq : (D.toList == D.toList) = true := beq_self_eq_true _
  rw [← hD] at KW ⊢
  clear hD hm
  go_enter Tryz.func78, Tryz.ntmps78
  go_wp2_with (go_at_call 89; refine (KW.out _).mono ?_; rintro e w' ⟨rfl, rfl⟩)
  go_ret
  exact ⟨by first | rfl | simp, Below.refl _ _⟩
end Go.Proofs.YthpbcfoaabacgaaGreatDoor
