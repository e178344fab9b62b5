/- A book's lists that are empty: their calls answer at once. -/
import Derived.Test.YthpbcfoaabacgaaGreatDoorBq
import Derived.LoopTactic
namespace Go.Proofs.YthpbcfoaabacgaaGreatDoor
open Go Go.Proofs Go.RowKit Go.Shelf

attribute [local go_sem] Oper.semAt_some

section
variable {W : World} {B n : Nat} {f : Nat → Value}
set_option maxHeartbeats 400000 in
theorem qe_fillByte (h : QBook W B n f) (hf : f 1 = .slice none 0 0) : Calls Tryz.prog 24 #[.pointer (some ⟨B, 0, none⟩)] W fun e w' => e = .returned (.tuple #[]) ∧ W = w' := by
  have r1 := h.cell 1 (.slice none 0 0) (by rw [← hf]; rfl)
  have r2 := h.lt
  clear h
  go_enter Tryz.func24, Tryz.ntmps24
  go_wp2
  go_loop [2] (fun s => s = .int .i64 0) (fun _ => 0)
  case atStart => rfl
  case round =>
    subst hrel
    go_wp2
    go_end0
    exact ⟨rfl, rfl⟩
set_option maxHeartbeats 400000 in
theorem qe_growByte (h : QBook W B n f) (hf : f 1 = .slice none 0 0) : Calls Tryz.prog 36 #[.pointer (some ⟨B, 0, none⟩)] W fun e w' => e = .returned (.tuple #[]) ∧ W = w' := by
  have r1 := h.cell 1 (.slice none 0 0) (by rw [← hf]; rfl)
  have r2 := h.lt
  clear h
  go_enter Tryz.func36, Tryz.ntmps36
  go_wp2
  go_loop [2] (fun s => s = .int .i64 0) (fun _ => 0)
  case atStart => rfl
  case round =>
    subst hrel
    go_wp2
    go_end0
    exact ⟨rfl, rfl⟩
set_option maxHeartbeats 400000 in
theorem qe_lookByte (h : QBook W B n f) (hf : f 1 = .slice none 0 0) : Calls Tryz.prog 48 #[.pointer (some ⟨B, 0, none⟩)] W fun e w' => e = .returned (.bool true) ∧ W = w' := by
  have r1 := h.cell 1 (.slice none 0 0) (by rw [← hf]; rfl)
  have r2 := h.lt
  clear h
  go_enter Tryz.func48, Tryz.ntmps48
  go_wp2
  go_loop [3] (fun s => s = .int .i64 0) (fun _ => 0)
  case atStart => rfl
  case round =>
    subst hrel
    go_wp2
    go_ret
    exact ⟨rfl, rfl⟩
set_option maxHeartbeats 400000 in
theorem qe_fillInt32 (h : QBook W B n f) (hf : f 2 = .slice none 0 0) : Calls Tryz.prog 25 #[.pointer (some ⟨B, 0, none⟩)] W fun e w' => e = .returned (.tuple #[]) ∧ W = w' := by
  have r1 := h.cell 2 (.slice none 0 0) (by rw [← hf]; rfl)
  have r2 := h.lt
  clear h
  go_enter Tryz.func25, Tryz.ntmps25
  go_wp2
  go_loop [2] (fun s => s = .int .i64 0) (fun _ => 0)
  case atStart => rfl
  case round =>
    subst hrel
    go_wp2
    go_end0
    exact ⟨rfl, rfl⟩
set_option maxHeartbeats 400000 in
theorem qe_growInt32 (h : QBook W B n f) (hf : f 2 = .slice none 0 0) : Calls Tryz.prog 37 #[.pointer (some ⟨B, 0, none⟩)] W fun e w' => e = .returned (.tuple #[]) ∧ W = w' := by
  have r1 := h.cell 2 (.slice none 0 0) (by rw [← hf]; rfl)
  have r2 := h.lt
  clear h
  go_enter Tryz.func37, Tryz.ntmps37
  go_wp2
  go_loop [2] (fun s => s = .int .i64 0) (fun _ => 0)
  case atStart => rfl
  case round =>
    subst hrel
    go_wp2
    go_end0
    exact ⟨rfl, rfl⟩
set_option maxHeartbeats 400000 in
theorem qe_lookInt32 (h : QBook W B n f) (hf : f 2 = .slice none 0 0) : Calls Tryz.prog 49 #[.pointer (some ⟨B, 0, none⟩)] W fun e w' => e = .returned (.bool true) ∧ W = w' := by
  have r1 := h.cell 2 (.slice none 0 0) (by rw [← hf]; rfl)
  have r2 := h.lt
  clear h
  go_enter Tryz.func49, Tryz.ntmps49
  go_wp2
  go_loop [3] (fun s => s = .int .i64 0) (fun _ => 0)
  case atStart => rfl
  case round =>
    subst hrel
    go_wp2
    go_ret
    exact ⟨rfl, rfl⟩
set_option maxHeartbeats 400000 in
theorem qe_fillNum (h : QBook W B n f) (hf : f 3 = .slice none 0 0) : Calls Tryz.prog 26 #[.pointer (some ⟨B, 0, none⟩)] W fun e w' => e = .returned (.tuple #[]) ∧ W = w' := by
  have r1 := h.cell 3 (.slice none 0 0) (by rw [← hf]; rfl)
  have r2 := h.lt
  clear h
  go_enter Tryz.func26, Tryz.ntmps26
  go_wp2
  go_loop [2] (fun s => s = .int .i64 0) (fun _ => 0)
  case atStart => rfl
  case round =>
    subst hrel
    go_wp2
    go_end0
    exact ⟨rfl, rfl⟩
set_option maxHeartbeats 400000 in
theorem qe_growNum (h : QBook W B n f) (hf : f 3 = .slice none 0 0) : Calls Tryz.prog 38 #[.pointer (some ⟨B, 0, none⟩)] W fun e w' => e = .returned (.tuple #[]) ∧ W = w' := by
  have r1 := h.cell 3 (.slice none 0 0) (by rw [← hf]; rfl)
  have r2 := h.lt
  clear h
  go_enter Tryz.func38, Tryz.ntmps38
  go_wp2
  go_loop [2] (fun s => s = .int .i64 0) (fun _ => 0)
  case atStart => rfl
  case round =>
    subst hrel
    go_wp2
    go_end0
    exact ⟨rfl, rfl⟩
set_option maxHeartbeats 400000 in
theorem qe_lookNum (h : QBook W B n f) (hf : f 3 = .slice none 0 0) : Calls Tryz.prog 50 #[.pointer (some ⟨B, 0, none⟩)] W fun e w' => e = .returned (.bool true) ∧ W = w' := by
  have r1 := h.cell 3 (.slice none 0 0) (by rw [← hf]; rfl)
  have r2 := h.lt
  clear h
  go_enter Tryz.func50, Tryz.ntmps50
  go_wp2
  go_loop [3] (fun s => s = .int .i64 0) (fun _ => 0)
  case atStart => rfl
  case round =>
    subst hrel
    go_wp2
    go_ret
    exact ⟨rfl, rfl⟩
set_option maxHeartbeats 400000 in
theorem qe_fillBool (h : QBook W B n f) (hf : f 4 = .slice none 0 0) : Calls Tryz.prog 27 #[.pointer (some ⟨B, 0, none⟩)] W fun e w' => e = .returned (.tuple #[]) ∧ W = w' := by
  have r1 := h.cell 4 (.slice none 0 0) (by rw [← hf]; rfl)
  have r2 := h.lt
  clear h
  go_enter Tryz.func27, Tryz.ntmps27
  go_wp2
  go_loop [2] (fun s => s = .int .i64 0) (fun _ => 0)
  case atStart => rfl
  case round =>
    subst hrel
    go_wp2
    go_end0
    exact ⟨rfl, rfl⟩
set_option maxHeartbeats 400000 in
theorem qe_growBool (h : QBook W B n f) (hf : f 4 = .slice none 0 0) : Calls Tryz.prog 39 #[.pointer (some ⟨B, 0, none⟩)] W fun e w' => e = .returned (.tuple #[]) ∧ W = w' := by
  have r1 := h.cell 4 (.slice none 0 0) (by rw [← hf]; rfl)
  have r2 := h.lt
  clear h
  go_enter Tryz.func39, Tryz.ntmps39
  go_wp2
  go_loop [2] (fun s => s = .int .i64 0) (fun _ => 0)
  case atStart => rfl
  case round =>
    subst hrel
    go_wp2
    go_end0
    exact ⟨rfl, rfl⟩
set_option maxHeartbeats 400000 in
theorem qe_lookBool (h : QBook W B n f) (hf : f 4 = .slice none 0 0) : Calls Tryz.prog 51 #[.pointer (some ⟨B, 0, none⟩)] W fun e w' => e = .returned (.bool true) ∧ W = w' := by
  have r1 := h.cell 4 (.slice none 0 0) (by rw [← hf]; rfl)
  have r2 := h.lt
  clear h
  go_enter Tryz.func51, Tryz.ntmps51
  go_wp2
  go_loop [3] (fun s => s = .int .i64 0) (fun _ => 0)
  case atStart => rfl
  case round =>
    subst hrel
    go_wp2
    go_ret
    exact ⟨rfl, rfl⟩
set_option maxHeartbeats 400000 in
theorem qe_fillText (h : QBook W B n f) (hf : f 5 = .slice none 0 0) : Calls Tryz.prog 28 #[.pointer (some ⟨B, 0, none⟩)] W fun e w' => e = .returned (.tuple #[]) ∧ W = w' := by
  have r1 := h.cell 5 (.slice none 0 0) (by rw [← hf]; rfl)
  have r2 := h.lt
  clear h
  go_enter Tryz.func28, Tryz.ntmps28
  go_wp2
  go_loop [2] (fun s => s = .int .i64 0) (fun _ => 0)
  case atStart => rfl
  case round =>
    subst hrel
    go_wp2
    go_end0
    exact ⟨rfl, rfl⟩
set_option maxHeartbeats 400000 in
theorem qe_growText (h : QBook W B n f) (hf : f 5 = .slice none 0 0) : Calls Tryz.prog 40 #[.pointer (some ⟨B, 0, none⟩)] W fun e w' => e = .returned (.tuple #[]) ∧ W = w' := by
  have r1 := h.cell 5 (.slice none 0 0) (by rw [← hf]; rfl)
  have r2 := h.lt
  clear h
  go_enter Tryz.func40, Tryz.ntmps40
  go_wp2
  go_loop [2] (fun s => s = .int .i64 0) (fun _ => 0)
  case atStart => rfl
  case round =>
    subst hrel
    go_wp2
    go_end0
    exact ⟨rfl, rfl⟩
set_option maxHeartbeats 400000 in
theorem qe_lookText (h : QBook W B n f) (hf : f 5 = .slice none 0 0) : Calls Tryz.prog 52 #[.pointer (some ⟨B, 0, none⟩)] W fun e w' => e = .returned (.bool true) ∧ W = w' := by
  have r1 := h.cell 5 (.slice none 0 0) (by rw [← hf]; rfl)
  have r2 := h.lt
  clear h
  go_enter Tryz.func52, Tryz.ntmps52
  go_wp2
  go_loop [3] (fun s => s = .int .i64 0) (fun _ => 0)
  case atStart => rfl
  case round =>
    subst hrel
    go_wp2
    go_ret
    exact ⟨rfl, rfl⟩
set_option maxHeartbeats 400000 in
theorem qe_fillToken (h : QBook W B n f) (hf : f 6 = .slice none 0 0) : Calls Tryz.prog 29 #[.pointer (some ⟨B, 0, none⟩)] W fun e w' => e = .returned (.tuple #[]) ∧ W = w' := by
  have r1 := h.cell 6 (.slice none 0 0) (by rw [← hf]; rfl)
  have r2 := h.lt
  clear h
  go_enter Tryz.func29, Tryz.ntmps29
  go_wp2
  go_loop [2] (fun s => s = .int .i64 0) (fun _ => 0)
  case atStart => rfl
  case round =>
    subst hrel
    go_wp2
    go_end0
    exact ⟨rfl, rfl⟩
set_option maxHeartbeats 400000 in
theorem qe_growToken (h : QBook W B n f) (hf : f 6 = .slice none 0 0) : Calls Tryz.prog 41 #[.pointer (some ⟨B, 0, none⟩)] W fun e w' => e = .returned (.tuple #[]) ∧ W = w' := by
  have r1 := h.cell 6 (.slice none 0 0) (by rw [← hf]; rfl)
  have r2 := h.lt
  clear h
  go_enter Tryz.func41, Tryz.ntmps41
  go_wp2
  go_loop [2] (fun s => s = .int .i64 0) (fun _ => 0)
  case atStart => rfl
  case round =>
    subst hrel
    go_wp2
    go_end0
    exact ⟨rfl, rfl⟩
set_option maxHeartbeats 400000 in
theorem qe_lookToken (h : QBook W B n f) (hf : f 6 = .slice none 0 0) : Calls Tryz.prog 53 #[.pointer (some ⟨B, 0, none⟩)] W fun e w' => e = .returned (.bool true) ∧ W = w' := by
  have r1 := h.cell 6 (.slice none 0 0) (by rw [← hf]; rfl)
  have r2 := h.lt
  clear h
  go_enter Tryz.func53, Tryz.ntmps53
  go_wp2
  go_loop [3] (fun s => s = .int .i64 0) (fun _ => 0)
  case atStart => rfl
  case round =>
    subst hrel
    go_wp2
    go_ret
    exact ⟨rfl, rfl⟩
set_option maxHeartbeats 400000 in
theorem qe_fillTenant (h : QBook W B n f) (hf : f 7 = .slice none 0 0) : Calls Tryz.prog 30 #[.pointer (some ⟨B, 0, none⟩)] W fun e w' => e = .returned (.tuple #[]) ∧ W = w' := by
  have r1 := h.cell 7 (.slice none 0 0) (by rw [← hf]; rfl)
  have r2 := h.lt
  clear h
  go_enter Tryz.func30, Tryz.ntmps30
  go_wp2
  go_loop [2] (fun s => s = .int .i64 0) (fun _ => 0)
  case atStart => rfl
  case round =>
    subst hrel
    go_wp2
    go_end0
    exact ⟨rfl, rfl⟩
set_option maxHeartbeats 400000 in
theorem qe_growTenant (h : QBook W B n f) (hf : f 7 = .slice none 0 0) : Calls Tryz.prog 42 #[.pointer (some ⟨B, 0, none⟩)] W fun e w' => e = .returned (.tuple #[]) ∧ W = w' := by
  have r1 := h.cell 7 (.slice none 0 0) (by rw [← hf]; rfl)
  have r2 := h.lt
  clear h
  go_enter Tryz.func42, Tryz.ntmps42
  go_wp2
  go_loop [2] (fun s => s = .int .i64 0) (fun _ => 0)
  case atStart => rfl
  case round =>
    subst hrel
    go_wp2
    go_end0
    exact ⟨rfl, rfl⟩
set_option maxHeartbeats 400000 in
theorem qe_lookTenant (h : QBook W B n f) (hf : f 7 = .slice none 0 0) : Calls Tryz.prog 54 #[.pointer (some ⟨B, 0, none⟩)] W fun e w' => e = .returned (.bool true) ∧ W = w' := by
  have r1 := h.cell 7 (.slice none 0 0) (by rw [← hf]; rfl)
  have r2 := h.lt
  clear h
  go_enter Tryz.func54, Tryz.ntmps54
  go_wp2
  go_loop [3] (fun s => s = .int .i64 0) (fun _ => 0)
  case atStart => rfl
  case round =>
    subst hrel
    go_wp2
    go_ret
    exact ⟨rfl, rfl⟩
set_option maxHeartbeats 400000 in
theorem qe_fillRat (h : QBook W B n f) (hf : f 8 = .slice none 0 0) : Calls Tryz.prog 31 #[.pointer (some ⟨B, 0, none⟩)] W fun e w' => e = .returned (.tuple #[]) ∧ W = w' := by
  have r1 := h.cell 8 (.slice none 0 0) (by rw [← hf]; rfl)
  have r2 := h.lt
  clear h
  go_enter Tryz.func31, Tryz.ntmps31
  go_wp2
  go_loop [2] (fun s => s = .int .i64 0) (fun _ => 0)
  case atStart => rfl
  case round =>
    subst hrel
    go_wp2
    go_end0
    exact ⟨rfl, rfl⟩
set_option maxHeartbeats 400000 in
theorem qe_growRat (h : QBook W B n f) (hf : f 8 = .slice none 0 0) : Calls Tryz.prog 43 #[.pointer (some ⟨B, 0, none⟩)] W fun e w' => e = .returned (.tuple #[]) ∧ W = w' := by
  have r1 := h.cell 8 (.slice none 0 0) (by rw [← hf]; rfl)
  have r2 := h.lt
  clear h
  go_enter Tryz.func43, Tryz.ntmps43
  go_wp2
  go_loop [2] (fun s => s = .int .i64 0) (fun _ => 0)
  case atStart => rfl
  case round =>
    subst hrel
    go_wp2
    go_end0
    exact ⟨rfl, rfl⟩
set_option maxHeartbeats 400000 in
theorem qe_lookRat (h : QBook W B n f) (hf : f 8 = .slice none 0 0) : Calls Tryz.prog 55 #[.pointer (some ⟨B, 0, none⟩)] W fun e w' => e = .returned (.bool true) ∧ W = w' := by
  have r1 := h.cell 8 (.slice none 0 0) (by rw [← hf]; rfl)
  have r2 := h.lt
  clear h
  go_enter Tryz.func55, Tryz.ntmps55
  go_wp2
  go_loop [3] (fun s => s = .int .i64 0) (fun _ => 0)
  case atStart => rfl
  case round =>
    subst hrel
    go_wp2
    go_ret
    exact ⟨rfl, rfl⟩
set_option maxHeartbeats 400000 in
theorem qe_fillVar (h : QBook W B n f) (hf : f 9 = .slice none 0 0) : Calls Tryz.prog 32 #[.pointer (some ⟨B, 0, none⟩)] W fun e w' => e = .returned (.tuple #[]) ∧ W = w' := by
  have r1 := h.cell 9 (.slice none 0 0) (by rw [← hf]; rfl)
  have r2 := h.lt
  clear h
  go_enter Tryz.func32, Tryz.ntmps32
  go_wp2
  go_loop [2] (fun s => s = .int .i64 0) (fun _ => 0)
  case atStart => rfl
  case round =>
    subst hrel
    go_wp2
    go_end0
    exact ⟨rfl, rfl⟩
set_option maxHeartbeats 400000 in
theorem qe_growVar (h : QBook W B n f) (hf : f 9 = .slice none 0 0) : Calls Tryz.prog 44 #[.pointer (some ⟨B, 0, none⟩)] W fun e w' => e = .returned (.tuple #[]) ∧ W = w' := by
  have r1 := h.cell 9 (.slice none 0 0) (by rw [← hf]; rfl)
  have r2 := h.lt
  clear h
  go_enter Tryz.func44, Tryz.ntmps44
  go_wp2
  go_loop [2] (fun s => s = .int .i64 0) (fun _ => 0)
  case atStart => rfl
  case round =>
    subst hrel
    go_wp2
    go_end0
    exact ⟨rfl, rfl⟩
set_option maxHeartbeats 400000 in
theorem qe_lookVar (h : QBook W B n f) (hf : f 9 = .slice none 0 0) : Calls Tryz.prog 56 #[.pointer (some ⟨B, 0, none⟩)] W fun e w' => e = .returned (.bool true) ∧ W = w' := by
  have r1 := h.cell 9 (.slice none 0 0) (by rw [← hf]; rfl)
  have r2 := h.lt
  clear h
  go_enter Tryz.func56, Tryz.ntmps56
  go_wp2
  go_loop [3] (fun s => s = .int .i64 0) (fun _ => 0)
  case atStart => rfl
  case round =>
    subst hrel
    go_wp2
    go_ret
    exact ⟨rfl, rfl⟩
set_option maxHeartbeats 400000 in
theorem qe_fillRow (h : QBook W B n f) (hf : f 10 = .slice none 0 0) : Calls Tryz.prog 33 #[.pointer (some ⟨B, 0, none⟩)] W fun e w' => e = .returned (.tuple #[]) ∧ W = w' := by
  have r1 := h.cell 10 (.slice none 0 0) (by rw [← hf]; rfl)
  have r2 := h.lt
  clear h
  go_enter Tryz.func33, Tryz.ntmps33
  go_wp2
  go_loop [2] (fun s => s = .int .i64 0) (fun _ => 0)
  case atStart => rfl
  case round =>
    subst hrel
    go_wp2
    go_end0
    exact ⟨rfl, rfl⟩
set_option maxHeartbeats 400000 in
theorem qe_growRow (h : QBook W B n f) (hf : f 10 = .slice none 0 0) : Calls Tryz.prog 45 #[.pointer (some ⟨B, 0, none⟩)] W fun e w' => e = .returned (.tuple #[]) ∧ W = w' := by
  have r1 := h.cell 10 (.slice none 0 0) (by rw [← hf]; rfl)
  have r2 := h.lt
  clear h
  go_enter Tryz.func45, Tryz.ntmps45
  go_wp2
  go_loop [2] (fun s => s = .int .i64 0) (fun _ => 0)
  case atStart => rfl
  case round =>
    subst hrel
    go_wp2
    go_end0
    exact ⟨rfl, rfl⟩
set_option maxHeartbeats 400000 in
theorem qe_lookRow (h : QBook W B n f) (hf : f 10 = .slice none 0 0) : Calls Tryz.prog 57 #[.pointer (some ⟨B, 0, none⟩)] W fun e w' => e = .returned (.bool true) ∧ W = w' := by
  have r1 := h.cell 10 (.slice none 0 0) (by rw [← hf]; rfl)
  have r2 := h.lt
  clear h
  go_enter Tryz.func57, Tryz.ntmps57
  go_wp2
  go_loop [3] (fun s => s = .int .i64 0) (fun _ => 0)
  case atStart => rfl
  case round =>
    subst hrel
    go_wp2
    go_ret
    exact ⟨rfl, rfl⟩
set_option maxHeartbeats 400000 in
theorem qe_fillNode (h : QBook W B n f) (hf : f 11 = .slice none 0 0) : Calls Tryz.prog 34 #[.pointer (some ⟨B, 0, none⟩)] W fun e w' => e = .returned (.tuple #[]) ∧ W = w' := by
  have r1 := h.cell 11 (.slice none 0 0) (by rw [← hf]; rfl)
  have r2 := h.lt
  clear h
  go_enter Tryz.func34, Tryz.ntmps34
  go_wp2
  go_loop [2] (fun s => s = .int .i64 0) (fun _ => 0)
  case atStart => rfl
  case round =>
    subst hrel
    go_wp2
    go_end0
    exact ⟨rfl, rfl⟩
set_option maxHeartbeats 400000 in
theorem qe_growNode (h : QBook W B n f) (hf : f 11 = .slice none 0 0) : Calls Tryz.prog 46 #[.pointer (some ⟨B, 0, none⟩)] W fun e w' => e = .returned (.tuple #[]) ∧ W = w' := by
  have r1 := h.cell 11 (.slice none 0 0) (by rw [← hf]; rfl)
  have r2 := h.lt
  clear h
  go_enter Tryz.func46, Tryz.ntmps46
  go_wp2
  go_loop [2] (fun s => s = .int .i64 0) (fun _ => 0)
  case atStart => rfl
  case round =>
    subst hrel
    go_wp2
    go_end0
    exact ⟨rfl, rfl⟩
set_option maxHeartbeats 400000 in
theorem qe_lookNode (h : QBook W B n f) (hf : f 11 = .slice none 0 0) : Calls Tryz.prog 58 #[.pointer (some ⟨B, 0, none⟩)] W fun e w' => e = .returned (.bool true) ∧ W = w' := by
  have r1 := h.cell 11 (.slice none 0 0) (by rw [← hf]; rfl)
  have r2 := h.lt
  clear h
  go_enter Tryz.func58, Tryz.ntmps58
  go_wp2
  go_loop [3] (fun s => s = .int .i64 0) (fun _ => 0)
  case atStart => rfl
  case round =>
    subst hrel
    go_wp2
    go_ret
    exact ⟨rfl, rfl⟩
set_option maxHeartbeats 400000 in
theorem qe_fillJob (h : QBook W B n f) (hf : f 12 = .slice none 0 0) : Calls Tryz.prog 35 #[.pointer (some ⟨B, 0, none⟩)] W fun e w' => e = .returned (.tuple #[]) ∧ W = w' := by
  have r1 := h.cell 12 (.slice none 0 0) (by rw [← hf]; rfl)
  have r2 := h.lt
  clear h
  go_enter Tryz.func35, Tryz.ntmps35
  go_wp2
  go_loop [2] (fun s => s = .int .i64 0) (fun _ => 0)
  case atStart => rfl
  case round =>
    subst hrel
    go_wp2
    go_end0
    exact ⟨rfl, rfl⟩
set_option maxHeartbeats 400000 in
theorem qe_growJob (h : QBook W B n f) (hf : f 12 = .slice none 0 0) : Calls Tryz.prog 47 #[.pointer (some ⟨B, 0, none⟩)] W fun e w' => e = .returned (.tuple #[]) ∧ W = w' := by
  have r1 := h.cell 12 (.slice none 0 0) (by rw [← hf]; rfl)
  have r2 := h.lt
  clear h
  go_enter Tryz.func47, Tryz.ntmps47
  go_wp2
  go_loop [2] (fun s => s = .int .i64 0) (fun _ => 0)
  case atStart => rfl
  case round =>
    subst hrel
    go_wp2
    go_end0
    exact ⟨rfl, rfl⟩
set_option maxHeartbeats 400000 in
theorem qe_lookJob (h : QBook W B n f) (hf : f 12 = .slice none 0 0) : Calls Tryz.prog 59 #[.pointer (some ⟨B, 0, none⟩)] W fun e w' => e = .returned (.bool true) ∧ W = w' := by
  have r1 := h.cell 12 (.slice none 0 0) (by rw [← hf]; rfl)
  have r2 := h.lt
  clear h
  go_enter Tryz.func59, Tryz.ntmps59
  go_wp2
  go_loop [3] (fun s => s = .int .i64 0) (fun _ => 0)
  case atStart => rfl
  case round =>
    subst hrel
    go_wp2
    go_ret
    exact ⟨rfl, rfl⟩
end
end Go.Proofs.YthpbcfoaabacgaaGreatDoor
