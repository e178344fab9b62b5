/- A book's lists that are empty: their calls answer at once. -/
import Derived.Test.YtkkahghhheameaaDoorBq
import Derived.LoopTactic
namespace Go.Proofs.YtkkahghhheameaaDoor
open Go Go.Proofs Go.RowKit Go.Shelf

attribute [local go_sem] Oper.semAt_some

section
variable {W : World} {B n : Nat} {f : Nat → Value}
set_option maxHeartbeats 400000 in
theorem qe_fillByte (h : QBook W B n f) (hf : f 1 = .slice none 0 0) : Calls Tryd.prog 14 #[.pointer (some ⟨B, 0, none⟩)] W fun e w' => e = .returned (.tuple #[]) ∧ W = w' := by
  have r1 := h.cell 1 (.slice none 0 0) (by rw [← hf]; rfl)
  have r2 := h.lt
  clear h
  go_enter Tryd.func14, Tryd.ntmps14
  go_wp2
  go_loop [2] (fun s => s = .int .i64 0) (fun _ => 0)
  case atStart => rfl
  case round =>
    subst hrel
    go_wp2
    go_end0
    exact ⟨rfl, rfl⟩
set_option maxHeartbeats 400000 in
theorem qe_growByte (h : QBook W B n f) (hf : f 1 = .slice none 0 0) : Calls Tryd.prog 26 #[.pointer (some ⟨B, 0, none⟩)] W fun e w' => e = .returned (.tuple #[]) ∧ W = w' := by
  have r1 := h.cell 1 (.slice none 0 0) (by rw [← hf]; rfl)
  have r2 := h.lt
  clear h
  go_enter Tryd.func26, Tryd.ntmps26
  go_wp2
  go_loop [2] (fun s => s = .int .i64 0) (fun _ => 0)
  case atStart => rfl
  case round =>
    subst hrel
    go_wp2
    go_end0
    exact ⟨rfl, rfl⟩
set_option maxHeartbeats 400000 in
theorem qe_lookByte (h : QBook W B n f) (hf : f 1 = .slice none 0 0) : Calls Tryd.prog 38 #[.pointer (some ⟨B, 0, none⟩)] W fun e w' => e = .returned (.bool true) ∧ W = w' := by
  have r1 := h.cell 1 (.slice none 0 0) (by rw [← hf]; rfl)
  have r2 := h.lt
  clear h
  go_enter Tryd.func38, Tryd.ntmps38
  go_wp2
  go_loop [3] (fun s => s = .int .i64 0) (fun _ => 0)
  case atStart => rfl
  case round =>
    subst hrel
    go_wp2
    go_ret
    exact ⟨rfl, rfl⟩
set_option maxHeartbeats 400000 in
theorem qe_fillInt32 (h : QBook W B n f) (hf : f 2 = .slice none 0 0) : Calls Tryd.prog 15 #[.pointer (some ⟨B, 0, none⟩)] W fun e w' => e = .returned (.tuple #[]) ∧ W = w' := by
  have r1 := h.cell 2 (.slice none 0 0) (by rw [← hf]; rfl)
  have r2 := h.lt
  clear h
  go_enter Tryd.func15, Tryd.ntmps15
  go_wp2
  go_loop [2] (fun s => s = .int .i64 0) (fun _ => 0)
  case atStart => rfl
  case round =>
    subst hrel
    go_wp2
    go_end0
    exact ⟨rfl, rfl⟩
set_option maxHeartbeats 400000 in
theorem qe_growInt32 (h : QBook W B n f) (hf : f 2 = .slice none 0 0) : Calls Tryd.prog 27 #[.pointer (some ⟨B, 0, none⟩)] W fun e w' => e = .returned (.tuple #[]) ∧ W = w' := by
  have r1 := h.cell 2 (.slice none 0 0) (by rw [← hf]; rfl)
  have r2 := h.lt
  clear h
  go_enter Tryd.func27, Tryd.ntmps27
  go_wp2
  go_loop [2] (fun s => s = .int .i64 0) (fun _ => 0)
  case atStart => rfl
  case round =>
    subst hrel
    go_wp2
    go_end0
    exact ⟨rfl, rfl⟩
set_option maxHeartbeats 400000 in
theorem qe_lookInt32 (h : QBook W B n f) (hf : f 2 = .slice none 0 0) : Calls Tryd.prog 39 #[.pointer (some ⟨B, 0, none⟩)] W fun e w' => e = .returned (.bool true) ∧ W = w' := by
  have r1 := h.cell 2 (.slice none 0 0) (by rw [← hf]; rfl)
  have r2 := h.lt
  clear h
  go_enter Tryd.func39, Tryd.ntmps39
  go_wp2
  go_loop [3] (fun s => s = .int .i64 0) (fun _ => 0)
  case atStart => rfl
  case round =>
    subst hrel
    go_wp2
    go_ret
    exact ⟨rfl, rfl⟩
set_option maxHeartbeats 400000 in
theorem qe_fillNum (h : QBook W B n f) (hf : f 3 = .slice none 0 0) : Calls Tryd.prog 16 #[.pointer (some ⟨B, 0, none⟩)] W fun e w' => e = .returned (.tuple #[]) ∧ W = w' := by
  have r1 := h.cell 3 (.slice none 0 0) (by rw [← hf]; rfl)
  have r2 := h.lt
  clear h
  go_enter Tryd.func16, Tryd.ntmps16
  go_wp2
  go_loop [2] (fun s => s = .int .i64 0) (fun _ => 0)
  case atStart => rfl
  case round =>
    subst hrel
    go_wp2
    go_end0
    exact ⟨rfl, rfl⟩
set_option maxHeartbeats 400000 in
theorem qe_growNum (h : QBook W B n f) (hf : f 3 = .slice none 0 0) : Calls Tryd.prog 28 #[.pointer (some ⟨B, 0, none⟩)] W fun e w' => e = .returned (.tuple #[]) ∧ W = w' := by
  have r1 := h.cell 3 (.slice none 0 0) (by rw [← hf]; rfl)
  have r2 := h.lt
  clear h
  go_enter Tryd.func28, Tryd.ntmps28
  go_wp2
  go_loop [2] (fun s => s = .int .i64 0) (fun _ => 0)
  case atStart => rfl
  case round =>
    subst hrel
    go_wp2
    go_end0
    exact ⟨rfl, rfl⟩
set_option maxHeartbeats 400000 in
theorem qe_lookNum (h : QBook W B n f) (hf : f 3 = .slice none 0 0) : Calls Tryd.prog 40 #[.pointer (some ⟨B, 0, none⟩)] W fun e w' => e = .returned (.bool true) ∧ W = w' := by
  have r1 := h.cell 3 (.slice none 0 0) (by rw [← hf]; rfl)
  have r2 := h.lt
  clear h
  go_enter Tryd.func40, Tryd.ntmps40
  go_wp2
  go_loop [3] (fun s => s = .int .i64 0) (fun _ => 0)
  case atStart => rfl
  case round =>
    subst hrel
    go_wp2
    go_ret
    exact ⟨rfl, rfl⟩
set_option maxHeartbeats 400000 in
theorem qe_fillBool (h : QBook W B n f) (hf : f 4 = .slice none 0 0) : Calls Tryd.prog 17 #[.pointer (some ⟨B, 0, none⟩)] W fun e w' => e = .returned (.tuple #[]) ∧ W = w' := by
  have r1 := h.cell 4 (.slice none 0 0) (by rw [← hf]; rfl)
  have r2 := h.lt
  clear h
  go_enter Tryd.func17, Tryd.ntmps17
  go_wp2
  go_loop [2] (fun s => s = .int .i64 0) (fun _ => 0)
  case atStart => rfl
  case round =>
    subst hrel
    go_wp2
    go_end0
    exact ⟨rfl, rfl⟩
set_option maxHeartbeats 400000 in
theorem qe_growBool (h : QBook W B n f) (hf : f 4 = .slice none 0 0) : Calls Tryd.prog 29 #[.pointer (some ⟨B, 0, none⟩)] W fun e w' => e = .returned (.tuple #[]) ∧ W = w' := by
  have r1 := h.cell 4 (.slice none 0 0) (by rw [← hf]; rfl)
  have r2 := h.lt
  clear h
  go_enter Tryd.func29, Tryd.ntmps29
  go_wp2
  go_loop [2] (fun s => s = .int .i64 0) (fun _ => 0)
  case atStart => rfl
  case round =>
    subst hrel
    go_wp2
    go_end0
    exact ⟨rfl, rfl⟩
set_option maxHeartbeats 400000 in
theorem qe_lookBool (h : QBook W B n f) (hf : f 4 = .slice none 0 0) : Calls Tryd.prog 41 #[.pointer (some ⟨B, 0, none⟩)] W fun e w' => e = .returned (.bool true) ∧ W = w' := by
  have r1 := h.cell 4 (.slice none 0 0) (by rw [← hf]; rfl)
  have r2 := h.lt
  clear h
  go_enter Tryd.func41, Tryd.ntmps41
  go_wp2
  go_loop [3] (fun s => s = .int .i64 0) (fun _ => 0)
  case atStart => rfl
  case round =>
    subst hrel
    go_wp2
    go_ret
    exact ⟨rfl, rfl⟩
set_option maxHeartbeats 400000 in
theorem qe_fillText (h : QBook W B n f) (hf : f 5 = .slice none 0 0) : Calls Tryd.prog 18 #[.pointer (some ⟨B, 0, none⟩)] W fun e w' => e = .returned (.tuple #[]) ∧ W = w' := by
  have r1 := h.cell 5 (.slice none 0 0) (by rw [← hf]; rfl)
  have r2 := h.lt
  clear h
  go_enter Tryd.func18, Tryd.ntmps18
  go_wp2
  go_loop [2] (fun s => s = .int .i64 0) (fun _ => 0)
  case atStart => rfl
  case round =>
    subst hrel
    go_wp2
    go_end0
    exact ⟨rfl, rfl⟩
set_option maxHeartbeats 400000 in
theorem qe_growText (h : QBook W B n f) (hf : f 5 = .slice none 0 0) : Calls Tryd.prog 30 #[.pointer (some ⟨B, 0, none⟩)] W fun e w' => e = .returned (.tuple #[]) ∧ W = w' := by
  have r1 := h.cell 5 (.slice none 0 0) (by rw [← hf]; rfl)
  have r2 := h.lt
  clear h
  go_enter Tryd.func30, Tryd.ntmps30
  go_wp2
  go_loop [2] (fun s => s = .int .i64 0) (fun _ => 0)
  case atStart => rfl
  case round =>
    subst hrel
    go_wp2
    go_end0
    exact ⟨rfl, rfl⟩
set_option maxHeartbeats 400000 in
theorem qe_lookText (h : QBook W B n f) (hf : f 5 = .slice none 0 0) : Calls Tryd.prog 42 #[.pointer (some ⟨B, 0, none⟩)] W fun e w' => e = .returned (.bool true) ∧ W = w' := by
  have r1 := h.cell 5 (.slice none 0 0) (by rw [← hf]; rfl)
  have r2 := h.lt
  clear h
  go_enter Tryd.func42, Tryd.ntmps42
  go_wp2
  go_loop [3] (fun s => s = .int .i64 0) (fun _ => 0)
  case atStart => rfl
  case round =>
    subst hrel
    go_wp2
    go_ret
    exact ⟨rfl, rfl⟩
set_option maxHeartbeats 400000 in
theorem qe_fillToken (h : QBook W B n f) (hf : f 6 = .slice none 0 0) : Calls Tryd.prog 19 #[.pointer (some ⟨B, 0, none⟩)] W fun e w' => e = .returned (.tuple #[]) ∧ W = w' := by
  have r1 := h.cell 6 (.slice none 0 0) (by rw [← hf]; rfl)
  have r2 := h.lt
  clear h
  go_enter Tryd.func19, Tryd.ntmps19
  go_wp2
  go_loop [2] (fun s => s = .int .i64 0) (fun _ => 0)
  case atStart => rfl
  case round =>
    subst hrel
    go_wp2
    go_end0
    exact ⟨rfl, rfl⟩
set_option maxHeartbeats 400000 in
theorem qe_growToken (h : QBook W B n f) (hf : f 6 = .slice none 0 0) : Calls Tryd.prog 31 #[.pointer (some ⟨B, 0, none⟩)] W fun e w' => e = .returned (.tuple #[]) ∧ W = w' := by
  have r1 := h.cell 6 (.slice none 0 0) (by rw [← hf]; rfl)
  have r2 := h.lt
  clear h
  go_enter Tryd.func31, Tryd.ntmps31
  go_wp2
  go_loop [2] (fun s => s = .int .i64 0) (fun _ => 0)
  case atStart => rfl
  case round =>
    subst hrel
    go_wp2
    go_end0
    exact ⟨rfl, rfl⟩
set_option maxHeartbeats 400000 in
theorem qe_lookToken (h : QBook W B n f) (hf : f 6 = .slice none 0 0) : Calls Tryd.prog 43 #[.pointer (some ⟨B, 0, none⟩)] W fun e w' => e = .returned (.bool true) ∧ W = w' := by
  have r1 := h.cell 6 (.slice none 0 0) (by rw [← hf]; rfl)
  have r2 := h.lt
  clear h
  go_enter Tryd.func43, Tryd.ntmps43
  go_wp2
  go_loop [3] (fun s => s = .int .i64 0) (fun _ => 0)
  case atStart => rfl
  case round =>
    subst hrel
    go_wp2
    go_ret
    exact ⟨rfl, rfl⟩
set_option maxHeartbeats 400000 in
theorem qe_fillTenant (h : QBook W B n f) (hf : f 7 = .slice none 0 0) : Calls Tryd.prog 20 #[.pointer (some ⟨B, 0, none⟩)] W fun e w' => e = .returned (.tuple #[]) ∧ W = w' := by
  have r1 := h.cell 7 (.slice none 0 0) (by rw [← hf]; rfl)
  have r2 := h.lt
  clear h
  go_enter Tryd.func20, Tryd.ntmps20
  go_wp2
  go_loop [2] (fun s => s = .int .i64 0) (fun _ => 0)
  case atStart => rfl
  case round =>
    subst hrel
    go_wp2
    go_end0
    exact ⟨rfl, rfl⟩
set_option maxHeartbeats 400000 in
theorem qe_growTenant (h : QBook W B n f) (hf : f 7 = .slice none 0 0) : Calls Tryd.prog 32 #[.pointer (some ⟨B, 0, none⟩)] W fun e w' => e = .returned (.tuple #[]) ∧ W = w' := by
  have r1 := h.cell 7 (.slice none 0 0) (by rw [← hf]; rfl)
  have r2 := h.lt
  clear h
  go_enter Tryd.func32, Tryd.ntmps32
  go_wp2
  go_loop [2] (fun s => s = .int .i64 0) (fun _ => 0)
  case atStart => rfl
  case round =>
    subst hrel
    go_wp2
    go_end0
    exact ⟨rfl, rfl⟩
set_option maxHeartbeats 400000 in
theorem qe_lookTenant (h : QBook W B n f) (hf : f 7 = .slice none 0 0) : Calls Tryd.prog 44 #[.pointer (some ⟨B, 0, none⟩)] W fun e w' => e = .returned (.bool true) ∧ W = w' := by
  have r1 := h.cell 7 (.slice none 0 0) (by rw [← hf]; rfl)
  have r2 := h.lt
  clear h
  go_enter Tryd.func44, Tryd.ntmps44
  go_wp2
  go_loop [3] (fun s => s = .int .i64 0) (fun _ => 0)
  case atStart => rfl
  case round =>
    subst hrel
    go_wp2
    go_ret
    exact ⟨rfl, rfl⟩
set_option maxHeartbeats 400000 in
theorem qe_fillRat (h : QBook W B n f) (hf : f 8 = .slice none 0 0) : Calls Tryd.prog 21 #[.pointer (some ⟨B, 0, none⟩)] W fun e w' => e = .returned (.tuple #[]) ∧ W = w' := by
  have r1 := h.cell 8 (.slice none 0 0) (by rw [← hf]; rfl)
  have r2 := h.lt
  clear h
  go_enter Tryd.func21, Tryd.ntmps21
  go_wp2
  go_loop [2] (fun s => s = .int .i64 0) (fun _ => 0)
  case atStart => rfl
  case round =>
    subst hrel
    go_wp2
    go_end0
    exact ⟨rfl, rfl⟩
set_option maxHeartbeats 400000 in
theorem qe_growRat (h : QBook W B n f) (hf : f 8 = .slice none 0 0) : Calls Tryd.prog 33 #[.pointer (some ⟨B, 0, none⟩)] W fun e w' => e = .returned (.tuple #[]) ∧ W = w' := by
  have r1 := h.cell 8 (.slice none 0 0) (by rw [← hf]; rfl)
  have r2 := h.lt
  clear h
  go_enter Tryd.func33, Tryd.ntmps33
  go_wp2
  go_loop [2] (fun s => s = .int .i64 0) (fun _ => 0)
  case atStart => rfl
  case round =>
    subst hrel
    go_wp2
    go_end0
    exact ⟨rfl, rfl⟩
set_option maxHeartbeats 400000 in
theorem qe_lookRat (h : QBook W B n f) (hf : f 8 = .slice none 0 0) : Calls Tryd.prog 45 #[.pointer (some ⟨B, 0, none⟩)] W fun e w' => e = .returned (.bool true) ∧ W = w' := by
  have r1 := h.cell 8 (.slice none 0 0) (by rw [← hf]; rfl)
  have r2 := h.lt
  clear h
  go_enter Tryd.func45, Tryd.ntmps45
  go_wp2
  go_loop [3] (fun s => s = .int .i64 0) (fun _ => 0)
  case atStart => rfl
  case round =>
    subst hrel
    go_wp2
    go_ret
    exact ⟨rfl, rfl⟩
set_option maxHeartbeats 400000 in
theorem qe_fillVar (h : QBook W B n f) (hf : f 9 = .slice none 0 0) : Calls Tryd.prog 22 #[.pointer (some ⟨B, 0, none⟩)] W fun e w' => e = .returned (.tuple #[]) ∧ W = w' := by
  have r1 := h.cell 9 (.slice none 0 0) (by rw [← hf]; rfl)
  have r2 := h.lt
  clear h
  go_enter Tryd.func22, Tryd.ntmps22
  go_wp2
  go_loop [2] (fun s => s = .int .i64 0) (fun _ => 0)
  case atStart => rfl
  case round =>
    subst hrel
    go_wp2
    go_end0
    exact ⟨rfl, rfl⟩
set_option maxHeartbeats 400000 in
theorem qe_growVar (h : QBook W B n f) (hf : f 9 = .slice none 0 0) : Calls Tryd.prog 34 #[.pointer (some ⟨B, 0, none⟩)] W fun e w' => e = .returned (.tuple #[]) ∧ W = w' := by
  have r1 := h.cell 9 (.slice none 0 0) (by rw [← hf]; rfl)
  have r2 := h.lt
  clear h
  go_enter Tryd.func34, Tryd.ntmps34
  go_wp2
  go_loop [2] (fun s => s = .int .i64 0) (fun _ => 0)
  case atStart => rfl
  case round =>
    subst hrel
    go_wp2
    go_end0
    exact ⟨rfl, rfl⟩
set_option maxHeartbeats 400000 in
theorem qe_lookVar (h : QBook W B n f) (hf : f 9 = .slice none 0 0) : Calls Tryd.prog 46 #[.pointer (some ⟨B, 0, none⟩)] W fun e w' => e = .returned (.bool true) ∧ W = w' := by
  have r1 := h.cell 9 (.slice none 0 0) (by rw [← hf]; rfl)
  have r2 := h.lt
  clear h
  go_enter Tryd.func46, Tryd.ntmps46
  go_wp2
  go_loop [3] (fun s => s = .int .i64 0) (fun _ => 0)
  case atStart => rfl
  case round =>
    subst hrel
    go_wp2
    go_ret
    exact ⟨rfl, rfl⟩
set_option maxHeartbeats 400000 in
theorem qe_fillRow (h : QBook W B n f) (hf : f 10 = .slice none 0 0) : Calls Tryd.prog 23 #[.pointer (some ⟨B, 0, none⟩)] W fun e w' => e = .returned (.tuple #[]) ∧ W = w' := by
  have r1 := h.cell 10 (.slice none 0 0) (by rw [← hf]; rfl)
  have r2 := h.lt
  clear h
  go_enter Tryd.func23, Tryd.ntmps23
  go_wp2
  go_loop [2] (fun s => s = .int .i64 0) (fun _ => 0)
  case atStart => rfl
  case round =>
    subst hrel
    go_wp2
    go_end0
    exact ⟨rfl, rfl⟩
set_option maxHeartbeats 400000 in
theorem qe_growRow (h : QBook W B n f) (hf : f 10 = .slice none 0 0) : Calls Tryd.prog 35 #[.pointer (some ⟨B, 0, none⟩)] W fun e w' => e = .returned (.tuple #[]) ∧ W = w' := by
  have r1 := h.cell 10 (.slice none 0 0) (by rw [← hf]; rfl)
  have r2 := h.lt
  clear h
  go_enter Tryd.func35, Tryd.ntmps35
  go_wp2
  go_loop [2] (fun s => s = .int .i64 0) (fun _ => 0)
  case atStart => rfl
  case round =>
    subst hrel
    go_wp2
    go_end0
    exact ⟨rfl, rfl⟩
set_option maxHeartbeats 400000 in
theorem qe_lookRow (h : QBook W B n f) (hf : f 10 = .slice none 0 0) : Calls Tryd.prog 47 #[.pointer (some ⟨B, 0, none⟩)] W fun e w' => e = .returned (.bool true) ∧ W = w' := by
  have r1 := h.cell 10 (.slice none 0 0) (by rw [← hf]; rfl)
  have r2 := h.lt
  clear h
  go_enter Tryd.func47, Tryd.ntmps47
  go_wp2
  go_loop [3] (fun s => s = .int .i64 0) (fun _ => 0)
  case atStart => rfl
  case round =>
    subst hrel
    go_wp2
    go_ret
    exact ⟨rfl, rfl⟩
set_option maxHeartbeats 400000 in
theorem qe_fillNode (h : QBook W B n f) (hf : f 11 = .slice none 0 0) : Calls Tryd.prog 24 #[.pointer (some ⟨B, 0, none⟩)] W fun e w' => e = .returned (.tuple #[]) ∧ W = w' := by
  have r1 := h.cell 11 (.slice none 0 0) (by rw [← hf]; rfl)
  have r2 := h.lt
  clear h
  go_enter Tryd.func24, Tryd.ntmps24
  go_wp2
  go_loop [2] (fun s => s = .int .i64 0) (fun _ => 0)
  case atStart => rfl
  case round =>
    subst hrel
    go_wp2
    go_end0
    exact ⟨rfl, rfl⟩
set_option maxHeartbeats 400000 in
theorem qe_growNode (h : QBook W B n f) (hf : f 11 = .slice none 0 0) : Calls Tryd.prog 36 #[.pointer (some ⟨B, 0, none⟩)] W fun e w' => e = .returned (.tuple #[]) ∧ W = w' := by
  have r1 := h.cell 11 (.slice none 0 0) (by rw [← hf]; rfl)
  have r2 := h.lt
  clear h
  go_enter Tryd.func36, Tryd.ntmps36
  go_wp2
  go_loop [2] (fun s => s = .int .i64 0) (fun _ => 0)
  case atStart => rfl
  case round =>
    subst hrel
    go_wp2
    go_end0
    exact ⟨rfl, rfl⟩
set_option maxHeartbeats 400000 in
theorem qe_lookNode (h : QBook W B n f) (hf : f 11 = .slice none 0 0) : Calls Tryd.prog 48 #[.pointer (some ⟨B, 0, none⟩)] W fun e w' => e = .returned (.bool true) ∧ W = w' := by
  have r1 := h.cell 11 (.slice none 0 0) (by rw [← hf]; rfl)
  have r2 := h.lt
  clear h
  go_enter Tryd.func48, Tryd.ntmps48
  go_wp2
  go_loop [3] (fun s => s = .int .i64 0) (fun _ => 0)
  case atStart => rfl
  case round =>
    subst hrel
    go_wp2
    go_ret
    exact ⟨rfl, rfl⟩
set_option maxHeartbeats 400000 in
theorem qe_fillJob (h : QBook W B n f) (hf : f 12 = .slice none 0 0) : Calls Tryd.prog 25 #[.pointer (some ⟨B, 0, none⟩)] W fun e w' => e = .returned (.tuple #[]) ∧ W = w' := by
  have r1 := h.cell 12 (.slice none 0 0) (by rw [← hf]; rfl)
  have r2 := h.lt
  clear h
  go_enter Tryd.func25, Tryd.ntmps25
  go_wp2
  go_loop [2] (fun s => s = .int .i64 0) (fun _ => 0)
  case atStart => rfl
  case round =>
    subst hrel
    go_wp2
    go_end0
    exact ⟨rfl, rfl⟩
set_option maxHeartbeats 400000 in
theorem qe_growJob (h : QBook W B n f) (hf : f 12 = .slice none 0 0) : Calls Tryd.prog 37 #[.pointer (some ⟨B, 0, none⟩)] W fun e w' => e = .returned (.tuple #[]) ∧ W = w' := by
  have r1 := h.cell 12 (.slice none 0 0) (by rw [← hf]; rfl)
  have r2 := h.lt
  clear h
  go_enter Tryd.func37, Tryd.ntmps37
  go_wp2
  go_loop [2] (fun s => s = .int .i64 0) (fun _ => 0)
  case atStart => rfl
  case round =>
    subst hrel
    go_wp2
    go_end0
    exact ⟨rfl, rfl⟩
set_option maxHeartbeats 400000 in
theorem qe_lookJob (h : QBook W B n f) (hf : f 12 = .slice none 0 0) : Calls Tryd.prog 49 #[.pointer (some ⟨B, 0, none⟩)] W fun e w' => e = .returned (.bool true) ∧ W = w' := by
  have r1 := h.cell 12 (.slice none 0 0) (by rw [← hf]; rfl)
  have r2 := h.lt
  clear h
  go_enter Tryd.func49, Tryd.ntmps49
  go_wp2
  go_loop [3] (fun s => s = .int .i64 0) (fun _ => 0)
  case atStart => rfl
  case round =>
    subst hrel
    go_wp2
    go_ret
    exact ⟨rfl, rfl⟩
end
end Go.Proofs.YtkkahghhheameaaDoor
