/- A book's other lists, which are empty: their calls answer at once. -/
import Derived.Test.YtmbnojkciikobaaGreatDoorBook
namespace Go.Proofs.YtmbnojkciikobaaGreatDoor
open Go Go.Proofs Go.RowKit Go.Shelf Nu

attribute [local go_sem] Oper.semAt_some

section
variable {W : World} {B n : Nat} {v : Value}
set_option maxHeartbeats 400000 in
theorem bk_fillByte (h : BookAt W B n v) : Calls Tryz.prog 77 #[.pointer (some ⟨B, 0, none⟩)] W fun e w' => e = .returned (.tuple #[]) ∧ W = w' := by
  have r1 := h.cell 1 (.slice none 0 0) rfl
  have r2 := h.lt
  clear h
  go_enter Tryz.func77, Tryz.ntmps77
  go_wp2
  go_loop [2] (fun s => s = .int .i64 0) (fun _ => 0)
  case atStart => rfl
  case round =>
    subst hrel
    go_wp2
    go_end0
    exact ⟨rfl, rfl⟩
set_option maxHeartbeats 400000 in
theorem bk_growByte (h : BookAt W B n v) : Calls Tryz.prog 89 #[.pointer (some ⟨B, 0, none⟩)] W fun e w' => e = .returned (.tuple #[]) ∧ W = w' := by
  have r1 := h.cell 1 (.slice none 0 0) rfl
  have r2 := h.lt
  clear h
  go_enter Tryz.func89, Tryz.ntmps89
  go_wp2
  go_loop [2] (fun s => s = .int .i64 0) (fun _ => 0)
  case atStart => rfl
  case round =>
    subst hrel
    go_wp2
    go_end0
    exact ⟨rfl, rfl⟩
set_option maxHeartbeats 400000 in
theorem bk_lookByte (h : BookAt W B n v) : Calls Tryz.prog 101 #[.pointer (some ⟨B, 0, none⟩)] W fun e w' => e = .returned (.bool true) ∧ W = w' := by
  have r1 := h.cell 1 (.slice none 0 0) rfl
  have r2 := h.lt
  clear h
  go_enter Tryz.func101, Tryz.ntmps101
  go_wp2
  go_loop [3] (fun s => s = .int .i64 0) (fun _ => 0)
  case atStart => rfl
  case round =>
    subst hrel
    go_wp2
    go_ret
    exact ⟨rfl, rfl⟩
set_option maxHeartbeats 400000 in
theorem bk_fillNum (h : BookAt W B n v) : Calls Tryz.prog 79 #[.pointer (some ⟨B, 0, none⟩)] W fun e w' => e = .returned (.tuple #[]) ∧ W = w' := by
  have r1 := h.cell 3 (.slice none 0 0) rfl
  have r2 := h.lt
  clear h
  go_enter Tryz.func79, Tryz.ntmps79
  go_wp2
  go_loop [2] (fun s => s = .int .i64 0) (fun _ => 0)
  case atStart => rfl
  case round =>
    subst hrel
    go_wp2
    go_end0
    exact ⟨rfl, rfl⟩
set_option maxHeartbeats 400000 in
theorem bk_growNum (h : BookAt W B n v) : Calls Tryz.prog 91 #[.pointer (some ⟨B, 0, none⟩)] W fun e w' => e = .returned (.tuple #[]) ∧ W = w' := by
  have r1 := h.cell 3 (.slice none 0 0) rfl
  have r2 := h.lt
  clear h
  go_enter Tryz.func91, Tryz.ntmps91
  go_wp2
  go_loop [2] (fun s => s = .int .i64 0) (fun _ => 0)
  case atStart => rfl
  case round =>
    subst hrel
    go_wp2
    go_end0
    exact ⟨rfl, rfl⟩
set_option maxHeartbeats 400000 in
theorem bk_lookNum (h : BookAt W B n v) : Calls Tryz.prog 103 #[.pointer (some ⟨B, 0, none⟩)] W fun e w' => e = .returned (.bool true) ∧ W = w' := by
  have r1 := h.cell 3 (.slice none 0 0) rfl
  have r2 := h.lt
  clear h
  go_enter Tryz.func103, Tryz.ntmps103
  go_wp2
  go_loop [3] (fun s => s = .int .i64 0) (fun _ => 0)
  case atStart => rfl
  case round =>
    subst hrel
    go_wp2
    go_ret
    exact ⟨rfl, rfl⟩
set_option maxHeartbeats 400000 in
theorem bk_fillBool (h : BookAt W B n v) : Calls Tryz.prog 80 #[.pointer (some ⟨B, 0, none⟩)] W fun e w' => e = .returned (.tuple #[]) ∧ W = w' := by
  have r1 := h.cell 4 (.slice none 0 0) rfl
  have r2 := h.lt
  clear h
  go_enter Tryz.func80, Tryz.ntmps80
  go_wp2
  go_loop [2] (fun s => s = .int .i64 0) (fun _ => 0)
  case atStart => rfl
  case round =>
    subst hrel
    go_wp2
    go_end0
    exact ⟨rfl, rfl⟩
set_option maxHeartbeats 400000 in
theorem bk_growBool (h : BookAt W B n v) : Calls Tryz.prog 92 #[.pointer (some ⟨B, 0, none⟩)] W fun e w' => e = .returned (.tuple #[]) ∧ W = w' := by
  have r1 := h.cell 4 (.slice none 0 0) rfl
  have r2 := h.lt
  clear h
  go_enter Tryz.func92, Tryz.ntmps92
  go_wp2
  go_loop [2] (fun s => s = .int .i64 0) (fun _ => 0)
  case atStart => rfl
  case round =>
    subst hrel
    go_wp2
    go_end0
    exact ⟨rfl, rfl⟩
set_option maxHeartbeats 400000 in
theorem bk_lookBool (h : BookAt W B n v) : Calls Tryz.prog 104 #[.pointer (some ⟨B, 0, none⟩)] W fun e w' => e = .returned (.bool true) ∧ W = w' := by
  have r1 := h.cell 4 (.slice none 0 0) rfl
  have r2 := h.lt
  clear h
  go_enter Tryz.func104, Tryz.ntmps104
  go_wp2
  go_loop [3] (fun s => s = .int .i64 0) (fun _ => 0)
  case atStart => rfl
  case round =>
    subst hrel
    go_wp2
    go_ret
    exact ⟨rfl, rfl⟩
set_option maxHeartbeats 400000 in
theorem bk_fillText (h : BookAt W B n v) : Calls Tryz.prog 81 #[.pointer (some ⟨B, 0, none⟩)] W fun e w' => e = .returned (.tuple #[]) ∧ W = w' := by
  have r1 := h.cell 5 (.slice none 0 0) rfl
  have r2 := h.lt
  clear h
  go_enter Tryz.func81, Tryz.ntmps81
  go_wp2
  go_loop [2] (fun s => s = .int .i64 0) (fun _ => 0)
  case atStart => rfl
  case round =>
    subst hrel
    go_wp2
    go_end0
    exact ⟨rfl, rfl⟩
set_option maxHeartbeats 400000 in
theorem bk_growText (h : BookAt W B n v) : Calls Tryz.prog 93 #[.pointer (some ⟨B, 0, none⟩)] W fun e w' => e = .returned (.tuple #[]) ∧ W = w' := by
  have r1 := h.cell 5 (.slice none 0 0) rfl
  have r2 := h.lt
  clear h
  go_enter Tryz.func93, Tryz.ntmps93
  go_wp2
  go_loop [2] (fun s => s = .int .i64 0) (fun _ => 0)
  case atStart => rfl
  case round =>
    subst hrel
    go_wp2
    go_end0
    exact ⟨rfl, rfl⟩
set_option maxHeartbeats 400000 in
theorem bk_lookText (h : BookAt W B n v) : Calls Tryz.prog 105 #[.pointer (some ⟨B, 0, none⟩)] W fun e w' => e = .returned (.bool true) ∧ W = w' := by
  have r1 := h.cell 5 (.slice none 0 0) rfl
  have r2 := h.lt
  clear h
  go_enter Tryz.func105, Tryz.ntmps105
  go_wp2
  go_loop [3] (fun s => s = .int .i64 0) (fun _ => 0)
  case atStart => rfl
  case round =>
    subst hrel
    go_wp2
    go_ret
    exact ⟨rfl, rfl⟩
set_option maxHeartbeats 400000 in
theorem bk_fillToken (h : BookAt W B n v) : Calls Tryz.prog 82 #[.pointer (some ⟨B, 0, none⟩)] W fun e w' => e = .returned (.tuple #[]) ∧ W = w' := by
  have r1 := h.cell 6 (.slice none 0 0) rfl
  have r2 := h.lt
  clear h
  go_enter Tryz.func82, Tryz.ntmps82
  go_wp2
  go_loop [2] (fun s => s = .int .i64 0) (fun _ => 0)
  case atStart => rfl
  case round =>
    subst hrel
    go_wp2
    go_end0
    exact ⟨rfl, rfl⟩
set_option maxHeartbeats 400000 in
theorem bk_growToken (h : BookAt W B n v) : Calls Tryz.prog 94 #[.pointer (some ⟨B, 0, none⟩)] W fun e w' => e = .returned (.tuple #[]) ∧ W = w' := by
  have r1 := h.cell 6 (.slice none 0 0) rfl
  have r2 := h.lt
  clear h
  go_enter Tryz.func94, Tryz.ntmps94
  go_wp2
  go_loop [2] (fun s => s = .int .i64 0) (fun _ => 0)
  case atStart => rfl
  case round =>
    subst hrel
    go_wp2
    go_end0
    exact ⟨rfl, rfl⟩
set_option maxHeartbeats 400000 in
theorem bk_lookToken (h : BookAt W B n v) : Calls Tryz.prog 106 #[.pointer (some ⟨B, 0, none⟩)] W fun e w' => e = .returned (.bool true) ∧ W = w' := by
  have r1 := h.cell 6 (.slice none 0 0) rfl
  have r2 := h.lt
  clear h
  go_enter Tryz.func106, Tryz.ntmps106
  go_wp2
  go_loop [3] (fun s => s = .int .i64 0) (fun _ => 0)
  case atStart => rfl
  case round =>
    subst hrel
    go_wp2
    go_ret
    exact ⟨rfl, rfl⟩
set_option maxHeartbeats 400000 in
theorem bk_fillTenant (h : BookAt W B n v) : Calls Tryz.prog 83 #[.pointer (some ⟨B, 0, none⟩)] W fun e w' => e = .returned (.tuple #[]) ∧ W = w' := by
  have r1 := h.cell 7 (.slice none 0 0) rfl
  have r2 := h.lt
  clear h
  go_enter Tryz.func83, Tryz.ntmps83
  go_wp2
  go_loop [2] (fun s => s = .int .i64 0) (fun _ => 0)
  case atStart => rfl
  case round =>
    subst hrel
    go_wp2
    go_end0
    exact ⟨rfl, rfl⟩
set_option maxHeartbeats 400000 in
theorem bk_growTenant (h : BookAt W B n v) : Calls Tryz.prog 95 #[.pointer (some ⟨B, 0, none⟩)] W fun e w' => e = .returned (.tuple #[]) ∧ W = w' := by
  have r1 := h.cell 7 (.slice none 0 0) rfl
  have r2 := h.lt
  clear h
  go_enter Tryz.func95, Tryz.ntmps95
  go_wp2
  go_loop [2] (fun s => s = .int .i64 0) (fun _ => 0)
  case atStart => rfl
  case round =>
    subst hrel
    go_wp2
    go_end0
    exact ⟨rfl, rfl⟩
set_option maxHeartbeats 400000 in
theorem bk_lookTenant (h : BookAt W B n v) : Calls Tryz.prog 107 #[.pointer (some ⟨B, 0, none⟩)] W fun e w' => e = .returned (.bool true) ∧ W = w' := by
  have r1 := h.cell 7 (.slice none 0 0) rfl
  have r2 := h.lt
  clear h
  go_enter Tryz.func107, Tryz.ntmps107
  go_wp2
  go_loop [3] (fun s => s = .int .i64 0) (fun _ => 0)
  case atStart => rfl
  case round =>
    subst hrel
    go_wp2
    go_ret
    exact ⟨rfl, rfl⟩
set_option maxHeartbeats 400000 in
theorem bk_fillRat (h : BookAt W B n v) : Calls Tryz.prog 84 #[.pointer (some ⟨B, 0, none⟩)] W fun e w' => e = .returned (.tuple #[]) ∧ W = w' := by
  have r1 := h.cell 8 (.slice none 0 0) rfl
  have r2 := h.lt
  clear h
  go_enter Tryz.func84, Tryz.ntmps84
  go_wp2
  go_loop [2] (fun s => s = .int .i64 0) (fun _ => 0)
  case atStart => rfl
  case round =>
    subst hrel
    go_wp2
    go_end0
    exact ⟨rfl, rfl⟩
set_option maxHeartbeats 400000 in
theorem bk_growRat (h : BookAt W B n v) : Calls Tryz.prog 96 #[.pointer (some ⟨B, 0, none⟩)] W fun e w' => e = .returned (.tuple #[]) ∧ W = w' := by
  have r1 := h.cell 8 (.slice none 0 0) rfl
  have r2 := h.lt
  clear h
  go_enter Tryz.func96, Tryz.ntmps96
  go_wp2
  go_loop [2] (fun s => s = .int .i64 0) (fun _ => 0)
  case atStart => rfl
  case round =>
    subst hrel
    go_wp2
    go_end0
    exact ⟨rfl, rfl⟩
set_option maxHeartbeats 400000 in
theorem bk_lookRat (h : BookAt W B n v) : Calls Tryz.prog 108 #[.pointer (some ⟨B, 0, none⟩)] W fun e w' => e = .returned (.bool true) ∧ W = w' := by
  have r1 := h.cell 8 (.slice none 0 0) rfl
  have r2 := h.lt
  clear h
  go_enter Tryz.func108, Tryz.ntmps108
  go_wp2
  go_loop [3] (fun s => s = .int .i64 0) (fun _ => 0)
  case atStart => rfl
  case round =>
    subst hrel
    go_wp2
    go_ret
    exact ⟨rfl, rfl⟩
set_option maxHeartbeats 400000 in
theorem bk_fillVar (h : BookAt W B n v) : Calls Tryz.prog 85 #[.pointer (some ⟨B, 0, none⟩)] W fun e w' => e = .returned (.tuple #[]) ∧ W = w' := by
  have r1 := h.cell 9 (.slice none 0 0) rfl
  have r2 := h.lt
  clear h
  go_enter Tryz.func85, Tryz.ntmps85
  go_wp2
  go_loop [2] (fun s => s = .int .i64 0) (fun _ => 0)
  case atStart => rfl
  case round =>
    subst hrel
    go_wp2
    go_end0
    exact ⟨rfl, rfl⟩
set_option maxHeartbeats 400000 in
theorem bk_growVar (h : BookAt W B n v) : Calls Tryz.prog 97 #[.pointer (some ⟨B, 0, none⟩)] W fun e w' => e = .returned (.tuple #[]) ∧ W = w' := by
  have r1 := h.cell 9 (.slice none 0 0) rfl
  have r2 := h.lt
  clear h
  go_enter Tryz.func97, Tryz.ntmps97
  go_wp2
  go_loop [2] (fun s => s = .int .i64 0) (fun _ => 0)
  case atStart => rfl
  case round =>
    subst hrel
    go_wp2
    go_end0
    exact ⟨rfl, rfl⟩
set_option maxHeartbeats 400000 in
theorem bk_lookVar (h : BookAt W B n v) : Calls Tryz.prog 109 #[.pointer (some ⟨B, 0, none⟩)] W fun e w' => e = .returned (.bool true) ∧ W = w' := by
  have r1 := h.cell 9 (.slice none 0 0) rfl
  have r2 := h.lt
  clear h
  go_enter Tryz.func109, Tryz.ntmps109
  go_wp2
  go_loop [3] (fun s => s = .int .i64 0) (fun _ => 0)
  case atStart => rfl
  case round =>
    subst hrel
    go_wp2
    go_ret
    exact ⟨rfl, rfl⟩
set_option maxHeartbeats 400000 in
theorem bk_fillRow (h : BookAt W B n v) : Calls Tryz.prog 86 #[.pointer (some ⟨B, 0, none⟩)] W fun e w' => e = .returned (.tuple #[]) ∧ W = w' := by
  have r1 := h.cell 10 (.slice none 0 0) rfl
  have r2 := h.lt
  clear h
  go_enter Tryz.func86, Tryz.ntmps86
  go_wp2
  go_loop [2] (fun s => s = .int .i64 0) (fun _ => 0)
  case atStart => rfl
  case round =>
    subst hrel
    go_wp2
    go_end0
    exact ⟨rfl, rfl⟩
set_option maxHeartbeats 400000 in
theorem bk_growRow (h : BookAt W B n v) : Calls Tryz.prog 98 #[.pointer (some ⟨B, 0, none⟩)] W fun e w' => e = .returned (.tuple #[]) ∧ W = w' := by
  have r1 := h.cell 10 (.slice none 0 0) rfl
  have r2 := h.lt
  clear h
  go_enter Tryz.func98, Tryz.ntmps98
  go_wp2
  go_loop [2] (fun s => s = .int .i64 0) (fun _ => 0)
  case atStart => rfl
  case round =>
    subst hrel
    go_wp2
    go_end0
    exact ⟨rfl, rfl⟩
set_option maxHeartbeats 400000 in
theorem bk_lookRow (h : BookAt W B n v) : Calls Tryz.prog 110 #[.pointer (some ⟨B, 0, none⟩)] W fun e w' => e = .returned (.bool true) ∧ W = w' := by
  have r1 := h.cell 10 (.slice none 0 0) rfl
  have r2 := h.lt
  clear h
  go_enter Tryz.func110, Tryz.ntmps110
  go_wp2
  go_loop [3] (fun s => s = .int .i64 0) (fun _ => 0)
  case atStart => rfl
  case round =>
    subst hrel
    go_wp2
    go_ret
    exact ⟨rfl, rfl⟩
set_option maxHeartbeats 400000 in
theorem bk_fillNode (h : BookAt W B n v) : Calls Tryz.prog 87 #[.pointer (some ⟨B, 0, none⟩)] W fun e w' => e = .returned (.tuple #[]) ∧ W = w' := by
  have r1 := h.cell 11 (.slice none 0 0) rfl
  have r2 := h.lt
  clear h
  go_enter Tryz.func87, Tryz.ntmps87
  go_wp2
  go_loop [2] (fun s => s = .int .i64 0) (fun _ => 0)
  case atStart => rfl
  case round =>
    subst hrel
    go_wp2
    go_end0
    exact ⟨rfl, rfl⟩
set_option maxHeartbeats 400000 in
theorem bk_growNode (h : BookAt W B n v) : Calls Tryz.prog 99 #[.pointer (some ⟨B, 0, none⟩)] W fun e w' => e = .returned (.tuple #[]) ∧ W = w' := by
  have r1 := h.cell 11 (.slice none 0 0) rfl
  have r2 := h.lt
  clear h
  go_enter Tryz.func99, Tryz.ntmps99
  go_wp2
  go_loop [2] (fun s => s = .int .i64 0) (fun _ => 0)
  case atStart => rfl
  case round =>
    subst hrel
    go_wp2
    go_end0
    exact ⟨rfl, rfl⟩
set_option maxHeartbeats 400000 in
theorem bk_lookNode (h : BookAt W B n v) : Calls Tryz.prog 111 #[.pointer (some ⟨B, 0, none⟩)] W fun e w' => e = .returned (.bool true) ∧ W = w' := by
  have r1 := h.cell 11 (.slice none 0 0) rfl
  have r2 := h.lt
  clear h
  go_enter Tryz.func111, Tryz.ntmps111
  go_wp2
  go_loop [3] (fun s => s = .int .i64 0) (fun _ => 0)
  case atStart => rfl
  case round =>
    subst hrel
    go_wp2
    go_ret
    exact ⟨rfl, rfl⟩
set_option maxHeartbeats 400000 in
theorem bk_fillJob (h : BookAt W B n v) : Calls Tryz.prog 88 #[.pointer (some ⟨B, 0, none⟩)] W fun e w' => e = .returned (.tuple #[]) ∧ W = w' := by
  have r1 := h.cell 12 (.slice none 0 0) rfl
  have r2 := h.lt
  clear h
  go_enter Tryz.func88, Tryz.ntmps88
  go_wp2
  go_loop [2] (fun s => s = .int .i64 0) (fun _ => 0)
  case atStart => rfl
  case round =>
    subst hrel
    go_wp2
    go_end0
    exact ⟨rfl, rfl⟩
set_option maxHeartbeats 400000 in
theorem bk_growJob (h : BookAt W B n v) : Calls Tryz.prog 100 #[.pointer (some ⟨B, 0, none⟩)] W fun e w' => e = .returned (.tuple #[]) ∧ W = w' := by
  have r1 := h.cell 12 (.slice none 0 0) rfl
  have r2 := h.lt
  clear h
  go_enter Tryz.func100, Tryz.ntmps100
  go_wp2
  go_loop [2] (fun s => s = .int .i64 0) (fun _ => 0)
  case atStart => rfl
  case round =>
    subst hrel
    go_wp2
    go_end0
    exact ⟨rfl, rfl⟩
set_option maxHeartbeats 400000 in
theorem bk_lookJob (h : BookAt W B n v) : Calls Tryz.prog 112 #[.pointer (some ⟨B, 0, none⟩)] W fun e w' => e = .returned (.bool true) ∧ W = w' := by
  have r1 := h.cell 12 (.slice none 0 0) rfl
  have r2 := h.lt
  clear h
  go_enter Tryz.func112, Tryz.ntmps112
  go_wp2
  go_loop [3] (fun s => s = .int .i64 0) (fun _ => 0)
  case atStart => rfl
  case round =>
    subst hrel
    go_wp2
    go_ret
    exact ⟨rfl, rfl⟩
end

end Go.Proofs.YtmbnojkciikobaaGreatDoor
