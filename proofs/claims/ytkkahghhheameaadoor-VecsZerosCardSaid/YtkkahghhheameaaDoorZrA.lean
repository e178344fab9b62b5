/- The fractions 0 that both sides make. -/
import Derived.Test.YtkkahghhheameaaDoorBkRE
namespace Go.Proofs.YtkkahghhheameaaDoor
open Go Go.Proofs Go.RowKit Go.Shelf

attribute [local go_sem] Oper.semAt_some
set_option maxRecDepth 100000
/-- a block of two numbers: 1, 0; or one -/
def One2 (W : World) (d : Nat) : Prop := W.heap[d]? = some (.cells #[.int .u32 1, .int .u32 0] 58 (0, 0))
def One1 (W : World) (d : Nat) : Prop := W.heap[d]? = some (.cells #[.int .u32 1] 58 (0, 0))
theorem cell_of {W : World} {d : Nat} {cs : Array Value} {T : TypeId} (h : W.heap[d]? = some (.cells cs T (0, 0))) (o : Nat) (v : Value) (hv : cs[o]? = some v) : W.cell? ⟨d, o, none⟩ = some v := by
  unfold World.cell?; rw [h]; exact hv
set_option maxHeartbeats 1000000 in
theorem trim_one (W : World) (d : Nat) (h : One2 W d) : Calls Tryd.prog 87 #[.slice (some ⟨d, 0, none⟩) 2 2] W fun e w' => e = .returned (.slice (some ⟨d, 0, none⟩) 1 2) ∧ W = w' := by
  have c0 := cell_of h 0 _ rfl
  have c1 := cell_of h 1 _ rfl
  have hlt := (Array.getElem?_eq_some_iff.1 h).1
  clear h
  go_enter Tryd.func87, Tryd.ntmps87
  go_wp2
  go_loopg [3] 1 (fun g s wr => ((g = 1 ∧ s = .int .i64 2) ∨ (g = 0 ∧ s = .int .i64 1)) ∧ wr = W)
  case atStart => exact ⟨.inl ⟨rfl, rfl⟩, rfl⟩
  case round =>
    obtain ⟨h, rfl⟩ := hrel
    rcases h with ⟨rfl, rfl⟩ | ⟨rfl, rfl⟩
    · go_wp2
      go_roundg 0
      case measure => omega
      case rel => exact ⟨.inr ⟨rfl, rfl⟩, rfl⟩
    · go_wp2
      go_ret
      exact ⟨rfl, rfl⟩
set_option maxHeartbeats 1000000 in
theorem trim_zero (W : World) (d : Nat) (h : W.heap[d]? = some (.cells #[.int .u32 0, .int .u32 0] 58 (0, 0))) : Calls Tryd.prog 87 #[.slice (some ⟨d, 0, none⟩) 2 2] W fun e w' => e = .returned (.slice none 0 0) ∧ W = w' := by
  have c0 := cell_of h 0 _ rfl
  have c1 := cell_of h 1 _ rfl
  have hlt := (Array.getElem?_eq_some_iff.1 h).1
  clear h
  go_enter Tryd.func87, Tryd.ntmps87
  go_wp2
  go_loopg [3] 2 (fun g s wr => ((g = 2 ∧ s = .int .i64 2) ∨ (g = 1 ∧ s = .int .i64 1) ∨ (g = 0 ∧ s = .int .i64 0)) ∧ wr = W)
  case atStart => exact ⟨.inl ⟨rfl, rfl⟩, rfl⟩
  case round =>
    obtain ⟨h, rfl⟩ := hrel
    rcases h with ⟨rfl, rfl⟩ | ⟨rfl, rfl⟩ | ⟨rfl, rfl⟩
    · go_wp2
      go_roundg 1
      case measure => omega
      case rel => exact ⟨.inr (.inl ⟨rfl, rfl⟩), rfl⟩
    · go_wp2
      go_roundg 0
      case measure => omega
      case rel => exact ⟨.inr (.inr ⟨rfl, rfl⟩), rfl⟩
    · go_wp2
      go_ret
      exact ⟨rfl, rfl⟩
theorem n_one (W : World) : Calls Tryd.prog 82 #[.int .u64 1] W fun e w' => ∃ d, e = .returned (.slice (some ⟨d, 0, none⟩) 1 2) ∧ W.heap.size ≤ d ∧ Below W.heap.size W w' ∧ One2 w' d := by
  have k := Lib.hid (trim_one (W.alloc (.cells #[.int .u32 1, .int .u32 0] 58)) W.heap.size (q_new W _))
  have hb := Lib.hid (show Below W.heap.size W (W.alloc (.cells #[.int .u32 1, .int .u32 0] 58)) from (Below.refl _ _).alloc (Nat.le_refl _) _)
  have ho := Lib.hid (show One2 (W.alloc (.cells #[.int .u32 1, .int .u32 0] 58)) W.heap.size from q_new W _)
  go_enter Tryd.func82, Tryd.ntmps82
  go_wp2_with (go_at_call 87; refine k.out.mono ?_; rintro e w' ⟨rfl, rfl⟩)
  go_ret
  exact ⟨_, rfl, Nat.le_refl _, hb.out, ho.out⟩
theorem n_zero (W : World) : Calls Tryd.prog 82 #[.int .u64 0] W fun e w' => e = .returned (.slice none 0 0) ∧ Below W.heap.size W w' := by
  have k := Lib.hid (trim_zero (W.alloc (.cells #[.int .u32 0, .int .u32 0] 58)) W.heap.size (q_new W _))
  have hb := Lib.hid (show Below W.heap.size W (W.alloc (.cells #[.int .u32 0, .int .u32 0] 58)) from (Below.refl _ _).alloc (Nat.le_refl _) _)
  go_enter Tryd.func82, Tryd.ntmps82
  go_wp2_with (go_at_call 87; refine k.out.mono ?_; rintro e w' ⟨rfl, rfl⟩)
  go_ret
  exact ⟨rfl, hb.out⟩
set_option maxHeartbeats 1000000 in
theorem dtrim_zero (W : World) (d : Nat) (h : W.heap[d]? = some (.cells #[.int .u32 0, .int .u32 0] 58 (0, 0))) : Calls Tryd.prog 88 #[.slice (some ⟨d, 0, none⟩) 2 2] W fun e w' => (∃ c, e = .returned (.slice (some ⟨d, 0, none⟩) 0 c)) ∧ W = w' := by
  have c0 := cell_of h 0 _ rfl
  have c1 := cell_of h 1 _ rfl
  have hlt := (Array.getElem?_eq_some_iff.1 h).1
  clear h
  go_enter Tryd.func88, Tryd.ntmps88
  go_wp2
  go_loopg [0] 2 (fun g s wr => ((g = 2 ∧ s = .slice (some ⟨d, 0, none⟩) 2 2) ∨ (g = 1 ∧ s = .slice (some ⟨d, 0, none⟩) 1 2) ∨ (g = 0 ∧ s = .slice (some ⟨d, 0, none⟩) 0 2)) ∧ wr = W)
  case atStart => exact ⟨.inl ⟨rfl, rfl⟩, rfl⟩
  case round =>
    obtain ⟨h, rfl⟩ := hrel
    rcases h with ⟨rfl, rfl⟩ | ⟨rfl, rfl⟩ | ⟨rfl, rfl⟩
    · go_wp2
      go_roundg 1
      case measure => omega
      case rel => exact ⟨.inr (.inl ⟨rfl, rfl⟩), rfl⟩
    · go_wp2
      go_roundg 0
      case measure => omega
      case rel => exact ⟨.inr (.inr ⟨rfl, rfl⟩), rfl⟩
    · go_wp2
      go_ret
      exact ⟨⟨_, rfl⟩, rfl⟩
theorem dn_zero (W : World) : Calls Tryd.prog 84 #[.int .u64 0] W fun e w' => ∃ d c, e = .returned (.slice (some ⟨d, 0, none⟩) 0 c) ∧ Below W.heap.size W w' := by
  have k := Lib.hid (dtrim_zero (W.alloc (.cells #[.int .u32 0, .int .u32 0] 58)) W.heap.size (q_new W _))
  have hb := Lib.hid (show Below W.heap.size W (W.alloc (.cells #[.int .u32 0, .int .u32 0] 58)) from (Below.refl _ _).alloc (Nat.le_refl _) _)
  go_enter Tryd.func84, Tryd.ntmps84
  go_wp2_with (go_at_call 88; refine k.out.mono ?_; rintro e w' ⟨⟨c, rfl⟩, rfl⟩)
  go_ret
  exact ⟨_, _, rfl, hb.out⟩
end Go.Proofs.YtkkahghhheameaaDoor
