/- A book of tokens: its marks, and what it is told. -/
import Derived.Test.YtjnmajdigjifkaaGreatDoorBqM
import Derived.Test.YtjnmajdigjifkaaGreatDoorLayI
import Derived.Deep.RegionHeld3
import Derived.Deep.RegionLaw
import Derived.Deep.AppendLies
import Derived.Deep.LoopGhost
import Derived.BigQuiet
import Derived.Deep.QuietTactic
import Derived.Laws.Strings
import Derived.Laws.Concat
import Derived.Laws.ResultCell
namespace Go.Proofs.YtjnmajdigjifkaaGreatDoor
open Go Go.Proofs Go.RowKit Go.Shelf

attribute [local go_sem] Oper.semAt_some
set_option maxRecDepth 100000
theorem unflipQ {P : Program} {f : Nat} {args : Array Value} {W : World} {Q : Ending → Prop} (h : Calls P f args W fun e w' => Q e ∧ W = w') : Calls P f args W fun e w' => Q e ∧ w' = W := h.mono fun _ _ h => ⟨h.1, h.2.symm⟩
theorem i64q (n : Nat) (h : n < 9223372036854775808) : IntKind.i64.wrap (n : Int) = (n : Int) := IntWalk.i64_in _ (by omega)
theorem q_bg {W W' : World} (h : Below W.heap.size W W') : W.grownBy W' none := ⟨h.os, h.tape, h.output, h.size, fun k hk _ => h.block k hk⟩
theorem size_tok : (Tryz.prog.info? 51).map (·.size) = some 3 := by kernel_rfl
/-- a mark as a text -/
def wrd (m : Nat) : ByteArray := (⟨#[35]⟩ : ByteArray) ++ ⟨(Lib.decDigits m).toArray⟩
def mkT (m : Nat) : List Value := [.int .u8 0, .string (wrd m), .int .i64 0]
theorem marksT : Marks 3 mkT := ⟨fun _ => rfl, fun m v hv => by simp [mkT] at hv; rcases hv with rfl | rfl | rfl <;> rfl, by decide⟩
theorem itoa_any (m : Nat) (hm : m < 100) (W : World) : Calls Tryz.prog 94 #[.int .i64 (m : Int)] W fun e w' => e = .returned (.string ⟨(Lib.decDigits m).toArray⟩) ∧ w' = W := Any.strconv_Itoa_small YtjnmajdigjifkaaGreatDoor.itL m hm W
theorem word_any (m : Nat) (hm : m ≤ 99) (W : World) : Calls Tryz.prog 91 #[.int .i64 (m : Int)] W fun e w' => e = .returned (.string (wrd m)) ∧ W = w' := by
  obtain ⟨D, hD⟩ : ∃ D : ByteArray, D = ⟨(Lib.decDigits m).toArray⟩ := ⟨_, rfl⟩
  have KI := Lib.hid (show Calls Tryz.prog 94 #[.int .i64 (m : Int)] W fun e w' => e = .returned (.string D) ∧ w' = W by rw [hD]; exact itoa_any m (by omega) W)
  have hDs : D.size ≤ 20 := by
    have h : D.size = (Lib.decDigits m).length := by rw [hD]; rfl
    rw [h, Lib.decDigits_length]
    by_cases h1 : 1 ≤ m
    · have := Lib.numDigits_eq m h1 (by omega); split at this <;> omega
    · obtain rfl : m = 0 := by omega
      rw [Lib.nDigits_small (by decide)]; decide
  have a1 : ∀ W, (Op.stringOp .add ⟨#[35]⟩ D).run Tryz.prog W = .ok (.string (wrd m)) W := fun W => by
    unfold wrd
    rw [← hD]
    exact run_string_add_sum W ⟨#[35]⟩ D (by show 1 + D.size ≤ _; omega)
  clear hD hDs hm
  go_enter Tryz.func91, Tryz.ntmps91
  go_wp2_with (go_at_call 94; refine KI.out.mono ?_; rintro e w' ⟨rfl, rfl⟩)
  go_ret
  exact ⟨rfl, rfl⟩
set_option maxHeartbeats 1000000 in
theorem markT_any (m : Nat) (hm : m ≤ 99) (W : World) : Calls Tryz.prog 65 #[.int .i64 (m : Int)] W fun e w' => e = .returned (.agg #[.int .u8 0, .string (wrd m), .int .i64 0]) ∧ Below W.heap.size W w' := by
  obtain ⟨D, hD⟩ : ∃ D, D = wrd m := ⟨_, rfl⟩
  have KW := Lib.hid (fun W => word_any m hm W)
  rw [← hD] at KW ⊢
  clear hD hm
  go_enter Tryz.func65, Tryz.ntmps65
  go_wp2_with (go_at_call 91; refine (KW.out _).mono ?_; rintro e w' ⟨rfl, rfl⟩)
  (try simp only [Exit.inBlock, Exit.then])
  refine bodyPost_ret (results_cell_row rfl _ _ W.heap.size 51 #[.int .u8 0, .string D, .int .i64 0] (0, 0) _ rfl (q_new W _) Tryz.underlying51 rfl size_tok) rfl ?_
  exact ⟨rfl, (Below.refl _ _).alloc (Nat.le_refl _) _⟩
set_option maxHeartbeats 1000000 in
theorem isT_any (m : Nat) (hm : m ≤ 99) (W : World) : Calls Tryz.prog 77 #[.agg #[.int .u8 0, .string (wrd m), .int .i64 0], .int .i64 (m : Int)] W fun e w' => e = .returned (.bool true) ∧ Below W.heap.size W w' := by
  obtain ⟨D, hD⟩ : ∃ D, D = wrd m := ⟨_, rfl⟩
  have KW := Lib.hid (fun W => word_any m hm W)
  have qq : (D.toList == D.toList) = true := beq_self_eq_true _
  have hb := Lib.hid (show Below W.heap.size W (W.alloc (.cells #[.int .u8 0, .string D, .int .i64 0] 51)) from (Below.refl _ _).alloc (Nat.le_refl _) _)
  have c1 : (W.alloc (.cells #[.int .u8 0, .string D, .int .i64 0] 51)).cell? ⟨W.heap.size, 1, none⟩ = some (.string D) := by rw [World.cell?_alloc_new]; rfl
  have kc := fun W => unflipQ (KW.out W)
  rw [← hD] at KW kc ⊢
  clear hD hm
  go_enter Tryz.func77, Tryz.ntmps77
  go_wp2
  go_quiet ((go_at_call 91; exact Calls.quiet_of_same (kc _)))
  go_wp2
  go_ret
  exact ⟨rfl, by have := hb.out; exact ⟨this.os, this.tape, this.output, this.size, this.block⟩⟩
end Go.Proofs.YtjnmajdigjifkaaGreatDoor
