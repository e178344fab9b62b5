/- A book's rows of fractions: their marks. -/
import Derived.Test.YtkkahghhheameaaDoorBkW
import Derived.Test.YtkkahghhheameaaDoorBkBn
import Derived.Deep.RegionHeld3
import Derived.Deep.RegionLaw
import Derived.Deep.AppendLies
import Derived.Deep.LoopGhost
import Derived.BigQuiet
import Derived.Deep.QuietTactic
import Derived.Laws.ResultCell
namespace Go.Proofs.YtkkahghhheameaaDoor
open Go Go.Proofs Go.RowKit Go.Shelf

attribute [local go_sem] Oper.semAt_some
set_option maxRecDepth 100000
theorem size_rat : (Tryd.prog.info? 47).map (·.size) = some 3 := by kernel_rfl
theorem i64w (n : Int) (h0 : 0 ≤ n) (h : n < 9223372036854775808) : IntKind.i64.wrap n = n := IntWalk.i64_in _ (by omega)
theorem u32w (n : Int) (h0 : 0 ≤ n) (h : n < 4294967296) : IntKind.u32.wrap n = n := by
  unfold IntKind.wrap
  simp [IntKind.signed, IntKind.bits]
  omega
set_option maxHeartbeats 1000000 in
theorem markRa_any (m : Nat) (hm : m ≤ 100000) (W : World) : Calls Tryd.prog 64 #[.int .i64 (m : Int)] W fun e w' => ∃ b, e = .returned (.agg #[.bool false, .slice none 0 0, .slice (some ⟨b, 0, none⟩) 1 1]) ∧ W.heap.size ≤ b ∧ Below W.heap.size W w' ∧ w'.heap[b]? = some (.cells #[.int .u32 (1000 + (m : Int))] 58 (0, 0)) := by
  obtain ⟨M1, hM1⟩ : ∃ M1 : Int, M1 = 1000 + (m : Int) := ⟨_, rfl⟩
  have a1 : IntKind.i64.wrap (1000 + (m : Int)) = M1 := by rw [hM1]; exact i64w _ (by omega) (by omega)
  have a2 : IntKind.u32.wrap M1 = M1 := by rw [hM1]; exact u32w _ (by omega) (by omega)
  rw [← hM1]
  clear hM1 hm
  go_enter Tryd.func64, Tryd.ntmps64
  go_wp2
  (try simp only [Exit.inBlock, Exit.then])
  obtain ⟨w2, hw2⟩ : ∃ w2, w2 = (W.alloc (.cells #[.bool false, .slice none 0 0, .slice (some ⟨W.heap.size + 1, 0, none⟩) 1 1] 47)).alloc (.cells #[.int .u32 M1] 58) := ⟨_, rfl⟩
  have h0 : w2.heap[W.heap.size]? = some (.cells #[.bool false, .slice none 0 0, .slice (some ⟨W.heap.size + 1, 0, none⟩) 1 1] 47 (0, 0)) := by rw [hw2]; exact (Below.heap_alloc _ _ _ (by simp)).trans (q_new W _)
  have h1 : w2.heap[W.heap.size + 1]? = some (.cells #[.int .u32 M1] 58 (0, 0)) := by
    rw [hw2]
    have := q_new (W.alloc (.cells #[.bool false, .slice none 0 0, .slice (some ⟨W.heap.size + 1, 0, none⟩) 1 1] 47)) (.cells #[.int .u32 M1] 58)
    simpa using this
  have h2 : Below W.heap.size W w2 := by rw [hw2]; exact ((Below.refl _ _).alloc (Nat.le_refl _) _).alloc (by simp) _
  rw [← hw2]
  clear hw2
  refine bodyPost_ret (results_cell_row rfl _ _ W.heap.size 47 #[.bool false, .slice none 0 0, .slice (some ⟨W.heap.size + 1, 0, none⟩) 1 1] (0, 0) _ rfl h0 Tryd.underlying47 rfl size_rat) rfl ?_
  exact ⟨_, rfl, by omega, h2, h1⟩
set_option maxHeartbeats 1000000 in
theorem isRa_any (m : Nat) (hm : m ≤ 100000) (W : World) (b : Nat) (hb : b < W.heap.size) (hc : W.cell? ⟨b, 0, none⟩ = some (.int .u32 (1000 + (m : Int)))) : Calls Tryd.prog 76 #[.agg #[.bool false, .slice none 0 0, .slice (some ⟨b, 0, none⟩) 1 1], .int .i64 (m : Int)] W fun e w' => e = .returned (.bool true) ∧ Below W.heap.size W w' := by
  obtain ⟨M1, hM1⟩ : ∃ M1 : Int, M1 = 1000 + (m : Int) := ⟨_, rfl⟩
  have a1 : IntKind.i64.wrap (1000 + (m : Int)) = M1 := by rw [hM1]; exact i64w _ (by omega) (by omega)
  have a2 : IntKind.u32.wrap M1 = M1 := by rw [hM1]; exact u32w _ (by omega) (by omega)
  rw [← hM1] at hc
  clear hM1 hm
  have hbl := Lib.hid (show Below W.heap.size W (W.alloc (.cells #[.bool false, .slice none 0 0, .slice (some ⟨b, 0, none⟩) 1 1] 47)) from (Below.refl _ _).alloc (Nat.le_refl _) _)
  have c1 : (W.alloc (.cells #[.bool false, .slice none 0 0, .slice (some ⟨b, 0, none⟩) 1 1] 47)).cell? ⟨W.heap.size, 2, none⟩ = some (.slice (some ⟨b, 0, none⟩) 1 1) := by rw [World.cell?_alloc_new]; rfl
  have c2 : (W.alloc (.cells #[.bool false, .slice none 0 0, .slice (some ⟨b, 0, none⟩) 1 1] 47)).cell? ⟨b, 0, none⟩ = some (.int .u32 M1) := by rw [← hc]; exact World.cell?_of_block (Below.heap_alloc W _ b hb)
  obtain ⟨Wa, hWa⟩ : ∃ Wa, Wa = W.alloc (.cells #[.bool false, .slice none 0 0, .slice (some ⟨b, 0, none⟩) 1 1] 47) := ⟨_, rfl⟩
  go_enter Tryd.func76, Tryd.ntmps76
  go_wp2
  go_ret
  exact ⟨rfl, hbl.out⟩
section
variable {W0 w W W' : World} {T HT sz : Nat} {PM : World → Nat → Nat → List Value → Prop} {base B h n N cap i k : Nat} {f : Nat → Value} {A : Nat → Option Addr} {L C M : Nat → Nat} {G : Nat → Value} {X Y : Nat → List Value}
theorem undrewG (W : World) : W.grownBy W.drew none := ⟨rfl, rfl, rfl, Nat.le_refl _, fun _ _ _ => rfl⟩
theorem WFill.drew (K : PMarks sz PM) (D : WLies W0 base B h N A L C M) (F : WFill W0 w T HT sz PM base B h n N f A L C M i k W) : WFill W0 w T HT sz PM base B h n N f A L C M i k W.drew := F.on K D (undrewG W)
theorem WLook.alloc (K : PMarks sz PM) (F : WLook W0 w PM base B h n N f A L C M G X Y W) (o : Obj) : WLook W0 w PM base B h n N f A L C M G X Y (W.alloc o) := F.on K (World.grownBy_alloc W o none)
end
end Go.Proofs.YtkkahghhheameaaDoor
