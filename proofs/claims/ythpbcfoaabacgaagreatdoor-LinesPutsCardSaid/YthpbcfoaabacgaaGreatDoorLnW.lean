/- Lines: the document's words of a text; what the law package asks of lists of texts. -/
import Derived.Test.YthpbcfoaabacgaaGreatDoorLnA
namespace Go.Proofs.YthpbcfoaabacgaaGreatDoor
open Go Go.Proofs Go.RowKit Go.Shelf

attribute [local go_sem] Oper.semAt_some
set_option maxRecDepth 100000
theorem info_str : (Tryz.prog.info? 9).map (fun i => (i.zero, i.size, i.bytes)) = some (some (.string ⟨#[]⟩), 1, 16) := by kernel_rfl
set_option maxHeartbeats 4000000 in
theorem sameTexts_any {W : World} {u v : Value} {ws : List (List UInt8)} (hu : RdC W u ws.length (scells ws)) (hv : RdC W v ws.length (scells ws)) (hl : ws.length ≤ 2000000) :
    Calls Tryz.prog 10 #[u, v] W fun e w' => e = .returned (.bool true) ∧ Below W.heap.size W w' := by
  obtain ⟨a, c, rfl, hac, ha⟩ := hu
  obtain ⟨b, d, rfl, hbd, hb⟩ := hv
  obtain ⟨N, hN⟩ : ∃ N, N = ws.length := ⟨_, rfl⟩
  have HN := Lib.hid hN
  have HA := Lib.hid ha
  have HB := Lib.hid hb
  rw [← hN] at hl hac hbd ⊢
  clear hN ha hb
  have k0 : ((0 : Nat) : Int) = 0 := rfl
  go_enter Tryz.func10, Tryz.ntmps10
  go_wp2
  go_loopg [5] N (fun g i wx => ∃ k : Nat, k + g = N ∧ i = .int .i64 (k : Int) ∧ ∃ n, wx = W.drewN n)
  case atStart => exact ⟨0, by omega, rfl, 0, rfl⟩
  case round =>
    clear k0
    obtain ⟨k, hkg, rfl, nd, rfl⟩ := hrel
    by_cases hlk : k < N
    · have h0 : 0 < ws.length := by have := HN.out; omega
      obtain ⟨ba, oa, rfl, hba, hca⟩ := HA.out h0
      obtain ⟨bb, ob, rfl, hbb, hcb⟩ := HB.out h0
      have hk2 : k < ws.length := by have := HN.out; omega
      obtain ⟨D, hD⟩ : ∃ D, Value.string D = scell (ws[k]) := ⟨_, rfl⟩
      have hsc : (scells ws)[k]? = some (.string D) := by unfold scells; rw [List.getElem?_map, List.getElem?_eq_getElem hk2, hD]; rfl
      have a0 := hca k _ hsc
      have b0 := hcb k _ hsc
      have w0 : IntKind.i64.wrap ((k : Int) + 1) = ((k + 1 : Nat) : Int) := IntWalk.i64_in _ (by omega)
      clear hca hcb h0 hk2 hD hsc
      have q0 : (0 : Int) ≤ (k : Int) := by omega
      have q1 : (k : Int) < (N : Int) := by omega
      go_wp2
      go_quiet (fail)
      go_wp2
      go_roundg (N - (k + 1))
      case measure => omega
      case rel => exact ⟨k + 1, by omega, by first | rfl | simp, nd + nq, by first | rfl | exact World.drewN_drewN _ _ _⟩
    · go_wp2
      go_ret
      exact ⟨rfl, below_drewN (Below.refl _ _) nd⟩
end Go.Proofs.YthpbcfoaabacgaaGreatDoor
