/- Ledgers: LedgersNone: a ledger that is not there, or that no call made. -/
import Derived.Test.YtegfjndlkjfepaaLgV
import Derived.Laws.StructEq
namespace Go.Proofs.Ytegfjndlkjfepaa
open Go Go.Proofs Go.RowKit Go.Shelf
set_option linter.unusedVariables false
set_option maxRecDepth 100000

attribute [local go_sem] Oper.semAt_some
theorem alloc_below0 (W : World) (o : Obj) : Below W.heap.size W (W.alloc o) := (Below.refl _ _).alloc (Nat.le_refl _) o
/-- no ledger, or one that no call made -/
def Bad (W : World) (v : Value) : Prop := v = .pointer none ∨ ∃ P, v = .pointer (some ⟨P, 0, none⟩) ∧ P < W.heap.size ∧ W.cell? ⟨P, 0, none⟩ = some (.map none)
theorem Bad.below {W W' : World} {v : Value} (h : Bad W v) (hb : Below W.heap.size W W') : Bad W' v := by
  rcases h with rfl | ⟨P, rfl, hp, hc⟩
  · exact .inl rfl
  · exact .inr ⟨P, rfl, Nat.lt_of_lt_of_le hp hb.size, (hb.cell (p := ⟨P, 0, none⟩) hp).trans hc⟩
theorem bmade {W : World} {v : Value} (h : Bad W v) : Calls Try.prog 29 #[v] W fun e W' => e = .returned (.bool false) ∧ W = W' := by
  rcases h with rfl | ⟨P, rfl, _, hc⟩
  · exact made_nil W
  · exact made_empty hc
set_option maxHeartbeats 2000000 in
theorem bof {W : World} {v : Value} (h : Bad W v) (k : Int) : Calls Try.prog 28 #[v, .int .i64 k] W fun e W' => e = .returned (.tuple #[.pointer none, .int .i64 2]) ∧ W = W' := by
  have K0 := Lib.hid (bmade h)
  clear h
  go_enter Try.func28, Try.ntmps28
  go_wp2_with fail
  refine K0.out.mono ?_
  rintro e w1 ⟨rfl, rfl⟩
  go_wp2
  go_ret2
  exact ⟨rfl, rfl⟩
set_option maxHeartbeats 2000000 in
theorem bleft {W : World} {v : Value} (h : Bad W v) (k : Int) : Calls Try.prog 24 #[v, .int .i64 k] W fun e W' => e = .returned (.tuple #[.int .i64 0, .int .i64 2]) ∧ W = W' := by
  have K0 := Lib.hid (bof h k)
  clear h
  go_enter Try.func24, Try.ntmps24
  go_wp2_with fail
  refine K0.out.mono ?_
  rintro e w1 ⟨rfl, rfl⟩
  go_wp2
  go_ret2
  exact ⟨rfl, rfl⟩
set_option maxHeartbeats 2000000 in
theorem bspend {W : World} {v : Value} (h : Bad W v) (k n : Int) : Calls Try.prog 13 #[v, .int .i64 k, .int .i64 n] W fun e W' => e = .returned (.int .i64 2) ∧ W = W' := by
  have K0 := Lib.hid (bof h k)
  clear h
  go_enter Try.func13, Try.ntmps13
  go_wp2_with fail
  refine K0.out.mono ?_
  rintro e w1 ⟨rfl, rfl⟩
  go_wp2
  go_ret
  exact ⟨rfl, rfl⟩
set_option maxHeartbeats 2000000 in
theorem btick {W : World} {v : Value} (h : Bad W v) : Calls Try.prog 15 #[v] W fun e W' => e = .returned (.int .i64 2) ∧ W = W' := by
  have K0 := Lib.hid (bmade h)
  clear h
  go_enter Try.func15, Try.ntmps15
  go_wp2_with fail
  refine K0.out.mono ?_
  rintro e w1 ⟨rfl, rfl⟩
  go_wp2
  go_ret
  exact ⟨rfl, rfl⟩
set_option maxHeartbeats 4000000 in
theorem bfind {W : World} {v : Value} {nm : ByteArray} (h : Bad W v) : Calls Try.prog 16 #[v, .string nm] W fun e W' => e = .returned (.tuple #[.agg #[.string ⟨#[]⟩, .string ⟨#[]⟩, .int .i64 0], .int .i64 0, .int .i64 2]) ∧ Below W.heap.size W W' := by
  obtain ⟨W1, hW1⟩ : ∃ W1, W1 = ((W.alloc (.cells #[.string nm] 9)).alloc (.cells #[.string ⟨#[]⟩, .string ⟨#[]⟩, .int .i64 0] 32)) := ⟨_, rfl⟩
  have b1 : Below W.heap.size W W1 := by rw [hW1]; exact ((Below.refl _ _).alloc (Nat.le_refl _) _).alloc (by simp) _
  have hres : W1.heap[W.heap.size + 1]? = some (.cells #[.string ⟨#[]⟩, .string ⟨#[]⟩, .int .i64 0] 32) := by
    rw [hW1]
    have := heap_alloc_new (W.alloc (.cells #[.string nm] 9)) (.cells #[.string ⟨#[]⟩, .string ⟨#[]⟩, .int .i64 0] 32)
    simpa using this
  have K0 := Lib.hid (bmade (h.below b1))
  have B1 := Lib.hid b1
  have HR2 := Lib.hid hres
  clear b1 hres h
  go_enter Try.func16, Try.ntmps16
  go_wp2_with fail
  rw [← hW1]
  clear hW1
  refine K0.out.mono ?_
  rintro e w1 ⟨rfl, rfl⟩
  have d0 : W1.cell? ⟨W.heap.size + 1, 0, none⟩ = some (.string ⟨#[]⟩) := by unfold World.cell?; rw [HR2.out]; rfl
  have d1 : W1.cell? ⟨W.heap.size + 1, 1, none⟩ = some (.string ⟨#[]⟩) := by unfold World.cell?; rw [HR2.out]; rfl
  have d2 : W1.cell? ⟨W.heap.size + 1, 2, none⟩ = some (.int .i64 0) := by unfold World.cell?; rw [HR2.out]; rfl
  have g0 : W1.frozen? ⟨W.heap.size + 1, 0, none⟩ = false := by unfold World.frozen?; rw [HR2.out]; simp
  have g1 : W1.frozen? ⟨W.heap.size + 1, 1, none⟩ = false := by unfold World.frozen?; rw [HR2.out]; simp
  have g2 : W1.frozen? ⟨W.heap.size + 1, 2, none⟩ = false := by unfold World.frozen?; rw [HR2.out]; simp
  go_wp2
  have e := heap_setCell_same _ (W.heap.size + 1) 2 _ _ (.int .i64 0) (heap_setCell_same _ (W.heap.size + 1) 1 _ _ (.string ⟨#[]⟩) (heap_setCell_same W1 (W.heap.size + 1) 0 _ _ (.string ⟨#[]⟩) HR2.out))
  refine bodyPost_ret (results_cell_two rfl _ _ (W.heap.size + 1) 32 #[.string ⟨#[]⟩, .string ⟨#[]⟩, .int .i64 0] (0, 0) _ rfl (e.trans rfl) Try.underlying32 size_ten) rfl ?_
  exact ⟨rfl, ((B1.out.setCell (by simp) _).setCell (by simp) _).setCell (by simp) _⟩
theorem zero_neq (W : World) : (binOp .neq 32 (.agg #[.string ⟨#[]⟩, .string ⟨#[]⟩, .int .i64 0]) (.agg #[.string ⟨#[]⟩, .string ⟨#[]⟩, .int .i64 0])).run Try.prog W = .ok (.bool false) W := by kernel_rfl
set_option maxHeartbeats 8000000 in
theorem lnone_all {w : World} {s : ByteArray} {k n : Int} :
    Calls Try.prog 9 #[.string s, .int .i64 k, .int .i64 n] w fun e w' => e = .returned (.bool true) ∧ Below w.heap.size w w' := by
  obtain ⟨W1, hW1⟩ : ∃ W1, W1 = ((w.alloc (.cells #[.map none] 57)).alloc (.cells #[.pointer none, .pointer (some ⟨w.heap.size, 0, none⟩)] 26)) := ⟨_, rfl⟩
  have hb : Below w.heap.size w W1 := by rw [hW1]; exact ((Below.refl _ _).alloc (Nat.le_refl _) _).alloc (by simp) _
  have key : ∀ i, i < 2 → ∃ v, W1.cell? ⟨w.heap.size + 1, i, none⟩ = some v ∧ Bad W1 v := by
    intro i hi
    have e1 : W1.heap[w.heap.size + 1]? = some (.cells #[.pointer none, .pointer (some ⟨w.heap.size, 0, none⟩)] 26) := by
      rw [hW1]
      have := heap_alloc_new (w.alloc (.cells #[.map none] 57)) (.cells #[.pointer none, .pointer (some ⟨w.heap.size, 0, none⟩)] 26)
      simpa using this
    have e0 : W1.heap[w.heap.size]? = some (.cells #[.map none] 57) := by
      rw [hW1, Below.heap_alloc _ _ _ (by simp)]
      exact heap_alloc_new w _
    match i, hi with
    | 0, _ => exact ⟨_, by unfold World.cell?; rw [e1]; rfl, .inl rfl⟩
    | 1, _ => exact ⟨_, by unfold World.cell?; rw [e1]; rfl, .inr ⟨w.heap.size, rfl, (Array.getElem?_eq_some_iff.1 e0).1, by unfold World.cell?; rw [e0]; rfl⟩⟩
  have hs1 : w.heap.size + 1 < W1.heap.size := by rw [hW1]; simp
  have HB := Lib.hid hb
  have HK := Lib.hid key
  clear hb key
  have k0 : ((0 : Nat) : Int) = 0 := rfl
  go_enter Try.func9, Try.ntmps9
  go_wp2
  rw [← hW1]
  clear hW1
  obtain ⟨Z, hZ⟩ : ∃ Z, Z = w.heap.size + 1 := ⟨_, rfl⟩
  rw [← hZ] at hs1 HK
  simp only [← hZ]
  clear hZ
  go_loopg [8] 2 (fun g s8 wr => ∃ j : Nat, j + g = 2 ∧ s8 = .int .i64 (j : Int) ∧ Hid (Below W1.heap.size W1 wr))
  case atStart => exact ⟨0, by omega, rfl, Lib.hid (Below.refl _ _)⟩
  case round =>
    clear k0
    obtain ⟨j, hj, rfl, HW⟩ := hrel
    by_cases hlt : j < 2
    · obtain ⟨v, hv, hbad⟩ := HK.out j hlt
      have c1 : wr.cell? ⟨Z, j, none⟩ = some v := (HW.out.cell (p := ⟨Z, j, none⟩) hs1).trans hv
      have HBAD := Lib.hid (hbad.below HW.out)
      have HC1 := Lib.hid c1
      have hzr : Z < wr.heap.size := Nat.lt_of_lt_of_le hs1 HW.out.size
      have p0 : (0 : Int) ≤ (j : Int) := by omega
      have p1 : (j : Int) < 2 := by omega
      have w2 : IntKind.i64.wrap ((j : Int) + 1) = ((j + 1 : Nat) : Int) := IntWalk.i64_in _ (by omega)
      clear hv hbad
      go_wp2_with fail
      refine (bfind HBAD.out).mono ?_
      rintro e w1 ⟨rfl, b1⟩
      have al := alloc_below0 w1 (.cells #[.string ⟨#[]⟩, .string ⟨#[]⟩, .int .i64 0] 32)
      have b2 := b1.trans (al.mono b1.size)
      have d0 : (w1.alloc (.cells #[.string ⟨#[]⟩, .string ⟨#[]⟩, .int .i64 0] 32)).cell? ⟨w1.heap.size, 0, none⟩ = some (.string ⟨#[]⟩) := al_cell w1 _ _ 0
      have d1 : (w1.alloc (.cells #[.string ⟨#[]⟩, .string ⟨#[]⟩, .int .i64 0] 32)).cell? ⟨w1.heap.size, 1, none⟩ = some (.string ⟨#[]⟩) := al_cell w1 _ _ 1
      have d2 : (w1.alloc (.cells #[.string ⟨#[]⟩, .string ⟨#[]⟩, .int .i64 0] 32)).cell? ⟨w1.heap.size, 2, none⟩ = some (.int .i64 0) := al_cell w1 _ _ 2
      obtain ⟨W2, hW2⟩ : ∃ W2, W2 = w1.alloc (.cells #[.string ⟨#[]⟩, .string ⟨#[]⟩, .int .i64 0] 32) := ⟨_, rfl⟩
      rw [← hW2] at b2 d0 d1 d2
      have B2 := Lib.hid b2
      have HBAD2 := Lib.hid (HBAD.out.below b2)
      have c1 : W2.cell? ⟨Z, j, none⟩ = some v := (b2.cell (p := ⟨Z, j, none⟩) hzr).trans HC1.out
      have c1a : (w1.alloc (.cells #[.string ⟨#[]⟩, .string ⟨#[]⟩, .int .i64 0] 32)).cell? ⟨Z, j, none⟩ = some v := by rw [← hW2]; exact c1
      have hne := zero_neq
      clear al b1 b2
      go_wp2_with fail
      rw [← hW2]
      clear c1a hW2
      refine (bleft HBAD2.out k).mono ?_
      rintro e w3 ⟨rfl, rfl⟩
      go_wp2_with fail
      refine (btick HBAD2.out).mono ?_
      rintro e w3 ⟨rfl, rfl⟩
      go_wp2_with fail
      refine (bspend HBAD2.out k n).mono ?_
      rintro e w3 ⟨rfl, rfl⟩
      go_wp2
      go_roundg (2 - (j + 1))
      case measure => omega
      case rel => exact ⟨j + 1, by omega, by first | rfl | simp, Lib.hid (HW.out.trans (B2.out.mono HW.out.size))⟩
    · have p1 : ¬ (j : Int) < 2 := by omega
      go_wp2
      go_ret
      exact ⟨rfl, HB.out.trans (HW.out.mono HB.out.size)⟩
end Go.Proofs.Ytegfjndlkjfepaa
