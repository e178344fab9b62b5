/- Ledgers: a tenant of its own; accounts are opened. -/
import Derived.Test.YtegfjndlkjfepaaLgS
import Derived.Test.YtegfjndlkjfepaaLayC
import Derived.Deep.RegionHeld3
namespace Go.Proofs.Ytegfjndlkjfepaa
open Go Go.Proofs Go.RowKit Go.Shelf
set_option linter.unusedVariables false
set_option maxRecDepth 100000

attribute [local go_sem] Oper.semAt_some
theorem lclone_any (s : ByteArray) (w : World) (hs : s.size ≤ 100) : Calls Try.prog 39 #[.string s] w fun e w' => e = .returned (.string s) ∧ Below w.heap.size w w' := by
  have k := Lib.hid (fun W => AnyPu.stringslite_Clone Ytegfjndlkjfepaa.clL s W (by omega))
  go_enter Try.func39, Try.ntmps39
  go_wp2_with fail
  refine (k.out _).mono ?_
  rintro e w1 ⟨rfl, b1⟩
  go_wp2
  go_ret
  exact ⟨rfl, b1⟩
theorem size_ten : (Try.prog.info? 32).map (·.size) = some 3 := by kernel_rfl
/-- the box of a tenant, and that of the answer -/
structure OwI (w W : World) (t : Ten) : Prop where
  bel : Below w.heap.size w W
  box : W.heap[w.heap.size]? = some (.cells #[.string t.n, .string t.k, .int .i64 t.r] 32)
  res : W.heap[w.heap.size + 1]? = some (.cells #[.string ⟨#[]⟩, .string ⟨#[]⟩, .int .i64 0] 32)
section
variable {w W W' : World} {t : Ten}
theorem OwI.c0 (h : OwI w W t) : W.cell? ⟨w.heap.size, 0, none⟩ = some (.string t.n) := by unfold World.cell?; rw [h.box]; rfl
theorem OwI.c1 (h : OwI w W t) : W.cell? ⟨w.heap.size, 1, none⟩ = some (.string t.k) := by unfold World.cell?; rw [h.box]; rfl
theorem OwI.c2 (h : OwI w W t) : W.cell? ⟨w.heap.size, 2, none⟩ = some (.int .i64 t.r) := by unfold World.cell?; rw [h.box]; rfl
theorem OwI.f (h : OwI w W t) (i : Nat) : W.frozen? ⟨w.heap.size, i, none⟩ = false := by unfold World.frozen?; rw [h.box]; simp
theorem OwI.below (h : OwI w W t) (hb : Below W.heap.size W W') : OwI w W' t :=
  ⟨h.bel.trans (hb.mono h.bel.size), (hb.block _ (Array.getElem?_eq_some_iff.1 h.box).1).trans h.box, (hb.block _ (Array.getElem?_eq_some_iff.1 h.res).1).trans h.res⟩
theorem OwI.drew (h : OwI w W t) : OwI w W.drew t := ⟨h.bel.drew, h.box, h.res⟩
theorem OwI.set0 (h : OwI w W t) : OwI w (W.setCell ⟨w.heap.size, 0, none⟩ (.string t.n)) t :=
  ⟨h.bel.setCell (Nat.le_refl _) _, (heap_setCell_same W w.heap.size 0 _ _ _ h.box).trans rfl, (heap_setCell_other W _ _ _ (by simp)).trans h.res⟩
theorem OwI.set1 (h : OwI w W t) : OwI w (W.setCell ⟨w.heap.size, 1, none⟩ (.string t.k)) t :=
  ⟨h.bel.setCell (Nat.le_refl _) _, (heap_setCell_same W w.heap.size 1 _ _ _ h.box).trans rfl, (heap_setCell_other W _ _ _ (by simp)).trans h.res⟩
theorem OwI.all (h : OwI w W t) : W.cell? ⟨w.heap.size, 0, none⟩ = some (.string t.n) ∧ W.cell? ⟨w.heap.size, 1, none⟩ = some (.string t.k) ∧ W.frozen? ⟨w.heap.size, 0, none⟩ = false ∧ W.frozen? ⟨w.heap.size, 1, none⟩ = false ∧ OwI w W t := ⟨h.c0, h.c1, h.f 0, h.f 1, h⟩
theorem OwI.of5 (h : W.cell? ⟨w.heap.size, 0, none⟩ = some (.string t.n) ∧ W.cell? ⟨w.heap.size, 1, none⟩ = some (.string t.k) ∧ W.frozen? ⟨w.heap.size, 0, none⟩ = false ∧ W.frozen? ⟨w.heap.size, 1, none⟩ = false ∧ OwI w W t) : OwI w W t := h.2.2.2.2
theorem OwI.start (w : World) (t : Ten) (Z : Array Value) (hZ : Z = #[.string ⟨#[]⟩, .string ⟨#[]⟩, .int .i64 0]) : OwI w ((w.alloc (.cells #[.string t.n, .string t.k, .int .i64 t.r] 32)).alloc (.cells Z 32)) t := by
  subst hZ
  exact ⟨((Below.refl _ _).alloc (Nat.le_refl _) _).alloc (by simp) _, (Below.heap_alloc _ _ _ (by simp)).trans (heap_alloc_new w _), by
    have := heap_alloc_new (w.alloc (.cells #[.string t.n, .string t.k, .int .i64 t.r] 32)) (.cells #[.string ⟨#[]⟩, .string ⟨#[]⟩, .int .i64 0] 32)
    simpa using this⟩
end
set_option maxHeartbeats 4000000 in
theorem lown_any (t : Ten) (w : World) (hn : t.n.size ≤ 100) (hk : t.k.size ≤ 100) :
    Calls Try.prog 32 #[.agg #[.string t.n, .string t.k, .int .i64 t.r]] w fun e w' => e = .returned (.agg #[.string t.n, .string t.k, .int .i64 t.r]) ∧ Below w.heap.size w w' := by
  have K0 := Lib.hid (fun W => lclone_any t.n W hn)
  have K1 := Lib.hid (fun W => lclone_any t.k W hk)
  obtain ⟨n, k, r⟩ := t
  go_enter Try.func32, Try.ntmps32
  go_wp2
  have hI : OwI w ((w.alloc (.cells #[.string n, .string k, .int .i64 r] 32)).alloc (.cells #[.string ⟨#[]⟩, .string ⟨#[]⟩, .int .i64 0] 32)) ⟨n, k, r⟩ := OwI.start w ⟨n, k, r⟩ _ rfl
  obtain ⟨W, hW⟩ : ∃ W, W = ((w.alloc (.cells #[.string n, .string k, .int .i64 r] 32)).alloc (.cells #[.string ⟨#[]⟩, .string ⟨#[]⟩, .int .i64 0] 32)) := ⟨_, rfl⟩
  rw [← hW] at hI ⊢
  have HI := Lib.hid hI
  clear hI hW
  go_region_held3 (fun w' => w'.cell? ⟨w.heap.size, 0, none⟩ = some (.string n) ∧ w'.cell? ⟨w.heap.size, 1, none⟩ = some (.string k) ∧ w'.frozen? ⟨w.heap.size, 0, none⟩ = false ∧ w'.frozen? ⟨w.heap.size, 1, none⟩ = false ∧ OwI w w' ⟨n, k, r⟩)
    (first
      | exact HI.out.drew.all
      | (refine (OwI.below (w := w) (t := ⟨n, k, r⟩) ?_ q5).all; exact OwI.of5 (by assumption))
      | (refine (OwI.set0 (w := w) (t := ⟨n, k, r⟩) ?_).all; exact OwI.of5 (by assumption))
      | (refine (OwI.set1 (w := w) (t := ⟨n, k, r⟩) ?_).all; exact OwI.of5 (by assumption))
      | fail)
    (first
      | (go_at_call 39; (with_reducible refine (K0.out _).mono ?_); rintro e w5 ⟨rfl, q5⟩)
      | (go_at_call 39; (with_reducible refine (K1.out _).mono ?_); rintro e w5 ⟨rfl, q5⟩))
  all_goals
    rename_i hh
    have hJ := Lib.hid (OwI.of5 (t := ⟨n, k, r⟩) hh)
    clear hh q5
    obtain ⟨W2, hW2⟩ : ∃ W2, W2 = ((w5.setCell ⟨w.heap.size, 0, none⟩ (.string n)).setCell ⟨w.heap.size, 1, none⟩ (.string k)) := ⟨_, rfl⟩
    rw [← hW2] at hJ ⊢
    clear hW2
    have c0 := hJ.out.c0
    have c1 := hJ.out.c1
    have c2 := hJ.out.c2
    have d0 : W2.cell? ⟨w.heap.size + 1, 0, none⟩ = some (.string ⟨#[]⟩) := by unfold World.cell?; rw [hJ.out.res]; rfl
    have d1 : W2.cell? ⟨w.heap.size + 1, 1, none⟩ = some (.string ⟨#[]⟩) := by unfold World.cell?; rw [hJ.out.res]; rfl
    have d2 : W2.cell? ⟨w.heap.size + 1, 2, none⟩ = some (.int .i64 0) := by unfold World.cell?; rw [hJ.out.res]; rfl
    have g0 : W2.frozen? ⟨w.heap.size + 1, 0, none⟩ = false := by unfold World.frozen?; rw [hJ.out.res]; simp
    have g1 : W2.frozen? ⟨w.heap.size + 1, 1, none⟩ = false := by unfold World.frozen?; rw [hJ.out.res]; simp
    have g2 : W2.frozen? ⟨w.heap.size + 1, 2, none⟩ = false := by unfold World.frozen?; rw [hJ.out.res]; simp
    go_wp2
    have e := heap_setCell_same _ (w.heap.size + 1) 2 _ _ (.int .i64 r) (heap_setCell_same _ (w.heap.size + 1) 1 _ _ (.string k) (heap_setCell_same W2 (w.heap.size + 1) 0 _ _ (.string n) hJ.out.res))
    refine bodyPost_ret (results_cell_row rfl _ _ (w.heap.size + 1) 32 #[.string n, .string k, .int .i64 r] (0, 0) _ rfl (e.trans rfl) Try.underlying32 rfl size_ten) rfl ?_
    exact ⟨rfl, ((hJ.out.bel.setCell (by simp) _).setCell (by simp) _).setCell (by simp) _⟩
end Go.Proofs.Ytegfjndlkjfepaa
