/- The fractions 0 that both sides make: whole numbers and fractions. -/
import Derived.Test.YtkkahghhheameaaDoorZrA
namespace Go.Proofs.YtkkahghhheameaaDoor
open Go Go.Proofs Go.RowKit Go.Shelf

attribute [local go_sem] Oper.semAt_some
set_option maxRecDepth 100000
theorem size_int : (Tryd.prog.info? 45).map (·.size) = some 2 := by kernel_rfl
theorem signed_any (a : Option Addr) (l c : Nat) (W : World) : Calls Tryd.prog 81 #[.bool false, .slice a l c] W fun e w' => e = .returned (.agg #[.bool false, .slice a l c]) ∧ Below W.heap.size W w' := by
  have hb := Lib.hid (show Below W.heap.size W (W.alloc (.cells #[.bool false, .slice a l c] 45)) from (Below.refl _ _).alloc (Nat.le_refl _) _)
  go_enter Tryd.func81, Tryd.ntmps81
  go_wp2
  (try simp only [Exit.inBlock, Exit.then])
  refine bodyPost_ret (results_cell_row rfl _ _ W.heap.size 45 #[.bool false, .slice a l c] (0, 0) _ rfl (q_new W _) Tryd.underlying45 rfl size_int) rfl ?_
  exact ⟨rfl, hb.out⟩
theorem dsigned_any (a : Option Addr) (l c : Nat) (W : World) : Calls Tryd.prog 83 #[.bool false, .slice a l c] W fun e w' => e = .returned (.agg #[.bool false, .slice a l c]) ∧ Below W.heap.size W w' := by
  have hb := Lib.hid (show Below W.heap.size W (W.alloc (.cells #[.bool false, .slice a l c] 45)) from (Below.refl _ _).alloc (Nat.le_refl _) _)
  go_enter Tryd.func83, Tryd.ntmps83
  go_wp2
  (try simp only [Exit.inBlock, Exit.then])
  refine bodyPost_ret (results_cell_row rfl _ _ W.heap.size 45 #[.bool false, .slice a l c] (0, 0) _ rfl (q_new W _) Tryd.underlying45 rfl size_int) rfl ?_
  exact ⟨rfl, hb.out⟩
/-- a cell of two, one of three, stored and still there -/
theorem two_set {w2 : World} {r : Nat} {c0 c1 v0 v1 : Value} {T : TypeId} (h : w2.heap[r]? = some (.cells #[c0, c1] T (0, 0))) : ((w2.setCell ⟨r, 0, none⟩ v0).setCell ⟨r, 1, none⟩ v1).heap[r]? = some (.cells #[v0, v1] T (0, 0)) :=
  heap_setCell_same _ r 1 _ T v1 (heap_setCell_same w2 r 0 _ T v0 h)
theorem three_set {w2 : World} {r : Nat} {c0 c1 c2 v0 v1 v2 : Value} {T : TypeId} (h : w2.heap[r]? = some (.cells #[c0, c1, c2] T (0, 0))) : (((w2.setCell ⟨r, 0, none⟩ v0).setCell ⟨r, 1, none⟩ v1).setCell ⟨r, 2, none⟩ v2).heap[r]? = some (.cells #[v0, v1, v2] T (0, 0)) :=
  heap_setCell_same _ r 2 _ T v2 (heap_setCell_same _ r 1 _ T v1 (heap_setCell_same w2 r 0 _ T v0 h))
theorem fr_of {W : World} {d : Nat} {cs : Array Value} {T : TypeId} (h : W.heap[d]? = some (.cells cs T (0, 0))) (o : Nat) : W.frozen? ⟨d, o, none⟩ = false := by
  unfold World.frozen?; rw [h]; simp
/-- a block that was new stays -/
theorem new_stays {W w1 : World} {o : Obj} (b : Below (W.alloc o).heap.size (W.alloc o) w1) : w1.heap[W.heap.size]? = (W.alloc o).heap[W.heap.size]? := b.block _ (by simp)
theorem bel_up {W w1 w2 : World} {n : Nat} (h : Below n W w1) (hn : n ≤ w1.heap.size) (k : Below w1.heap.size w1 w2) : Below n W w2 :=
  ⟨k.os.trans h.os, k.tape.trans h.tape, k.output.trans h.output, Nat.le_trans h.size k.size, fun b hb => (k.block b (Nat.lt_of_lt_of_le hb hn)).trans (h.block b hb)⟩
theorem i_zero (W : World) : Calls Tryd.prog 51 #[.int .i64 0] W fun e w' => e = .returned (.agg #[.bool false, .slice none 0 0]) ∧ Below W.heap.size W w' := by
  have k1 := Lib.hid (fun W => n_zero W)
  have k2 := Lib.hid (fun a l c W => signed_any a l c W)
  have KS := Lib.hid (show ∀ w1 w2, Below (W.alloc (.cells #[.bool false, .slice none 0 0] 45)).heap.size (W.alloc (.cells #[.bool false, .slice none 0 0] 45)) w1 → Below w1.heap.size w1 w2 → w2.heap[W.heap.size]? = some (.cells #[.bool false, .slice none 0 0] 45 (0, 0)) ∧ Below W.heap.size W w2 ∧ W.heap.size < w2.heap.size from fun w1 w2 h k => by
    have h2 := bel_up h h.size k
    have h3 := (new_stays h2).trans (q_new W _)
    refine ⟨h3, bel_up ((Below.refl _ _).alloc (Nat.le_refl _) _) (by simp) h2, (Array.getElem?_eq_some_iff.1 h3).1⟩)
  go_enter Tryd.func51, Tryd.ntmps51
  go_wp2_with (first
    | (go_at_call 82; refine (k1.out _).mono ?_; rintro e w1 ⟨rfl, b1⟩; have B1 := Lib.hid b1; clear b1)
    | (go_at_call 81; refine (k2.out _ _ _ _).mono ?_; rintro e w2 ⟨rfl, b2⟩; have X := Lib.hid (KS.out _ _ B1.out b2); have z0 := cell_of X.out.1 0 _ rfl; have z1 := cell_of X.out.1 1 _ rfl; have z2 := fr_of X.out.1; clear b2))
  (try simp only [Exit.inBlock, Exit.then])
  refine bodyPost_ret (results_cell_row rfl _ _ W.heap.size 45 #[.bool false, .slice none 0 0] (0, 0) _ rfl (two_set X.out.1) Tryd.underlying45 rfl size_int) rfl ?_
  exact ⟨rfl, (X.out.2.1.setCell (p := ⟨_, 0, none⟩) (Nat.le_refl _) _).setCell (p := ⟨_, 1, none⟩) (Nat.le_refl _) _⟩
theorem i_one (W : World) : Calls Tryd.prog 51 #[.int .i64 1] W fun e w' => ∃ d, e = .returned (.agg #[.bool false, .slice (some ⟨d, 0, none⟩) 1 2]) ∧ W.heap.size ≤ d ∧ Below W.heap.size W w' ∧ One2 w' d := by
  have k1 := Lib.hid (fun W => n_one W)
  have k2 := Lib.hid (fun a l c W => signed_any a l c W)
  have KS := Lib.hid (show ∀ w1 w2, Below (W.alloc (.cells #[.bool false, .slice none 0 0] 45)).heap.size (W.alloc (.cells #[.bool false, .slice none 0 0] 45)) w1 → Below w1.heap.size w1 w2 → w2.heap[W.heap.size]? = some (.cells #[.bool false, .slice none 0 0] 45 (0, 0)) ∧ Below W.heap.size W w2 ∧ W.heap.size < w2.heap.size from fun w1 w2 h k => by
    have h2 := bel_up h h.size k
    have h3 := (new_stays h2).trans (q_new W _)
    refine ⟨h3, bel_up ((Below.refl _ _).alloc (Nat.le_refl _) _) (by simp) h2, (Array.getElem?_eq_some_iff.1 h3).1⟩)
  go_enter Tryd.func51, Tryd.ntmps51
  go_wp2_with (first
    | (go_at_call 82; refine (k1.out _).mono ?_; rintro e w1 ⟨d, rfl, hd, b1, o1⟩; have B1 := Lib.hid b1; clear b1)
    | (go_at_call 81; refine (k2.out _ _ _ _).mono ?_; rintro e w2 ⟨rfl, b2⟩; have X := Lib.hid (KS.out _ _ B1.out b2); have O2 := Lib.hid (show One2 w2 d from (b2.block d (Array.getElem?_eq_some_iff.1 o1).1).trans o1); have D2 := Lib.hid (show W.heap.size + 1 ≤ d by simpa using hd); have z0 := cell_of X.out.1 0 _ rfl; have z1 := cell_of X.out.1 1 _ rfl; have z2 := fr_of X.out.1; clear b2))
  (try simp only [Exit.inBlock, Exit.then])
  refine bodyPost_ret (results_cell_row rfl _ _ W.heap.size 45 #[.bool false, .slice (some ⟨d, 0, none⟩) 1 2] (0, 0) _ rfl (two_set X.out.1) Tryd.underlying45 rfl size_int) rfl ?_
  exact ⟨_, rfl, by have := D2.out; omega, (X.out.2.1.setCell (p := ⟨_, 0, none⟩) (Nat.le_refl _) _).setCell (p := ⟨_, 1, none⟩) (Nat.le_refl _) _, (heap_setCell_other _ _ _ _ (by have := D2.out; simp; omega)).trans ((heap_setCell_other _ _ _ _ (by have := D2.out; simp; omega)).trans O2.out)⟩
theorem di_zero (W : World) : Calls Tryd.prog 54 #[.int .i64 0] W fun e w' => ∃ d c, e = .returned (.agg #[.bool false, .slice (some ⟨d, 0, none⟩) 0 c]) ∧ Below W.heap.size W w' := by
  have k1 := Lib.hid (fun W => dn_zero W)
  have k2 := Lib.hid (fun a l c W => dsigned_any a l c W)
  have KS := Lib.hid (show ∀ w1 w2, Below (W.alloc (.cells #[.bool false, .slice none 0 0] 45)).heap.size (W.alloc (.cells #[.bool false, .slice none 0 0] 45)) w1 → Below w1.heap.size w1 w2 → w2.heap[W.heap.size]? = some (.cells #[.bool false, .slice none 0 0] 45 (0, 0)) ∧ Below W.heap.size W w2 ∧ W.heap.size < w2.heap.size from fun w1 w2 h k => by
    have h2 := bel_up h h.size k
    have h3 := (new_stays h2).trans (q_new W _)
    refine ⟨h3, bel_up ((Below.refl _ _).alloc (Nat.le_refl _) _) (by simp) h2, (Array.getElem?_eq_some_iff.1 h3).1⟩)
  go_enter Tryd.func54, Tryd.ntmps54
  go_wp2_with (first
    | (go_at_call 84; refine (k1.out _).mono ?_; rintro e w1 ⟨d, c, rfl, b1⟩; have B1 := Lib.hid b1; clear b1)
    | (go_at_call 83; refine (k2.out _ _ _ _).mono ?_; rintro e w2 ⟨rfl, b2⟩; have X := Lib.hid (KS.out _ _ B1.out b2); have z0 := cell_of X.out.1 0 _ rfl; have z1 := cell_of X.out.1 1 _ rfl; have z2 := fr_of X.out.1; clear b2))
  (try simp only [Exit.inBlock, Exit.then])
  refine bodyPost_ret (results_cell_row rfl _ _ W.heap.size 45 #[.bool false, .slice (some ⟨d, 0, none⟩) 0 c] (0, 0) _ rfl (two_set X.out.1) Tryd.underlying45 rfl size_int) rfl ?_
  exact ⟨_, _, rfl, (X.out.2.1.setCell (p := ⟨_, 0, none⟩) (Nat.le_refl _) _).setCell (p := ⟨_, 1, none⟩) (Nat.le_refl _) _⟩
theorem frac_any (d : Nat) (W : World) : Calls Tryd.prog 50 #[.agg #[.bool false, .slice none 0 0, .bool false, .slice (some ⟨d, 0, none⟩) 1 2]] W fun e w' => e = .returned (.agg #[.bool false, .slice none 0 0, .slice (some ⟨d, 0, none⟩) 1 2]) ∧ Below W.heap.size W w' := by
  have hb := Lib.hid (show Below W.heap.size W ((W.alloc (.cells #[.bool false, .slice none 0 0, .bool false, .slice (some ⟨d, 0, none⟩) 1 2] 55)).alloc (.cells #[.bool false, .slice none 0 0, .slice (some ⟨d, 0, none⟩) 1 2] 47)) from ((Below.refl _ _).alloc (Nat.le_refl _) _).alloc (by simp) _)
  have h1 := Lib.hid (q_new (W.alloc (.cells #[.bool false, .slice none 0 0, .bool false, .slice (some ⟨d, 0, none⟩) 1 2] 55)) (.cells #[.bool false, .slice none 0 0, .slice (some ⟨d, 0, none⟩) 1 2] 47))
  go_enter Tryd.func50, Tryd.ntmps50
  go_wp2
  (try simp only [Exit.inBlock, Exit.then])
  refine bodyPost_ret (results_cell_row rfl _ _ (W.heap.size + 1) 47 #[.bool false, .slice none 0 0, .slice (some ⟨d, 0, none⟩) 1 2] (0, 0) _ rfl (by have := h1.out; simpa using this) Tryd.underlying47 rfl size_rat) rfl ?_
  exact ⟨rfl, hb.out⟩
theorem r_zero (W : World) : Calls Tryd.prog 9 #[.int .i64 0] W fun e w' => ∃ d, e = .returned (.agg #[.bool false, .slice none 0 0, .slice (some ⟨d, 0, none⟩) 1 2]) ∧ W.heap.size ≤ d ∧ Below W.heap.size W w' ∧ One2 w' d := by
  have k0 := Lib.hid (fun W => i_zero W)
  have k1 := Lib.hid (fun W => i_one W)
  have k2 := Lib.hid (fun d W => frac_any d W)
  have KS := Lib.hid (show ∀ w1 w2 w3 d, Below (W.alloc (.cells #[.bool false, .slice none 0 0, .slice none 0 0] 47)).heap.size (W.alloc (.cells #[.bool false, .slice none 0 0, .slice none 0 0] 47)) w1 → Below w1.heap.size w1 w2 → w1.heap.size ≤ d → One2 w2 d → Below w2.heap.size w2 w3 →
      w3.heap[W.heap.size]? = some (.cells #[.bool false, .slice none 0 0, .slice none 0 0] 47 (0, 0)) ∧ Below W.heap.size W w3 ∧ W.heap.size < w3.heap.size ∧ One2 w3 d ∧ W.heap.size + 1 ≤ d from fun w1 w2 w3 d h k hd o m => by
    have h2 := bel_up (bel_up h h.size k) (Nat.le_trans h.size k.size) m
    have h3 := (new_stays h2).trans (q_new W _)
    have hs := h.size
    simp at hs
    refine ⟨h3, bel_up ((Below.refl _ _).alloc (Nat.le_refl _) _) (by simp) h2, (Array.getElem?_eq_some_iff.1 h3).1, (m.block d (Array.getElem?_eq_some_iff.1 o).1).trans o, by omega⟩)
  go_enter Tryd.func9, Tryd.ntmps9
  go_wp2_with (first
    | (go_at_call 51; go_loud (refine (k0.out _).mono ?_; rintro e w1 ⟨rfl, b1⟩; have B1 := Lib.hid b1; clear b1 k0))
    | (go_at_call 51; go_loud (refine (k1.out _).mono ?_; rintro e w2 ⟨d, rfl, hd, b2, o2⟩; have B2 := Lib.hid b2; have O2 := Lib.hid (And.intro hd o2); clear b2 hd o2))
    | (go_at_call 50; refine (k2.out _ _).mono ?_; rintro e w3 ⟨rfl, b3⟩; have X := Lib.hid (KS.out _ _ _ _ B1.out B2.out O2.out.1 O2.out.2 b3); have z0 := cell_of X.out.1 0 _ rfl; have z1 := cell_of X.out.1 1 _ rfl; have z3 := cell_of X.out.1 2 _ rfl; have z2 := fr_of X.out.1; clear b3))
  (try simp only [Exit.inBlock, Exit.then])
  refine bodyPost_ret (results_cell_row rfl _ _ W.heap.size 47 #[.bool false, .slice none 0 0, .slice (some ⟨d, 0, none⟩) 1 2] (0, 0) _ rfl (three_set X.out.1) Tryd.underlying47 rfl size_rat) rfl ?_
  have D2 := X.out.2.2.2.2
  exact ⟨_, rfl, by omega, ((X.out.2.1.setCell (p := ⟨_, 0, none⟩) (Nat.le_refl _) _).setCell (p := ⟨_, 1, none⟩) (Nat.le_refl _) _).setCell (p := ⟨_, 2, none⟩) (Nat.le_refl _) _, (heap_setCell_other _ _ _ _ (by simp; omega)).trans ((heap_setCell_other _ _ _ _ (by simp; omega)).trans ((heap_setCell_other _ _ _ _ (by simp; omega)).trans X.out.2.2.2.1))⟩
theorem dr_zero (W : World) : Calls Tryd.prog 11 #[.int .i64 0] W fun e w' => ∃ d x cx, e = .returned (.agg #[.bool false, .slice (some ⟨x, 0, none⟩) 0 cx, .slice (some ⟨d, 0, none⟩) 1 1]) ∧ W.heap.size ≤ d ∧ Below W.heap.size W w' ∧ One1 w' d := by
  have k0 := Lib.hid (fun W => di_zero W)
  have KS := Lib.hid (show ∀ w1, Below (W.alloc (.cells #[.bool false, .slice none 0 0, .slice none 0 0] 47)).heap.size (W.alloc (.cells #[.bool false, .slice none 0 0, .slice none 0 0] 47)) w1 →
      w1.heap[W.heap.size]? = some (.cells #[.bool false, .slice none 0 0, .slice none 0 0] 47 (0, 0)) ∧ Below W.heap.size W w1 ∧ W.heap.size < w1.heap.size from fun w1 h => by
    have h3 := (new_stays h).trans (q_new W _)
    have hlt := (Array.getElem?_eq_some_iff.1 h3).1
    have h4 := bel_up ((Below.refl _ _).alloc (Nat.le_refl _) _) (by simp) h
    exact ⟨h3, h4, hlt⟩)
  have KF := Lib.hid (show ∀ w1 x cx, w1.heap[W.heap.size]? = some (.cells #[.bool false, .slice none 0 0, .slice none 0 0] 47 (0, 0)) ∧ Below W.heap.size W w1 ∧ W.heap.size < w1.heap.size →
      ((((w1.setCell ⟨W.heap.size, 0, none⟩ (.bool false)).setCell ⟨W.heap.size, 1, none⟩ (.slice (some ⟨x, 0, none⟩) 0 cx)).setCell ⟨W.heap.size, 2, none⟩ (.slice (some ⟨w1.heap.size, 0, none⟩) 1 1)).alloc (.cells #[.int .u32 1] 58)).heap[W.heap.size]? = some (.cells #[.bool false, .slice (some ⟨x, 0, none⟩) 0 cx, .slice (some ⟨w1.heap.size, 0, none⟩) 1 1] 47 (0, 0)) ∧
      Below W.heap.size W ((((w1.setCell ⟨W.heap.size, 0, none⟩ (.bool false)).setCell ⟨W.heap.size, 1, none⟩ (.slice (some ⟨x, 0, none⟩) 0 cx)).setCell ⟨W.heap.size, 2, none⟩ (.slice (some ⟨w1.heap.size, 0, none⟩) 1 1)).alloc (.cells #[.int .u32 1] 58)) ∧
      One1 ((((w1.setCell ⟨W.heap.size, 0, none⟩ (.bool false)).setCell ⟨W.heap.size, 1, none⟩ (.slice (some ⟨x, 0, none⟩) 0 cx)).setCell ⟨W.heap.size, 2, none⟩ (.slice (some ⟨w1.heap.size, 0, none⟩) 1 1)).alloc (.cells #[.int .u32 1] 58)) w1.heap.size from fun w1 x cx X => by
    obtain ⟨V, hV⟩ : ∃ V, V = ((w1.setCell ⟨W.heap.size, 0, none⟩ (.bool false)).setCell ⟨W.heap.size, 1, none⟩ (.slice (some ⟨x, 0, none⟩) 0 cx)).setCell ⟨W.heap.size, 2, none⟩ (.slice (some ⟨w1.heap.size, 0, none⟩) 1 1) := ⟨_, rfl⟩
    have h0 : V.heap[W.heap.size]? = some (.cells #[.bool false, .slice (some ⟨x, 0, none⟩) 0 cx, .slice (some ⟨w1.heap.size, 0, none⟩) 1 1] 47 (0, 0)) := by rw [hV]; exact three_set X.1
    have h1 : V.heap.size = w1.heap.size := by rw [hV]; simp
    have h2 : Below W.heap.size W V := by rw [hV]; exact ((X.2.1.setCell (p := ⟨_, 0, none⟩) (Nat.le_refl _) _).setCell (p := ⟨_, 1, none⟩) (Nat.le_refl _) _).setCell (p := ⟨_, 2, none⟩) (Nat.le_refl _) _
    rw [← hV]
    clear hV
    refine ⟨(Below.heap_alloc V _ _ (Array.getElem?_eq_some_iff.1 h0).1).trans h0, h2.alloc h2.size _, ?_⟩
    rw [← h1]
    exact q_new V _)
  go_enter Tryd.func11, Tryd.ntmps11
  go_wp2_with (first
    | (go_at_call 54; refine (k0.out _).mono ?_; rintro e w1 ⟨x, cx, rfl, b1⟩; have X := Lib.hid (KS.out _ b1); have z0 := cell_of X.out.1 0 _ rfl; have z1 := cell_of X.out.1 1 _ rfl; have z3 := cell_of X.out.1 2 _ rfl; have z2 := fr_of X.out.1; have z4 := X.out.2.2; clear b1))
  (try simp only [Exit.inBlock, Exit.then])
  have F := Lib.hid (KF.out w1 x cx X.out)
  refine bodyPost_ret (results_cell_row rfl _ _ W.heap.size 47 #[.bool false, .slice (some ⟨x, 0, none⟩) 0 cx, .slice (some ⟨w1.heap.size, 0, none⟩) 1 1] (0, 0) _ rfl F.out.1 Tryd.underlying47 rfl size_rat) rfl ?_
  exact ⟨_, _, _, rfl, Nat.le_of_lt z4, F.out.2.1, F.out.2.2⟩
end Go.Proofs.YtkkahghhheameaaDoor
