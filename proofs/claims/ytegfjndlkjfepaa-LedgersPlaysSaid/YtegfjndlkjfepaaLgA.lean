/- Ledgers: alive. -/
import Derived.Test.YtegfjndlkjfepaaLgV
import Derived.Laws.AppendOwn
import Derived.Deep.AppendLies
namespace Go.Proofs.Ytegfjndlkjfepaa
open Go Go.Proofs Go.RowKit Go.Shelf
set_option linter.unusedVariables false
set_option linter.unusedSimpArgs false
set_option maxRecDepth 100000

attribute [local go_sem] Oper.semAt_some
theorem info_ten : (Try.prog.info? 32).map (fun i => (i.zero, i.size, i.bytes)) = some (some (.agg #[.string ⟨#[]⟩, .string ⟨#[]⟩, .int .i64 0]), 3, 40) := by kernel_rfl
theorem k0OK : kOK 0 := by unfold kOK; decide
theorem k1OK : kOK 1 := by unfold kOK; decide
theorem k2OK : kOK 2 := by unfold kOK; decide
theorem ab_may : MayT AB := by
  refine ⟨by decide, fun k x hx => ?_⟩
  match k, hx with
  | 0, hx => cases hx; decide +kernel
  | 1, hx => cases hx; decide +kernel
theorem no_nil : ¬ MayT [] := fun h => by have := h.few; simp at this
theorem no_twice : ¬ MayT [ann, bob, ann] := fun h => by
  have := (h.each 2 ann rfl).2
  revert this
  decide +kernel
theorem tens_nil (W : World) : Tens W (.slice none 0 0) [] := ⟨none, 0, rfl, Nat.le_refl _, fun h => by simp at h⟩
theorem ab_row (W : World) : (W.alloc (.cells (tflat AB).toArray 32)).ownsRow W.heap.size 32 3 (.slice (some ⟨W.heap.size, 0, none⟩) 2 2) 2 (tflat AB) :=
  ⟨rfl, .inr ⟨W.heap.size, 2, _, rfl, Nat.le_refl _, heap_alloc_new W _, Nat.le_refl _, by unfold maxLen; omega, rfl, rfl⟩⟩
theorem ab_tens (W : World) : Tens (W.alloc (.cells (tflat AB).toArray 32)) (.slice (some ⟨W.heap.size, 0, none⟩) 2 2) AB :=
  tens_row (ts := AB) (ab_row W) (fun t ht => ab_ok t (by simp only [AB, List.mem_cons, List.not_mem_nil, or_false] at ht ⊢; rcases ht with rfl | rfl <;> simp))
theorem alloc_below (W : World) (o : Obj) : Below W.heap.size W (W.alloc o) := (Below.refl _ _).alloc (Nat.le_refl _) o
theorem two_zeros {lf : List Int} (h1 : lf.length = 2) (h2 : ∀ x ∈ lf, x = 0) : lf = [0, 0] := by
  match lf, h1 with
  | [a, b], _ => rw [h2 a (by simp), h2 b (by simp)]
theorem wpAnyH_mono {P : Program} {md : Region.Mode} {ops : Array Oper} {Q : Exit → Act → World → Prop} {S S' : World → Prop} (hS : ∀ w, S' w → S w) : ∀ (fuel : Nat) (listed : Array Bool) (a : Act) (w : World), wpAnyH P md ops Q S' fuel listed a w → wpAnyH P md ops Q S fuel listed a w
  | 0, _, _, _, h => h
  | fuel + 1, listed, a, w, h => ⟨h.1, fun i hi => wpOp_mono (fun a w hh => ⟨hS w hh.1, wpAnyH_mono hS fuel _ a w hh.2⟩) (h.2 i hi)⟩
structure AlI (w W : World) (P X B : Nat) (own : Nat → Prop) : Prop where
  ld : LD W P X own AB [2, 2]
  bel : Below w.heap.size w W
  c0 : W.cell? ⟨B, 0, none⟩ = some (.string bob.n)
  c1 : W.cell? ⟨B, 1, none⟩ = some (.string bob.k)
  c2 : W.cell? ⟨B, 2, none⟩ = some (.int .i64 bob.r)
  lt : B < W.heap.size
section
variable {w W W' : World} {P X B : Nat} {own : Nat → Prop}
theorem AlI.below (h : AlI w W P X B own) (hb : Below W.heap.size W W') : AlI w W' P X B own :=
  ⟨h.ld.below (B := 0) hb, h.bel.trans (hb.mono h.bel.size), (hb.cell (p := ⟨B, 0, none⟩) h.lt).trans h.c0, (hb.cell (p := ⟨B, 1, none⟩) h.lt).trans h.c1, (hb.cell (p := ⟨B, 2, none⟩) h.lt).trans h.c2, Nat.lt_of_lt_of_le h.lt hb.size⟩
theorem AlI.drew (h : AlI w W P X B own) : AlI w W.drew P X B own := h.below (Below.refl _ _).drew
theorem AlI.all (h : AlI w W P X B own) : W.cell? ⟨B, 0, none⟩ = some (.string bob.n) ∧ W.cell? ⟨B, 1, none⟩ = some (.string bob.k) ∧ W.cell? ⟨B, 2, none⟩ = some (.int .i64 bob.r) ∧ AlI w W P X B own := ⟨h.c0, h.c1, h.c2, h⟩
theorem AlI.of4 (h : W.cell? ⟨B, 0, none⟩ = some (.string bob.n) ∧ W.cell? ⟨B, 1, none⟩ = some (.string bob.k) ∧ W.cell? ⟨B, 2, none⟩ = some (.int .i64 bob.r) ∧ AlI w W P X B own) : AlI w W P X B own := h.2.2.2
theorem al_left0 (h : AlI w W P X B own) : Calls Try.prog 14 #[.pointer (some ⟨P, 0, none⟩), .int .i64 0] W fun e W' => e = .returned (.int .i64 2) ∧ W = W' := left_any h.ld k0OK
theorem al_left1 (h : AlI w W P X B own) : Calls Try.prog 14 #[.pointer (some ⟨P, 0, none⟩), .int .i64 1] W fun e W' => e = .returned (.int .i64 2) ∧ W = W' := left_any h.ld k1OK
theorem al_sp0 (h : AlI w W P X B own) : Calls Try.prog 13 #[.pointer (some ⟨P, 0, none⟩), .int .i64 0, .int .i64 3] W fun e W' => e = .returned (.int .i64 3) ∧ W = W' := lspend_err h.ld 3 k0OK (by decide) (by decide)
theorem al_sp1 (h : AlI w W P X B own) : Calls Try.prog 13 #[.pointer (some ⟨P, 0, none⟩), .int .i64 2, .int .i64 1] W fun e W' => e = .returned (.int .i64 1) ∧ W = W' := lspend_err h.ld 1 k2OK (by decide) (by decide)
theorem al_sp2 (h : AlI w W P X B own) : Calls Try.prog 13 #[.pointer (some ⟨P, 0, none⟩), .int .i64 0, .int .i64 (-1)] W fun e W' => e = .returned (.int .i64 1) ∧ W = W' := lspend_err h.ld (-1) k0OK (by decide) (by decide)
end
theorem two_bob (W : World) : Calls Try.prog 27 #[] W fun e W' => e = .returned (.slice (some ⟨W.heap.size, 0, none⟩) 2 2) ∧ Below W.heap.size W W' ∧ W'.cell? ⟨W.heap.size, 3, none⟩ = some (.string bob.n) ∧ W'.cell? ⟨W.heap.size, 4, none⟩ = some (.string bob.k) ∧ W'.cell? ⟨W.heap.size, 5, none⟩ = some (.int .i64 bob.r) := by
  refine (two_any W).mono ?_
  rintro e W' ⟨rfl, rfl⟩
  exact ⟨rfl, alloc_below W _, al_cell W _ _ 3, al_cell W _ _ 4, al_cell W _ _ 5⟩
theorem bob_eq (W : World) : (binOp .eql 32 (.agg #[.string bob.n, .string bob.k, .int .i64 bob.r]) (.agg #[.string bob.n, .string bob.k, .int .i64 bob.r])).run Try.prog W = .ok (.bool true) W := by kernel_rfl
set_option maxHeartbeats 8000000 in
theorem lg_alive (w : World) : Calls Try.prog 10 #[] w fun e w' => e = .returned (.bool true) ∧ Below w.heap.size w w' := by
  go_enter Try.func10, Try.ntmps10
  go_wp2_with fail
  refine (two_any _).mono ?_
  rintro e w1 ⟨rfl, e1⟩
  have HT := Lib.hid (show Tens w1 (.slice (some ⟨w.heap.size, 0, none⟩) 2 2) AB by rw [e1]; exact ab_tens w)
  have B1 := Lib.hid (show Below w.heap.size w w1 by rw [e1]; exact alloc_below w _)
  clear e1
  go_wp2_with fail
  refine (lnew_yes HT.out ab_may).mono ?_
  rintro e w2 ⟨P, own, lf, rfl, hL, hz, b2⟩
  obtain rfl := two_zeros hL.len hz
  have L2 := Lib.hid hL
  have HB1 := Lib.hid B1.out.size
  have B2 := Lib.hid (B1.out.trans (b2.mono B1.out.size))
  clear hL hz b2 B1 HT
  go_wp2_with fail
  refine (lnew_no (tens_nil w2) no_nil).mono ?_
  rintro e w3 ⟨rfl, b3⟩
  have L3 := Lib.hid (L2.out.below (B := 0) b3)
  have B3 := Lib.hid (B2.out.trans (b3.mono B2.out.size))
  clear b3 L2 B2
  go_wp2_with fail
  refine (two_any _).mono ?_
  rintro e w4 ⟨rfl, e4⟩
  have R4 := Lib.hid (show w4.ownsRow w3.heap.size 32 3 (.slice (some ⟨w3.heap.size, 0, none⟩) 2 2) 2 (tflat AB) by rw [e4]; exact ab_row w3)
  have b4 : Below w3.heap.size w3 w4 := by rw [e4]; exact alloc_below w3 _
  have S4 := Lib.hid b4
  clear e4
  go_wp2_with fail
  refine (two_any _).mono ?_
  rintro e w5 ⟨rfl, e5⟩
  have b5 : Below w4.heap.size w4 w5 := by rw [e5]; exact alloc_below w4 _
  have T5 := Lib.hid (show Tens w5 (.slice (some ⟨w4.heap.size, 0, none⟩) 2 2) AB by rw [e5]; exact ab_tens w4)
  have R5 := Lib.hid (show w5.ownsRow w3.heap.size 32 3 (.slice (some ⟨w3.heap.size, 0, none⟩) 2 2) 2 (tflat AB) from World.ownsRow.kept R4.out ⟨b5.os, b5.tape, b5.output, b5.size, fun j hj _ => b5.block j hj⟩ (.inr (show Value.ownBlock _ ≠ none by simp [Value.ownBlock])))
  have S5 := Lib.hid (S4.out.trans (b5.mono S4.out.size))
  have d0 : w5.cell? ⟨w4.heap.size, 0, none⟩ = some (.string ann.n) := by rw [e5]; exact al_cell w4 _ _ 0
  have d1 : w5.cell? ⟨w4.heap.size, 1, none⟩ = some (.string ann.k) := by rw [e5]; exact al_cell w4 _ _ 1
  have d2 : w5.cell? ⟨w4.heap.size, 2, none⟩ = some (.int .i64 ann.r) := by rw [e5]; exact al_cell w4 _ _ 2
  clear e5 b4 b5 R4 S4 T5
  obtain ⟨i0, hi0, hz0, hz1, hz2⟩ := q_info info_ten
  have HI0 := Lib.hid hi0
  have HZ0 := Lib.hid hz0
  have HZ1 := Lib.hid hz1
  have HZ2 := Lib.hid hz2
  clear hi0 hz0 hz1 hz2
  have hb5 : w3.heap.size ≤ w5.heap.size := S5.out.size
  obtain ⟨A, hA⟩ : ∃ A, A = ann := ⟨_, rfl⟩
  rw [← hA] at d0 d1 d2
  have HA := Lib.hid hA
  clear hA
  obtain ⟨XS, hXS⟩ : ∃ XS, XS = tflat AB := ⟨_, rfl⟩
  rw [← hXS] at R5
  have HXS := Lib.hid hXS
  clear hXS
  go_wp2_with (at_builtin; go_loud (refine wpList_append_own _ rfl _ _ 22 rfl w3.heap.size 32 i0 (.agg #[.string ⟨#[]⟩, .string ⟨#[]⟩, .int .i64 0]) 3 40 Try.underlying22 HI0.out HZ0.out HZ1.out HZ2.out rfl (by decide) _ 2 XS rfl (World.ownsRow.alloc R5.out _) ⟨w5.heap.size, 0, none⟩ 1 1 (tcells A) rfl rfl (World.news_of_block (cs := #[.string A.n, .string A.k, .int .i64 A.r]) (t := 32) (fr := (0, 0)) (heap_alloc_new w5 _)) (by simp [Value.oneCell', tcells]) (by unfold maxLen; omega) (by omega) (by simp; omega) ?_; intro v' w6 hown6 hg6 hnn; clear hnn))
  have T6 := Lib.hid (show Tens w6 v' [ann, bob, ann] from tens_row (ts := [ann, bob, ann]) (by rw [HXS.out, HA.out] at hown6; exact hown6) ab_ok)
  have hg6 : (w5.alloc (.cells #[.string A.n, .string A.k, .int .i64 A.r] 32)).grownBy w6 (some w3.heap.size) := hg6
  have B6 := Lib.hid (show Below w3.heap.size w3 w6 from (S5.out.alloc hb5 _).grown hg6 (by simp; omega) (fun k e => by simp at e; omega))
  have L6 := Lib.hid (L3.out.below (B := 0) B6.out)
  have B6' := Lib.hid (B3.out.trans (B6.out.mono B3.out.size))
  clear hown6 hg6 R5 S5 d0 d1 d2 HI0 HZ0 HZ1 HZ2 hb5 HXS HA L3 B3 B6
  obtain ⟨a6, c6, rfl, _⟩ : ∃ a c, v' = .slice a 3 c ∧ True := by obtain ⟨a, c, e, _⟩ := T6.out; exact ⟨a, c, e, trivial⟩
  go_wp2_with fail
  refine (lnew_no T6.out no_twice).mono ?_
  rintro e w7 ⟨rfl, b7⟩
  have L7 := Lib.hid (L6.out.below (B := 0) b7)
  have B7 := Lib.hid (B6'.out.trans (b7.mono B6'.out.size))
  clear b7 L6 B6' T6
  have hbase : w.heap.size ≤ w1.heap.size := HB1.out
  go_wp2_with fail
  refine (left_any L7.out k0OK).mono ?_
  rintro e w8 ⟨rfl, rfl⟩
  rw [show leftV AB [0, 0] 0 = 0 by decide]
  go_wp2_with fail
  refine (ltick_any L7.out).mono ?_
  rintro e w8 ⟨rfl, hL, _, b8⟩
  have L8 := Lib.hid (show LD w8 P w1.heap.size own AB [5, 2] from hL)
  have B8 := Lib.hid (B7.out.trans (b8.mono hbase))
  clear hL b8 L7 B7
  go_wp2_with fail
  refine (left_any L8.out k0OK).mono ?_
  rintro e w9 ⟨rfl, rfl⟩
  rw [show leftV AB [5, 2] 0 = 5 by decide]
  go_wp2_with fail
  refine (lspend_any L8.out 3 k0OK).mono ?_
  rintro e w9 ⟨rfl, hL, _, b9⟩
  rw [show spendE AB [5, 2] 0 3 = 0 by decide]
  have L9 := Lib.hid (show LD w9 P w1.heap.size own AB [2, 2] from hL)
  have B9 := Lib.hid (B8.out.trans (b9.mono hbase))
  clear hL b9 L8 B8
  go_wp2_with fail
  refine (lfind_any (nm := bob.n) L9.out).mono ?_
  rintro e w10 ⟨rfl, b10⟩
  rw [show findV (findT 0 AB bob.n) = .tuple #[.agg #[.string bob.n, .string bob.k, .int .i64 bob.r], .int .i64 1, .int .i64 0] from rfl]
  have L10 := Lib.hid (L9.out.below (B := 0) b10)
  have B10 := Lib.hid (B9.out.trans (b10.mono B9.out.size))
  clear b10 L9 B9
  go_wp2_with fail
  refine (lfind_any (nm := ⟨#[101, 118, 101]⟩) (ts := AB) (lf := [2, 2]) (own := own) (base := w1.heap.size) ?ld).mono ?_
  case ld => exact L10.out.below (B := 0) (alloc_below w10 _)
  rintro e w11 ⟨rfl, b11⟩
  rw [show findV (findT 0 AB ⟨#[101, 118, 101]⟩) = .tuple #[.agg #[.string ⟨#[]⟩, .string ⟨#[]⟩, .int .i64 0], .int .i64 0, .int .i64 6] from rfl]
  have b10 := alloc_below w10 (.cells #[.string bob.n, .string bob.k, .int .i64 bob.r] 32)
  have cb : ∀ i, w11.cell? ⟨w10.heap.size, i, none⟩ = #[Value.string bob.n, .string bob.k, .int .i64 bob.r][i]? := fun i => (b11.cell (p := ⟨w10.heap.size, i, none⟩) (by simp)).trans (al_cell w10 _ _ i)
  have hI11 : AlI w w11 P w1.heap.size w10.heap.size own := ⟨(L10.out.below (B := 0) b10).below (B := 0) b11, (B10.out.trans (b10.mono B10.out.size)).trans (b11.mono (Nat.le_trans B10.out.size b10.size)), cb 0, cb 1, cb 2, Nat.lt_of_lt_of_le (by simp) b11.size⟩
  have HI11 := Lib.hid (hI11.below (alloc_below w11 (.cells #[.string ⟨#[]⟩, .string ⟨#[]⟩, .int .i64 0] 32)))
  obtain ⟨B, hB⟩ : ∃ B, B = w10.heap.size := ⟨_, rfl⟩
  rw [← hB] at HI11
  clear b10 cb b11 hI11 L10 B10
  go_wp2
  rw [← hB]
  obtain ⟨W9, hW9⟩ : ∃ W9, W9 = w11.alloc (.cells #[.string ⟨#[]⟩, .string ⟨#[]⟩, .int .i64 0] 32) := ⟨_, rfl⟩
  rw [← hW9] at HI11 ⊢
  clear hW9 hB
  have kL0 := Lib.hid (fun W (h : AlI w W P w1.heap.size B own) => al_left0 h)
  have kL1 := Lib.hid (fun W (h : AlI w W P w1.heap.size B own) => al_left1 h)
  have kS0 := Lib.hid (fun W (h : AlI w W P w1.heap.size B own) => al_sp0 h)
  have kS1 := Lib.hid (fun W (h : AlI w W P w1.heap.size B own) => al_sp1 h)
  have kS2 := Lib.hid (fun W (h : AlI w W P w1.heap.size B own) => al_sp2 h)
  have heq := bob_eq
  refine wp_region_held_drew (S := fun w' => w'.cell? ⟨B, 0, none⟩ = some (.string bob.n) ∧ w'.cell? ⟨B, 1, none⟩ = some (.string bob.k) ∧ w'.cell? ⟨B, 2, none⟩ = some (.int .i64 bob.r) ∧ AlI w w' P w1.heap.size B own) (by kernel_rfl) HI11.out.drew.all (fun hHeld => ?_)
  refine wpAnyH_take (i := 0) (oi := _) (v := ?_) rfl (by kernel_rfl) (by kernel_rfl) (by kernel_rfl) (fun _ _ _ h => h) (Or.inl ⟨by rfl, ?_⟩) hHeld ?_
  rotate_left
  · intro w hSw
    (try dsimp only at hSw)
    go_simp
    (try with_reducible rfl)
  try simp only [Act.put, List.setIfInBounds_toArray, List.set_cons_zero, List.set_cons_succ, List.getElem_toArray, List.getElem_cons_succ, List.getElem_cons_zero]
  refine wpAnyH_ready (rs := [1]) (by kernel_rfl) (by simp) ?_
  refine AllReadyH.cons (o := _) rfl (fun Kc hKc => ?_) AllReadyH.nil
  go_simp
  go_at_call 14
  with_reducible refine (kL0.out _ (AlI.of4 hHeld)).mono ?_
  rintro e w5 ⟨rfl, rfl⟩
  dsimp only
  refine hKc.out _ _ hHeld (fun _ => ?_)
  clear hKc Kc
  try simp only [Act.put, List.setIfInBounds_toArray, List.set_cons_zero, List.set_cons_succ, List.getElem_toArray, List.getElem_cons_succ, List.getElem_cons_zero]
  refine wpAnyH_take (i := 2) (oi := _) (v := ?_) rfl (by kernel_rfl) (by kernel_rfl) (by kernel_rfl) (fun _ _ _ h => h) (Or.inl ⟨by rfl, ?_⟩) hHeld ?_
  rotate_left
  · intro w hSw
    (try dsimp only at hSw)
    go_simp
    (try with_reducible rfl)
  try simp only [Act.put, List.setIfInBounds_toArray, List.set_cons_zero, List.set_cons_succ, List.getElem_toArray, List.getElem_cons_succ, List.getElem_cons_zero]
  refine wpAnyH_take (i := 3) (oi := _) (v := ?_) rfl (by kernel_rfl) (by kernel_rfl) (by kernel_rfl) (fun _ _ _ h => h) (Or.inl ⟨by rfl, ?_⟩) hHeld ?_
  rotate_left
  · intro w hSw
    (try dsimp only at hSw)
    go_simp
    (try with_reducible rfl)
  try simp only [Act.put, List.setIfInBounds_toArray, List.set_cons_zero, List.set_cons_succ, List.getElem_toArray, List.getElem_cons_succ, List.getElem_cons_zero]
  refine wpAnyH_take (i := 4) (oi := _) (v := ?_) rfl (by kernel_rfl) (by kernel_rfl) (by kernel_rfl) (fun _ _ _ h => h) (Or.inl ⟨by rfl, ?_⟩) hHeld ?_
  rotate_left
  · intro w hSw
    (try dsimp only at hSw)
    go_simp
    (try with_reducible rfl)
  try simp only [Act.put, List.setIfInBounds_toArray, List.set_cons_zero, List.set_cons_succ, List.getElem_toArray, List.getElem_cons_succ, List.getElem_cons_zero]
  refine wpAnyH_ready (rs := [5]) (by kernel_rfl) (by simp) ?_
  refine AllReadyH.cons (o := _) rfl (fun Kc hKc => ?_) AllReadyH.nil
  go_simp
  go_at_call 14
  with_reducible refine (kL1.out _ (AlI.of4 hHeld)).mono ?_
  rintro e w5 ⟨rfl, rfl⟩
  dsimp only
  refine hKc.out _ _ hHeld (fun _ => ?_)
  clear hKc Kc
  try simp only [Act.put, List.setIfInBounds_toArray, List.set_cons_zero, List.set_cons_succ, List.getElem_toArray, List.getElem_cons_succ, List.getElem_cons_zero]
  refine wpAnyH_take (i := 6) (oi := _) (v := ?_) rfl (by kernel_rfl) (by kernel_rfl) (by kernel_rfl) (fun _ _ _ h => h) (Or.inl ⟨by rfl, ?_⟩) hHeld ?_
  rotate_left
  · intro w hSw
    (try dsimp only at hSw)
    go_simp
    (try with_reducible rfl)
  try simp only [Act.put, List.setIfInBounds_toArray, List.set_cons_zero, List.set_cons_succ, List.getElem_toArray, List.getElem_cons_succ, List.getElem_cons_zero]
  refine wpAnyH_take (i := 7) (oi := _) (v := ?_) rfl (by kernel_rfl) (by kernel_rfl) (by kernel_rfl) (fun _ _ _ h => h) (Or.inl ⟨by rfl, ?_⟩) hHeld ?_
  rotate_left
  · intro w hSw
    (try dsimp only at hSw)
    go_simp
    (try with_reducible rfl)
  try simp only [Act.put, List.setIfInBounds_toArray, List.set_cons_zero, List.set_cons_succ, List.getElem_toArray, List.getElem_cons_succ, List.getElem_cons_zero]
  refine wpAnyH_take (i := 8) (oi := _) (v := ?_) rfl (by kernel_rfl) (by kernel_rfl) (by kernel_rfl) (fun _ _ _ h => h) (Or.inl ⟨by rfl, ?_⟩) hHeld ?_
  rotate_left
  · intro w hSw
    (try dsimp only at hSw)
    go_simp
    (try with_reducible rfl)
  try simp only [Act.put, List.setIfInBounds_toArray, List.set_cons_zero, List.set_cons_succ, List.getElem_toArray, List.getElem_cons_succ, List.getElem_cons_zero]
  refine wpAnyH_take (i := 9) (oi := _) (v := ?_) rfl (by kernel_rfl) (by kernel_rfl) (by kernel_rfl) (fun _ _ _ h => h) (Or.inl ⟨by rfl, ?_⟩) hHeld ?_
  rotate_left
  · intro w hSw
    (try dsimp only at hSw)
    go_simp
    (try with_reducible rfl)
  try simp only [Act.put, List.setIfInBounds_toArray, List.set_cons_zero, List.set_cons_succ, List.getElem_toArray, List.getElem_cons_succ, List.getElem_cons_zero]
  refine wpAnyH_ready (rs := [10]) (by kernel_rfl) (by simp) ?_
  refine AllReadyH.cons (o := _) rfl (fun Kc hKc => ?_) AllReadyH.nil
  go_simp
  go_at_call 13
  with_reducible refine (kS0.out _ (AlI.of4 hHeld)).mono ?_
  rintro e w5 ⟨rfl, rfl⟩
  dsimp only
  refine hKc.out _ _ hHeld (fun _ => ?_)
  clear hKc Kc
  try simp only [Act.put, List.setIfInBounds_toArray, List.set_cons_zero, List.set_cons_succ, List.getElem_toArray, List.getElem_cons_succ, List.getElem_cons_zero]
  refine wpAnyH_take (i := 11) (oi := _) (v := ?_) rfl (by kernel_rfl) (by kernel_rfl) (by kernel_rfl) (fun _ _ _ h => h) (Or.inl ⟨by rfl, ?_⟩) hHeld ?_
  rotate_left
  · intro w hSw
    (try dsimp only at hSw)
    go_simp
    (try with_reducible rfl)
  try simp only [Act.put, List.setIfInBounds_toArray, List.set_cons_zero, List.set_cons_succ, List.getElem_toArray, List.getElem_cons_succ, List.getElem_cons_zero]
  refine wpAnyH_take (i := 12) (oi := _) (v := ?_) rfl (by kernel_rfl) (by kernel_rfl) (by kernel_rfl) (fun _ _ _ h => h) (Or.inl ⟨by rfl, ?_⟩) hHeld ?_
  rotate_left
  · intro w hSw
    (try dsimp only at hSw)
    go_simp
    (try with_reducible rfl)
  try simp only [Act.put, List.setIfInBounds_toArray, List.set_cons_zero, List.set_cons_succ, List.getElem_toArray, List.getElem_cons_succ, List.getElem_cons_zero]
  refine wpAnyH_take (i := 13) (oi := _) (v := ?_) rfl (by kernel_rfl) (by kernel_rfl) (by kernel_rfl) (fun _ _ _ h => h) (Or.inl ⟨by rfl, ?_⟩) hHeld ?_
  rotate_left
  · intro w hSw
    (try dsimp only at hSw)
    go_simp
    (try with_reducible rfl)
  try simp only [Act.put, List.setIfInBounds_toArray, List.set_cons_zero, List.set_cons_succ, List.getElem_toArray, List.getElem_cons_succ, List.getElem_cons_zero]
  refine wpAnyH_take (i := 14) (oi := _) (v := ?_) rfl (by kernel_rfl) (by kernel_rfl) (by kernel_rfl) (fun _ _ _ h => h) (Or.inl ⟨by rfl, ?_⟩) hHeld ?_
  rotate_left
  · intro w hSw
    (try dsimp only at hSw)
    go_simp
    (try with_reducible rfl)
  try simp only [Act.put, List.setIfInBounds_toArray, List.set_cons_zero, List.set_cons_succ, List.getElem_toArray, List.getElem_cons_succ, List.getElem_cons_zero]
  refine wpAnyH_ready (rs := [15]) (by kernel_rfl) (by simp) ?_
  refine AllReadyH.cons (o := _) rfl (fun Kc hKc => ?_) AllReadyH.nil
  go_simp
  go_at_call 13
  with_reducible refine (kS1.out _ (AlI.of4 hHeld)).mono ?_
  rintro e w5 ⟨rfl, rfl⟩
  dsimp only
  refine hKc.out _ _ hHeld (fun _ => ?_)
  clear hKc Kc
  try simp only [Act.put, List.setIfInBounds_toArray, List.set_cons_zero, List.set_cons_succ, List.getElem_toArray, List.getElem_cons_succ, List.getElem_cons_zero]
  refine wpAnyH_take (i := 16) (oi := _) (v := ?_) rfl (by kernel_rfl) (by kernel_rfl) (by kernel_rfl) (fun _ _ _ h => h) (Or.inl ⟨by rfl, ?_⟩) hHeld ?_
  rotate_left
  · intro w hSw
    (try dsimp only at hSw)
    go_simp
    (try with_reducible rfl)
  try simp only [Act.put, List.setIfInBounds_toArray, List.set_cons_zero, List.set_cons_succ, List.getElem_toArray, List.getElem_cons_succ, List.getElem_cons_zero]
  refine wpAnyH_take (i := 17) (oi := _) (v := ?_) rfl (by kernel_rfl) (by kernel_rfl) (by kernel_rfl) (fun _ _ _ h => h) (Or.inl ⟨by rfl, ?_⟩) hHeld ?_
  rotate_left
  · intro w hSw
    (try dsimp only at hSw)
    go_simp
    (try with_reducible rfl)
  try simp only [Act.put, List.setIfInBounds_toArray, List.set_cons_zero, List.set_cons_succ, List.getElem_toArray, List.getElem_cons_succ, List.getElem_cons_zero]
  refine wpAnyH_take (i := 18) (oi := _) (v := ?_) rfl (by kernel_rfl) (by kernel_rfl) (by kernel_rfl) (fun _ _ _ h => h) (Or.inl ⟨by rfl, ?_⟩) hHeld ?_
  rotate_left
  · intro w hSw
    (try dsimp only at hSw)
    go_simp
    (try with_reducible rfl)
  try simp only [Act.put, List.setIfInBounds_toArray, List.set_cons_zero, List.set_cons_succ, List.getElem_toArray, List.getElem_cons_succ, List.getElem_cons_zero]
  refine wpAnyH_take (i := 19) (oi := _) (v := ?_) rfl (by kernel_rfl) (by kernel_rfl) (by kernel_rfl) (fun _ _ _ h => h) (Or.inl ⟨by rfl, ?_⟩) hHeld ?_
  rotate_left
  · intro w hSw
    (try dsimp only at hSw)
    go_simp
    (try with_reducible rfl)
  try simp only [Act.put, List.setIfInBounds_toArray, List.set_cons_zero, List.set_cons_succ, List.getElem_toArray, List.getElem_cons_succ, List.getElem_cons_zero]
  refine wpAnyH_ready (rs := [20]) (by kernel_rfl) (by simp) ?_
  refine AllReadyH.cons (o := _) rfl (fun Kc hKc => ?_) AllReadyH.nil
  go_simp
  go_at_call 13
  with_reducible refine (kS2.out _ (AlI.of4 hHeld)).mono ?_
  rintro e w5 ⟨rfl, rfl⟩
  dsimp only
  refine hKc.out _ _ hHeld (fun _ => ?_)
  clear hKc Kc
  try simp only [Act.put, List.setIfInBounds_toArray, List.set_cons_zero, List.set_cons_succ, List.getElem_toArray, List.getElem_cons_succ, List.getElem_cons_zero]
  refine wpAnyH_take (i := 21) (oi := _) (v := ?_) rfl (by kernel_rfl) (by kernel_rfl) (by kernel_rfl) (fun _ _ _ h => h) (Or.inl ⟨by rfl, ?_⟩) hHeld ?_
  rotate_left
  · intro w hSw
    (try dsimp only at hSw)
    go_simp
    (try with_reducible rfl)
  try simp only [Act.put, List.setIfInBounds_toArray, List.set_cons_zero, List.set_cons_succ, List.getElem_toArray, List.getElem_cons_succ, List.getElem_cons_zero]
  refine wpAnyH_take (i := 22) (oi := _) (v := ?_) rfl (by kernel_rfl) (by kernel_rfl) (by kernel_rfl) (fun _ _ _ h => h) (Or.inl ⟨by rfl, ?_⟩) hHeld ?_
  rotate_left
  · intro w hSw
    (try dsimp only at hSw)
    go_simp
    (try with_reducible rfl)
  try simp only [Act.put, List.setIfInBounds_toArray, List.set_cons_zero, List.set_cons_succ, List.getElem_toArray, List.getElem_cons_succ, List.getElem_cons_zero]
  refine wpAnyH_take (i := 23) (oi := _) (v := ?_) rfl (by kernel_rfl) (by kernel_rfl) (by kernel_rfl) (fun _ _ _ h => h) (Or.inl ⟨by rfl, ?_⟩) hHeld ?_
  rotate_left
  · intro w hSw
    (try dsimp only at hSw)
    go_simp
    (try with_reducible rfl)
  try simp only [Act.put, List.setIfInBounds_toArray, List.set_cons_zero, List.set_cons_succ, List.getElem_toArray, List.getElem_cons_succ, List.getElem_cons_zero]
  refine wpAnyH_take (i := 24) (oi := _) (v := ?_) rfl (by kernel_rfl) (by kernel_rfl) (by kernel_rfl) (fun _ _ _ h => h) (Or.inl ⟨by rfl, ?_⟩) hHeld ?_
  rotate_left
  · intro w hSw
    (try dsimp only at hSw)
    go_simp
    (try with_reducible rfl)
  try simp only [Act.put, List.setIfInBounds_toArray, List.set_cons_zero, List.set_cons_succ, List.getElem_toArray, List.getElem_cons_succ, List.getElem_cons_zero]
  refine wpAnyH_take (i := 25) (oi := _) (v := ?_) rfl (by kernel_rfl) (by kernel_rfl) (by kernel_rfl) (fun _ _ _ h => h) (Or.inl ⟨by rfl, ?_⟩) hHeld ?_
  rotate_left
  · intro w hSw
    (try dsimp only at hSw)
    go_simp
    (try with_reducible rfl)
  try simp only [Act.put, List.setIfInBounds_toArray, List.set_cons_zero, List.set_cons_succ, List.getElem_toArray, List.getElem_cons_succ, List.getElem_cons_zero]
  refine wpAnyH_take (i := 26) (oi := _) (v := ?_) rfl (by kernel_rfl) (by kernel_rfl) (by kernel_rfl) (fun _ _ _ h => h) (Or.inl ⟨by rfl, ?_⟩) hHeld ?_
  rotate_left
  · intro w hSw
    (try dsimp only at hSw)
    go_simp
    (try with_reducible rfl)
  try simp only [Act.put, List.setIfInBounds_toArray, List.set_cons_zero, List.set_cons_succ, List.getElem_toArray, List.getElem_cons_succ, List.getElem_cons_zero]
  refine wpAnyH_take (i := 27) (oi := _) (v := ?_) rfl (by kernel_rfl) (by kernel_rfl) (by kernel_rfl) (fun _ _ _ h => h) (Or.inl ⟨by rfl, ?_⟩) hHeld ?_
  rotate_left
  · intro w hSw
    (try dsimp only at hSw)
    go_simp
    (try with_reducible rfl)
  try simp only [Act.put, List.setIfInBounds_toArray, List.set_cons_zero, List.set_cons_succ, List.getElem_toArray, List.getElem_cons_succ, List.getElem_cons_zero]
  refine wpAnyH_take (i := 28) (oi := _) (v := ?_) rfl (by kernel_rfl) (by kernel_rfl) (by kernel_rfl) (fun _ _ _ h => h) (Or.inl ⟨by rfl, ?_⟩) hHeld ?_
  rotate_left
  · intro w hSw
    (try dsimp only at hSw)
    go_simp
    (try with_reducible rfl)
  try simp only [Act.put, List.setIfInBounds_toArray, List.set_cons_zero, List.set_cons_succ, List.getElem_toArray, List.getElem_cons_succ, List.getElem_cons_zero]
  refine wpAnyH_take (i := 29) (oi := _) (v := ?_) rfl (by kernel_rfl) (by kernel_rfl) (by kernel_rfl) (fun _ _ _ h => h) (Or.inl ⟨by rfl, ?_⟩) hHeld ?_
  rotate_left
  · intro w hSw
    (try dsimp only at hSw)
    go_simp
    (try with_reducible rfl)
  try simp only [Act.put, List.setIfInBounds_toArray, List.set_cons_zero, List.set_cons_succ, List.getElem_toArray, List.getElem_cons_succ, List.getElem_cons_zero]
  refine wpAnyH_take (i := 30) (oi := _) (v := ?_) rfl (by kernel_rfl) (by kernel_rfl) (by kernel_rfl) (fun _ _ _ h => h) (Or.inl ⟨by rfl, ?_⟩) hHeld ?_
  rotate_left
  · intro w hSw
    (try dsimp only at hSw)
    go_simp
    (try with_reducible rfl)
  try simp only [Act.put, List.setIfInBounds_toArray, List.set_cons_zero, List.set_cons_succ, List.getElem_toArray, List.getElem_cons_succ, List.getElem_cons_zero]
  refine wpAnyH_take (i := 31) (oi := _) (v := ?_) rfl (by kernel_rfl) (by kernel_rfl) (by kernel_rfl) (fun _ _ _ h => h) (Or.inl ⟨by rfl, ?_⟩) hHeld ?_
  rotate_left
  · intro w hSw
    (try dsimp only at hSw)
    go_simp
    (try with_reducible rfl)
  try simp only [Act.put, List.setIfInBounds_toArray, List.set_cons_zero, List.set_cons_succ, List.getElem_toArray, List.getElem_cons_succ, List.getElem_cons_zero]
  refine wpAnyH_take (i := 32) (oi := _) (v := ?_) rfl (by kernel_rfl) (by kernel_rfl) (by kernel_rfl) (fun _ _ _ h => h) (Or.inl ⟨by rfl, ?_⟩) hHeld ?_
  rotate_left
  · intro w hSw
    (try dsimp only at hSw)
    go_simp
    (try with_reducible rfl)
  try simp only [Act.put, List.setIfInBounds_toArray, List.set_cons_zero, List.set_cons_succ, List.getElem_toArray, List.getElem_cons_succ, List.getElem_cons_zero]
  refine wpAnyH_ready (rs := [33]) (by kernel_rfl) (by simp) ?_
  refine AllReadyH.cons (o := _) rfl (fun Kc hKc => ?_) AllReadyH.nil
  go_simp
  go_at_call 27
  with_reducible refine (two_bob _).mono ?_
  rintro e w5 ⟨rfl, q5, d3, d4, d5⟩
  have hA := AlI.below (AlI.of4 hHeld) q5
  dsimp only
  refine hKc.out _ _ hA.all (fun _ => ?_)
  clear hKc Kc
  refine wpAnyH_mono (S' := fun w' => w'.cell? ⟨B, 0, none⟩ = some (.string bob.n) ∧ w'.cell? ⟨B, 1, none⟩ = some (.string bob.k) ∧ w'.cell? ⟨B, 2, none⟩ = some (.int .i64 bob.r) ∧ w'.cell? ⟨W9.heap.size, 3, none⟩ = some (.string bob.n) ∧ w'.cell? ⟨W9.heap.size, 4, none⟩ = some (.string bob.k) ∧ w'.cell? ⟨W9.heap.size, 5, none⟩ = some (.int .i64 bob.r) ∧ AlI w w' P w1.heap.size B own) (fun w' h => ⟨h.1, h.2.1, h.2.2.1, h.2.2.2.2.2.2⟩) _ _ _ _ ?_
  replace hHeld : w5.cell? ⟨B, 0, none⟩ = some (.string bob.n) ∧ w5.cell? ⟨B, 1, none⟩ = some (.string bob.k) ∧ w5.cell? ⟨B, 2, none⟩ = some (.int .i64 bob.r) ∧ w5.cell? ⟨W9.heap.size, 3, none⟩ = some (.string bob.n) ∧ w5.cell? ⟨W9.heap.size, 4, none⟩ = some (.string bob.k) ∧ w5.cell? ⟨W9.heap.size, 5, none⟩ = some (.int .i64 bob.r) ∧ AlI w w5 P w1.heap.size B own := ⟨hA.c0, hA.c1, hA.c2, d3, d4, d5, hA⟩
  clear q5 d3 d4 d5 hA
  try simp only [Act.put, List.setIfInBounds_toArray, List.set_cons_zero, List.set_cons_succ, List.getElem_toArray, List.getElem_cons_succ, List.getElem_cons_zero]
  refine wpAnyH_take (i := 34) (oi := _) (v := ?_) rfl (by kernel_rfl) (by kernel_rfl) (by kernel_rfl) (fun _ _ _ h => h) (Or.inl ⟨by rfl, ?_⟩) hHeld ?_
  rotate_left
  · intro w hSw
    (try dsimp only at hSw)
    go_simp
    (try with_reducible rfl)
  try simp only [Act.put, List.setIfInBounds_toArray, List.set_cons_zero, List.set_cons_succ, List.getElem_toArray, List.getElem_cons_succ, List.getElem_cons_zero]
  refine wpAnyH_take (i := 35) (oi := _) (v := ?_) rfl (by kernel_rfl) (by kernel_rfl) (by kernel_rfl) (fun _ _ _ h => h) (Or.inl ⟨by rfl, ?_⟩) hHeld ?_
  rotate_left
  · intro w hSw
    (try dsimp only at hSw)
    go_simp
    (try with_reducible rfl)
  try simp only [Act.put, List.setIfInBounds_toArray, List.set_cons_zero, List.set_cons_succ, List.getElem_toArray, List.getElem_cons_succ, List.getElem_cons_zero]
  refine wpAnyH_take (i := 36) (oi := _) (v := ?_) rfl (by kernel_rfl) (by kernel_rfl) (by kernel_rfl) (fun _ _ _ h => h) (Or.inl ⟨by rfl, ?_⟩) hHeld ?_
  rotate_left
  · intro w hSw
    (try dsimp only at hSw)
    go_simp
    (try with_reducible rfl)
  try simp only [Act.put, List.setIfInBounds_toArray, List.set_cons_zero, List.set_cons_succ, List.getElem_toArray, List.getElem_cons_succ, List.getElem_cons_zero]
  refine wpAnyH_take (i := 37) (oi := _) (v := ?_) rfl (by kernel_rfl) (by kernel_rfl) (by kernel_rfl) (fun _ _ _ h => h) (Or.inl ⟨by rfl, ?_⟩) hHeld ?_
  rotate_left
  · intro w hSw
    (try dsimp only at hSw)
    go_simp
    (try with_reducible rfl)
  try simp only [Act.put, List.setIfInBounds_toArray, List.set_cons_zero, List.set_cons_succ, List.getElem_toArray, List.getElem_cons_succ, List.getElem_cons_zero]
  refine wpAnyH_take (i := 38) (oi := _) (v := ?_) rfl (by kernel_rfl) (by kernel_rfl) (by kernel_rfl) (fun _ _ _ h => h) (Or.inl ⟨by rfl, ?_⟩) hHeld ?_
  rotate_left
  · intro w hSw
    (try dsimp only at hSw)
    go_simp
    (try with_reducible rfl)
  try simp only [Act.put, List.setIfInBounds_toArray, List.set_cons_zero, List.set_cons_succ, List.getElem_toArray, List.getElem_cons_succ, List.getElem_cons_zero]
  refine wpAnyH_take (i := 39) (oi := _) (v := ?_) rfl (by kernel_rfl) (by kernel_rfl) (by kernel_rfl) (fun _ _ _ h => h) (Or.inl ⟨by rfl, ?_⟩) hHeld ?_
  rotate_left
  · intro w hSw
    (try dsimp only at hSw)
    go_simp
    (try with_reducible rfl)
  try simp only [Act.put, List.setIfInBounds_toArray, List.set_cons_zero, List.set_cons_succ, List.getElem_toArray, List.getElem_cons_succ, List.getElem_cons_zero]
  refine wpAnyH_take (i := 40) (oi := _) (v := ?_) rfl (by kernel_rfl) (by kernel_rfl) (by kernel_rfl) (fun _ _ _ h => h) (Or.inl ⟨by rfl, ?_⟩) hHeld ?_
  rotate_left
  · intro w hSw
    (try dsimp only at hSw)
    go_simp
    (try with_reducible rfl)
  try simp only [Act.put, List.setIfInBounds_toArray, List.set_cons_zero, List.set_cons_succ, List.getElem_toArray, List.getElem_cons_succ, List.getElem_cons_zero]
  refine wpAnyH_take (i := 41) (oi := _) (v := ?_) rfl (by kernel_rfl) (by kernel_rfl) (by kernel_rfl) (fun _ _ _ h => h) (Or.inl ⟨by rfl, ?_⟩) hHeld ?_
  rotate_left
  · intro w hSw
    (try dsimp only at hSw)
    go_simp
    (try with_reducible rfl)
  try simp only [Act.put, List.setIfInBounds_toArray, List.set_cons_zero, List.set_cons_succ, List.getElem_toArray, List.getElem_cons_succ, List.getElem_cons_zero]
  refine wpAnyH_take (i := 42) (oi := _) (v := ?_) rfl (by kernel_rfl) (by kernel_rfl) (by kernel_rfl) (fun _ _ _ h => h) (Or.inl ⟨by rfl, ?_⟩) hHeld ?_
  rotate_left
  · intro w hSw
    (try dsimp only at hSw)
    go_simp
    (try with_reducible rfl)
  try simp only [Act.put, List.setIfInBounds_toArray, List.set_cons_zero, List.set_cons_succ, List.getElem_toArray, List.getElem_cons_succ, List.getElem_cons_zero]
  refine wpAnyH_done (by kernel_rfl) ?_ _
  have hJ := Lib.hid hHeld.2.2.2.2.2.2
  clear hHeld
  go_wp2
  go_ret
  exact ⟨rfl, hJ.out.bel⟩
end Go.Proofs.Ytegfjndlkjfepaa
