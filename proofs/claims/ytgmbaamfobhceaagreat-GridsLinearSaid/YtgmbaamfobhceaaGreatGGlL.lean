/- GridsLinear: what a grid makes of a sum. -/
import Derived.Test.YtgmbaamfobhceaaGreatGGlX
set_option linter.unusedSimpArgs false
set_option linter.unusedVariables false
set_option maxHeartbeats 8000000
namespace Go.Proofs.YtgmbaamfobhceaaGreat
open Go Go.Proofs Go.RowKit Go.Shelf Nu
set_option linter.unusedVariables false
set_option linter.unusedSimpArgs false
set_option maxRecDepth 100000
attribute [local go_sem] Oper.semAt_some
theorem xA {α : Type} (l : List α) (i : Nat) (a : α) : l.toArray.setIfInBounds i a = (l.set i a).toArray := List.setIfInBounds_toArray ..
theorem xB {α : Type} (x a : α) (l : List α) : (x :: l).set 0 a = a :: l := rfl
theorem xC {α : Type} (x a : α) (l : List α) (n : Nat) : (x :: l).set (n + 1) a = x :: l.set n a := rfl
theorem v_add_any {w : World} {a1 a2 p o : Option Addr} {n1 n2 c1 c2 pc oc : Nat} {xs ys : List Qr} {q : Qr} {X Y : List Rat} (h1 : VReads w (.slice a1 n1 c1) xs) (h2 : VReads w (.slice a2 n2 c2) ys) (g1 : Reads w (.slice p q.2.1.length pc) q.2.1) (g2 : Reads w (.slice o q.2.2.length oc) q.2.2) (f1 : qrows xs) (f2 : qrows ys) (hf : Fit q) (hX : xs.all qok = true → xs = X.map qr ∧ wts X ≤ 100) (hY : ys.all qok = true → ys = Y.map qr ∧ wts Y ≤ 100) (hq : qok q = true → wt (qval q) ≤ 3000) :
  Calls Tryz.prog 23 #[.slice a1 n1 c1, .slice a2 n2 c2, .agg #[.bool q.1, .slice p q.2.1.length pc, .slice o q.2.2.length oc]] w fun e w' => ∃ (va : Option Addr) (vn vc : Nat) (er : Int), e = .returned (.tuple #[.slice va vn vc, .int .i64 er]) ∧ Below w.heap.size w w' ∧ (er = 0 ∧ vn = n1 ∧ n1 = n2 ∧ xs.all qok = true ∧ ys.all qok = true ∧ qok q = true ∧ VReads w' (.slice va n1 vc) ((axpy (qval q) X Y).map qr) ∨ er = 1) := by
 cases hR : (decide (n1 = n2) && (xs.all qok && ys.all qok)) with
 | false => exact (v_add_no hR h1 h2 f1 f2).mono fun e w' ⟨e1, e2⟩ => ⟨none, 0, 0, 1, e1, e2, .inr rfl⟩
 | true =>
  rw [Bool.and_eq_true, Bool.and_eq_true, decide_eq_true_eq] at hR
  obtain ⟨rfl, e1, e2⟩ := hR
  obtain ⟨x1, x2⟩ := hX e1
  obtain ⟨y1, y2⟩ := hY e2
  cases hk : qok q with
  | false => exact (v_add_bad (x1 ▸ h1) (y1 ▸ h2) g1 g2 hf hk (by omega)).mono fun e w' ⟨e1, e2⟩ => ⟨none, 0, 0, 1, e1, e2, .inr rfl⟩
  | true =>
   have eq := hf.eq hk
   have hq' := hq hk
   have h3 := h1.addr.1
   obtain ⟨qv, hqv⟩ : ∃ v, v = qval q := ⟨_, rfl⟩
   rw [← hqv] at eq hq' ⊢
   clear hqv
   subst eq
   refine (v_add (T := qv) (x1 ▸ h1) (y1 ▸ h2) g1 g2 ⟨by omega, by omega, hq'⟩).mono ?_
   rintro e w' ⟨v, rfl, hv, rr⟩
   have hvr := hv.reads
   obtain ⟨va, vc, rfl⟩ := hvr.form
   have hyl := h2.addr.1
   have hvl : ((axpy qv X Y).map qr).length = n1 := by rw [List.length_map, axpy_len (by rw [x1, List.length_map] at h3; rw [y1, List.length_map] at hyl; omega)]; rw [x1, List.length_map] at h3; exact h3.symm
   rw [hvl] at hvr
   exact ⟨va, _, vc, 0, rfl, rr, .inl ⟨rfl, hvl, rfl, e1, e2, rfl, hvr⟩⟩
theorem llinear_all {w : World} {a a1 a2 p o : Option Addr} {n c n1 c1 n2 c2 pc oc : Nat} {rows : List (List Qr)} {xs ys : List Qr} {q : Qr} (h : GridR w (.slice a n c) rows) (hb : GBig rows) (hx : VReads w (.slice a1 n1 c1) xs) (hn1 : n1 ≤ 70368744177664) (hxb : ∀ q ∈ xs, Big q) (hy : VReads w (.slice a2 n2 c2) ys) (hn2 : n2 ≤ 70368744177664) (hyb : ∀ q ∈ ys, Big q) (g1 : Reads w (.slice p q.2.1.length pc) q.2.1) (g2 : Reads w (.slice o q.2.2.length oc) q.2.2) (hqb : Big q) :
  Calls Tryz.prog 5 #[.slice a n c, .agg #[.slice a1 n1 c1, .slice a2 n2 c2], .agg #[.bool q.1, .slice p q.2.1.length pc, .slice o q.2.2.length oc]] w fun e w' => e = .returned (.bool true) ∧ Below w.heap.size w w' := by
 have hl := h.addr.1
 have hxl := hx.addr.1
 have hyl := hy.addr.1
 have HH := Lib.hid (And.intro h (And.intro hx (And.intro hy (And.intro g1 g2))))
 have HBG := Lib.hid (And.intro hb (And.intro hxb (And.intro hyb hqb)))
 obtain ⟨G, hG⟩ : ∃ G, G = ggreat rows := ⟨_, rfl⟩
 have kg := Lib.hid (fun (W : World) (r : Below w.heap.size w W) => gl_great (h.below r) hb G hG)
 have ks1 := Lib.hid (fun (W : World) (r : Below w.heap.size w W) => ratsSize_any (hx.below r) hxb hn1)
 have ks2 := Lib.hid (fun (W : World) (r : Below w.heap.size w W) => ratsSize_any (hy.below r) hyb hn2)
 have ks3 := Lib.hid (fun (W : World) => ratSize_any q.1 p o q.2.1.length pc q.2.2.length oc W hqb.2.1 hqb.2.2)
 have ka := Lib.hid (fun (W : World) => gl_alive W)
 have b1 := ssz_le n1 xs hxb (by omega)
 have b2 := ssz_le n2 ys hyb (by omega)
 have b3 : rsz q.2.1.length q.2.2.length ≤ 200000000000000 := by unfold rsz; have := hqb.2.1; have := hqb.2.2; split <;> omega
 obtain ⟨s1, hs1⟩ : ∃ s, s = ssz n1 xs := ⟨_, rfl⟩
 obtain ⟨s2, hs2⟩ : ∃ s, s = ssz n2 ys := ⟨_, rfl⟩
 obtain ⟨s3, hs3⟩ : ∃ s, s = rsz q.2.1.length q.2.2.length := ⟨_, rfl⟩
 rw [← hs1] at ks1 b1
 rw [← hs2] at ks2 b2
 rw [← hs3] at ks3 b3
 obtain ⟨su, hsu⟩ : ∃ s, s = s1 + s2 := ⟨_, rfl⟩
 obtain ⟨sv, hsv⟩ : ∃ s, s = su + s3 := ⟨_, rfl⟩
 have w01 : IntKind.i64.wrap ((s1 : Int) + (s2 : Int)) = (su : Int) := by rw [IntWalk.i64_in _ (by omega)]; omega
 have w02 : IntKind.i64.wrap ((su : Int) + (s3 : Int)) = (sv : Int) := by rw [IntWalk.i64_in _ (by omega)]; omega
 have HSV := Lib.hid (show sv = s1 + s2 + s3 by omega)
 clear hsu hsv
 have HS := Lib.hid (And.intro hs1 (And.intro hs2 (And.intro hs3 (And.intro hG (And.intro hl (And.intro hxl hyl))))))
 have BB := Lib.hid (And.intro b1 (And.intro b2 (And.intro b3 (And.intro hn1 hn2))))
 clear h hb hx hxb hy hyb hs1 hs2 hs3 hG hl hxl hyl b1 b2 b3 hn1 hn2 g1 g2 hqb
 obtain ⟨wb, hwb⟩ : ∃ W, W = (w.alloc (.cells #[.slice a1 n1 c1, .slice a2 n2 c2] 38)).alloc (.cells #[.bool q.1, .slice p q.2.1.length pc, .slice o q.2.2.length oc] 44) := ⟨_, rfl⟩
 obtain ⟨bx, hbx⟩ : ∃ b, b = w.heap.size := ⟨_, rfl⟩
 obtain ⟨bp, hbp⟩ : ∃ b, b = w.heap.size + 1 := ⟨_, rfl⟩
 have HX := Lib.hid (show BoxN wb bx 38 #[.slice a1 n1 c1, .slice a2 n2 c2] from by rw [hwb, hbx]; exact (BoxN.new w _ _).alloc _)
 have HP := Lib.hid (show BoxN wb bp 44 #[.bool q.1, .slice p q.2.1.length pc, .slice o q.2.2.length oc] from by rw [hwb, hbp]; exact BoxN.new1 w _ _ _)
 have HW := Lib.hid (show Below w.heap.size w wb from by rw [hwb]; exact ((Below.refl _ _).alloc (Nat.le_refl _) _).alloc (by simp) _)
 go_enter Tryz.func5, Tryz.ntmps5
 go_wp2_with fail
 rw [← hwb, ← hbp, ← hbx]
 clear hwb hbp hbx
 cases G with
 | true => as_aux_lemma =>
  have M : Mem wb [] [] wb := Mem.start wb
  refine region_mem (S := (fun (W : World) => BoxN W bx 38 #[.slice a1 n1 c1, .slice a2 n2 c2] ∧ BoxN W bp 44 #[.bool q.1, .slice p q.2.1.length pc, .slice o q.2.2.length oc])) M (by kernel_rfl) ?_
  intro V0 M
  refine one_op 0 rfl (fun K1 hK => ?_)
  go_simp
  refine (ka.out _).mono ?_
  rintro e V1_0 ⟨rfl, rr⟩
  have M' := M.up rr
  clear M rr 
  have M := M'; clear M'
  refine hK _ _ ⟨⟨(HX.out.under M.below), (HP.out.under M.below)⟩, ?_⟩
  clear hK K1
  have hS0 : (fun (W : World) => BoxN W bx 38 #[.slice a1 n1 c1, .slice a2 n2 c2] ∧ BoxN W bp 44 #[.bool q.1, .slice p q.2.1.length pc, .slice o q.2.2.length oc]) _ := ⟨(HX.out.under M.below), (HP.out.under M.below)⟩
  refine wtk 1 (.bool false) rfl (fun _ _ _ h => h) (Or.inl ⟨by rfl, fun W3 hS => by go_simp⟩) hS0 ?_
  try simp only [Act.put, xA, xB, xC]
  refine wtk 2 (.bool false) rfl (fun _ _ _ h => h) (Or.inl ⟨by rfl, fun W3 hS => by go_simp⟩) hS0 ?_
  try simp only [Act.put, xA, xB, xC]
  refine wtk 3 (.slice a n c) rfl (fun _ _ _ h => h) (Or.inl ⟨by rfl, fun W3 hS => by go_simp⟩) hS0 ?_
  try simp only [Act.put, xA, xB, xC]
  clear hS0
  refine one_op 4 rfl (fun K2 hK => ?_)
  go_simp
  refine (kg.out _ (then_below HW.out M.below)).mono ?_
  rintro e V2_4 ⟨rfl, rr⟩
  have M' := M.up rr
  clear M rr 
  have M := M'; clear M'
  refine hK _ _ ⟨⟨(HX.out.under M.below), (HP.out.under M.below)⟩, ?_⟩
  clear hK K2
  have hS0 : (fun (W : World) => BoxN W bx 38 #[.slice a1 n1 c1, .slice a2 n2 c2] ∧ BoxN W bp 44 #[.bool q.1, .slice p q.2.1.length pc, .slice o q.2.2.length oc]) _ := ⟨(HX.out.under M.below), (HP.out.under M.below)⟩
  refine wtk 5 (.bool true) rfl (fun _ _ _ h => h) (Or.inl ⟨by rfl, fun W3 hS => by go_simp⟩) hS0 ?_
  try simp only [Act.put, xA, xB, xC]
  refine wtk 6 (.bool true) rfl (fun _ _ _ h => h) (Or.inl ⟨by rfl, fun W3 hS => by go_simp⟩) hS0 ?_
  try simp only [Act.put, xA, xB, xC]
  refine wtk 7 (undef) rfl (fun _ _ _ h => h) (Or.inr ⟨by rfl, rfl⟩) hS0 ?_
  try simp only [Act.put, xA, xB, xC]
  refine wtk 8 (undef) rfl (fun _ _ _ h => h) (Or.inr ⟨by rfl, rfl⟩) hS0 ?_
  try simp only [Act.put, xA, xB, xC]
  refine wtk 9 (undef) rfl (fun _ _ _ h => h) (Or.inr ⟨by rfl, rfl⟩) hS0 ?_
  try simp only [Act.put, xA, xB, xC]
  refine wtk 10 (undef) rfl (fun _ _ _ h => h) (Or.inr ⟨by rfl, rfl⟩) hS0 ?_
  try simp only [Act.put, xA, xB, xC]
  refine wtk 11 (.bool true) rfl (fun _ _ _ h => h) (Or.inl ⟨by rfl, fun W3 hS => by go_simp⟩) hS0 ?_
  try simp only [Act.put, xA, xB, xC]
  refine wtk 12 (.bool true) rfl (fun _ _ _ h => h) (Or.inl ⟨by rfl, fun W3 hS => by go_simp⟩) hS0 ?_
  try simp only [Act.put, xA, xB, xC]
  refine wtk 13 (undef) rfl (fun _ _ _ h => h) (Or.inr ⟨by rfl, rfl⟩) hS0 ?_
  try simp only [Act.put, xA, xB, xC]
  refine wtk 14 (undef) rfl (fun _ _ _ h => h) (Or.inr ⟨by rfl, rfl⟩) hS0 ?_
  try simp only [Act.put, xA, xB, xC]
  refine wtk 15 (undef) rfl (fun _ _ _ h => h) (Or.inr ⟨by rfl, rfl⟩) hS0 ?_
  try simp only [Act.put, xA, xB, xC]
  refine wtk 16 (undef) rfl (fun _ _ _ h => h) (Or.inr ⟨by rfl, rfl⟩) hS0 ?_
  try simp only [Act.put, xA, xB, xC]
  refine wtk 17 (.bool true) rfl (fun _ _ _ h => h) (Or.inl ⟨by rfl, fun W3 hS => by go_simp⟩) hS0 ?_
  try simp only [Act.put, xA, xB, xC]
  refine wtk 18 (.bool true) rfl (fun _ _ _ h => h) (Or.inl ⟨by rfl, fun W3 hS => by go_simp⟩) hS0 ?_
  try simp only [Act.put, xA, xB, xC]
  refine wtk 19 (undef) rfl (fun _ _ _ h => h) (Or.inr ⟨by rfl, rfl⟩) hS0 ?_
  try simp only [Act.put, xA, xB, xC]
  refine wtk 20 (undef) rfl (fun _ _ _ h => h) (Or.inr ⟨by rfl, rfl⟩) hS0 ?_
  try simp only [Act.put, xA, xB, xC]
  refine wtk 21 (undef) rfl (fun _ _ _ h => h) (Or.inr ⟨by rfl, rfl⟩) hS0 ?_
  try simp only [Act.put, xA, xB, xC]
  refine wtk 22 (undef) rfl (fun _ _ _ h => h) (Or.inr ⟨by rfl, rfl⟩) hS0 ?_
  try simp only [Act.put, xA, xB, xC]
  refine wtk 23 (undef) rfl (fun _ _ _ h => h) (Or.inr ⟨by rfl, rfl⟩) hS0 ?_
  try simp only [Act.put, xA, xB, xC]
  refine wtk 24 (undef) rfl (fun _ _ _ h => h) (Or.inr ⟨by rfl, rfl⟩) hS0 ?_
  try simp only [Act.put, xA, xB, xC]
  refine wtk 25 (undef) rfl (fun _ _ _ h => h) (Or.inr ⟨by rfl, rfl⟩) hS0 ?_
  try simp only [Act.put, xA, xB, xC]
  refine wtk 26 (undef) rfl (fun _ _ _ h => h) (Or.inr ⟨by rfl, rfl⟩) hS0 ?_
  try simp only [Act.put, xA, xB, xC]
  refine wtk 27 (undef) rfl (fun _ _ _ h => h) (Or.inr ⟨by rfl, rfl⟩) hS0 ?_
  try simp only [Act.put, xA, xB, xC]
  refine wtk 28 (undef) rfl (fun _ _ _ h => h) (Or.inr ⟨by rfl, rfl⟩) hS0 ?_
  try simp only [Act.put, xA, xB, xC]
  refine wtk 29 (undef) rfl (fun _ _ _ h => h) (Or.inr ⟨by rfl, rfl⟩) hS0 ?_
  try simp only [Act.put, xA, xB, xC]
  refine wtk 30 (.bool true) rfl (fun _ _ _ h => h) (Or.inl ⟨by rfl, fun W3 hS => by go_simp⟩) hS0 ?_
  try simp only [Act.put, xA, xB, xC]
  refine wtk 31 (.bool true) rfl (fun _ _ _ h => h) (Or.inl ⟨by rfl, fun W3 hS => by go_simp⟩) hS0 ?_
  try simp only [Act.put, xA, xB, xC]
  refine wtk 32 (undef) rfl (fun _ _ _ h => h) (Or.inr ⟨by rfl, rfl⟩) hS0 ?_
  try simp only [Act.put, xA, xB, xC]
  refine wtk 33 (undef) rfl (fun _ _ _ h => h) (Or.inr ⟨by rfl, rfl⟩) hS0 ?_
  try simp only [Act.put, xA, xB, xC]
  refine wtk 34 (undef) rfl (fun _ _ _ h => h) (Or.inr ⟨by rfl, rfl⟩) hS0 ?_
  try simp only [Act.put, xA, xB, xC]
  refine wtk 35 (.bool true) rfl (fun _ _ _ h => h) (Or.inl ⟨by rfl, fun W3 hS => by go_simp⟩) hS0 ?_
  try simp only [Act.put, xA, xB, xC]
  clear hS0
  refine wdn ?_
  have BZ := Lib.hid (then_below HW.out M.below)
  clear M
  go_wp2_with fail
  refine (ka.out _).mono ?_
  rintro e wz ⟨rfl, rr⟩
  have BY := Lib.hid (then_below BZ.out rr)
  clear rr
  go_wp2_with fail
  go_ret
  exact ⟨rfl, BY.out⟩
 | false =>
  by_cases h10 : 10 < n1
  · as_aux_lemma =>
    have i1 : (10 : Int) < (n1 : Int) := by omega
    have i1' : decide ((10 : Int) < (n1 : Int)) = true := decide_eq_true i1
    have M : Mem wb [] [] wb := Mem.start wb
    refine region_mem (S := (fun (W : World) => BoxN W bx 38 #[.slice a1 n1 c1, .slice a2 n2 c2] ∧ BoxN W bp 44 #[.bool q.1, .slice p q.2.1.length pc, .slice o q.2.2.length oc])) M (by kernel_rfl) ?_
    intro V0 M
    refine one_op 0 rfl (fun K1 hK => ?_)
    go_simp
    refine (ka.out _).mono ?_
    rintro e V1_0 ⟨rfl, rr⟩
    have M' := M.up rr
    clear M rr 
    have M := M'; clear M'
    refine hK _ _ ⟨⟨(HX.out.under M.below), (HP.out.under M.below)⟩, ?_⟩
    clear hK K1
    have hS0 : (fun (W : World) => BoxN W bx 38 #[.slice a1 n1 c1, .slice a2 n2 c2] ∧ BoxN W bp 44 #[.bool q.1, .slice p q.2.1.length pc, .slice o q.2.2.length oc]) _ := ⟨(HX.out.under M.below), (HP.out.under M.below)⟩
    refine wtk 1 (.bool false) rfl (fun _ _ _ h => h) (Or.inl ⟨by rfl, fun W3 hS => by go_simp⟩) hS0 ?_
    try simp only [Act.put, xA, xB, xC]
    refine wtk 2 (.bool false) rfl (fun _ _ _ h => h) (Or.inl ⟨by rfl, fun W3 hS => by go_simp⟩) hS0 ?_
    try simp only [Act.put, xA, xB, xC]
    refine wtk 3 (.slice a n c) rfl (fun _ _ _ h => h) (Or.inl ⟨by rfl, fun W3 hS => by go_simp⟩) hS0 ?_
    try simp only [Act.put, xA, xB, xC]
    clear hS0
    refine one_op 4 rfl (fun K2 hK => ?_)
    go_simp
    refine (kg.out _ (then_below HW.out M.below)).mono ?_
    rintro e V2_4 ⟨rfl, rr⟩
    have M' := M.up rr
    clear M rr 
    have M := M'; clear M'
    refine hK _ _ ⟨⟨(HX.out.under M.below), (HP.out.under M.below)⟩, ?_⟩
    clear hK K2
    have hS0 : (fun (W : World) => BoxN W bx 38 #[.slice a1 n1 c1, .slice a2 n2 c2] ∧ BoxN W bp 44 #[.bool q.1, .slice p q.2.1.length pc, .slice o q.2.2.length oc]) _ := ⟨(HX.out.under M.below), (HP.out.under M.below)⟩
    refine wtk 5 (.bool false) rfl (fun _ _ _ h => h) (Or.inl ⟨by rfl, fun W3 hS => by go_simp⟩) hS0 ?_
    try simp only [Act.put, xA, xB, xC]
    refine wtk 6 (.bool false) rfl (fun _ _ _ h => h) (Or.inl ⟨by rfl, fun W3 hS => by go_simp⟩) hS0 ?_
    try simp only [Act.put, xA, xB, xC]
    refine wtk 7 (.pointer (some ⟨bx, 0, none⟩)) rfl (fun _ _ _ h => h) (Or.inl ⟨by rfl, fun W3 hS => by go_simp⟩) hS0 ?_
    try simp only [Act.put, xA, xB, xC]
    refine wtk 8 (.slice a1 n1 c1) rfl (fun _ _ _ h => h) (Or.inl ⟨by rfl, fun W3 hS => by obtain ⟨hS0, hS1⟩ := hS; have d0_0 := hS0.cell 0 _ rfl; have d0_1 := hS0.cell 1 _ rfl; have d1_0 := hS1.cell 0 _ rfl; have d1_1 := hS1.cell 1 _ rfl; have d1_2 := hS1.cell 2 _ rfl; go_simp⟩) hS0 ?_
    try simp only [Act.put, xA, xB, xC]
    refine wtk 9 (.int .i64 (n1 : Int)) rfl (fun _ _ _ h => h) (Or.inl ⟨by rfl, fun W3 hS => by go_simp⟩) hS0 ?_
    try simp only [Act.put, xA, xB, xC]
    refine wtk 10 (.bool true) rfl (fun _ _ _ h => h) (Or.inl ⟨by rfl, fun W3 hS => by go_simp⟩) hS0 ?_
    try simp only [Act.put, xA, xB, xC]
    refine wtk 11 (.bool true) rfl (fun _ _ _ h => h) (Or.inl ⟨by rfl, fun W3 hS => by go_simp⟩) hS0 ?_
    try simp only [Act.put, xA, xB, xC]
    refine wtk 12 (.bool true) rfl (fun _ _ _ h => h) (Or.inl ⟨by rfl, fun W3 hS => by go_simp⟩) hS0 ?_
    try simp only [Act.put, xA, xB, xC]
    refine wtk 13 (undef) rfl (fun _ _ _ h => h) (Or.inr ⟨by rfl, rfl⟩) hS0 ?_
    try simp only [Act.put, xA, xB, xC]
    refine wtk 14 (undef) rfl (fun _ _ _ h => h) (Or.inr ⟨by rfl, rfl⟩) hS0 ?_
    try simp only [Act.put, xA, xB, xC]
    refine wtk 15 (undef) rfl (fun _ _ _ h => h) (Or.inr ⟨by rfl, rfl⟩) hS0 ?_
    try simp only [Act.put, xA, xB, xC]
    refine wtk 16 (undef) rfl (fun _ _ _ h => h) (Or.inr ⟨by rfl, rfl⟩) hS0 ?_
    try simp only [Act.put, xA, xB, xC]
    refine wtk 17 (.bool true) rfl (fun _ _ _ h => h) (Or.inl ⟨by rfl, fun W3 hS => by go_simp⟩) hS0 ?_
    try simp only [Act.put, xA, xB, xC]
    refine wtk 18 (.bool true) rfl (fun _ _ _ h => h) (Or.inl ⟨by rfl, fun W3 hS => by go_simp⟩) hS0 ?_
    try simp only [Act.put, xA, xB, xC]
    refine wtk 19 (undef) rfl (fun _ _ _ h => h) (Or.inr ⟨by rfl, rfl⟩) hS0 ?_
    try simp only [Act.put, xA, xB, xC]
    refine wtk 20 (undef) rfl (fun _ _ _ h => h) (Or.inr ⟨by rfl, rfl⟩) hS0 ?_
    try simp only [Act.put, xA, xB, xC]
    refine wtk 21 (undef) rfl (fun _ _ _ h => h) (Or.inr ⟨by rfl, rfl⟩) hS0 ?_
    try simp only [Act.put, xA, xB, xC]
    refine wtk 22 (undef) rfl (fun _ _ _ h => h) (Or.inr ⟨by rfl, rfl⟩) hS0 ?_
    try simp only [Act.put, xA, xB, xC]
    refine wtk 23 (undef) rfl (fun _ _ _ h => h) (Or.inr ⟨by rfl, rfl⟩) hS0 ?_
    try simp only [Act.put, xA, xB, xC]
    refine wtk 24 (undef) rfl (fun _ _ _ h => h) (Or.inr ⟨by rfl, rfl⟩) hS0 ?_
    try simp only [Act.put, xA, xB, xC]
    refine wtk 25 (undef) rfl (fun _ _ _ h => h) (Or.inr ⟨by rfl, rfl⟩) hS0 ?_
    try simp only [Act.put, xA, xB, xC]
    refine wtk 26 (undef) rfl (fun _ _ _ h => h) (Or.inr ⟨by rfl, rfl⟩) hS0 ?_
    try simp only [Act.put, xA, xB, xC]
    refine wtk 27 (undef) rfl (fun _ _ _ h => h) (Or.inr ⟨by rfl, rfl⟩) hS0 ?_
    try simp only [Act.put, xA, xB, xC]
    refine wtk 28 (undef) rfl (fun _ _ _ h => h) (Or.inr ⟨by rfl, rfl⟩) hS0 ?_
    try simp only [Act.put, xA, xB, xC]
    refine wtk 29 (undef) rfl (fun _ _ _ h => h) (Or.inr ⟨by rfl, rfl⟩) hS0 ?_
    try simp only [Act.put, xA, xB, xC]
    refine wtk 30 (.bool true) rfl (fun _ _ _ h => h) (Or.inl ⟨by rfl, fun W3 hS => by go_simp⟩) hS0 ?_
    try simp only [Act.put, xA, xB, xC]
    refine wtk 31 (.bool true) rfl (fun _ _ _ h => h) (Or.inl ⟨by rfl, fun W3 hS => by go_simp⟩) hS0 ?_
    try simp only [Act.put, xA, xB, xC]
    refine wtk 32 (undef) rfl (fun _ _ _ h => h) (Or.inr ⟨by rfl, rfl⟩) hS0 ?_
    try simp only [Act.put, xA, xB, xC]
    refine wtk 33 (undef) rfl (fun _ _ _ h => h) (Or.inr ⟨by rfl, rfl⟩) hS0 ?_
    try simp only [Act.put, xA, xB, xC]
    refine wtk 34 (undef) rfl (fun _ _ _ h => h) (Or.inr ⟨by rfl, rfl⟩) hS0 ?_
    try simp only [Act.put, xA, xB, xC]
    refine wtk 35 (.bool true) rfl (fun _ _ _ h => h) (Or.inl ⟨by rfl, fun W3 hS => by go_simp⟩) hS0 ?_
    try simp only [Act.put, xA, xB, xC]
    clear hS0
    refine wdn ?_
    have BZ := Lib.hid (then_below HW.out M.below)
    clear M
    go_wp2_with fail
    refine (ka.out _).mono ?_
    rintro e wz ⟨rfl, rr⟩
    have BY := Lib.hid (then_below BZ.out rr)
    clear rr
    go_wp2_with fail
    go_ret
    exact ⟨rfl, BY.out⟩
  have i1 : ¬ (10 : Int) < (n1 : Int) := by omega
  have i1' : decide ((10 : Int) < (n1 : Int)) = false := decide_eq_false i1
  by_cases h20 : 10 < n2
  · as_aux_lemma =>
    have i2 : (10 : Int) < (n2 : Int) := by omega
    have i2' : decide ((10 : Int) < (n2 : Int)) = true := decide_eq_true i2
    have M : Mem wb [] [] wb := Mem.start wb
    refine region_mem (S := (fun (W : World) => BoxN W bx 38 #[.slice a1 n1 c1, .slice a2 n2 c2] ∧ BoxN W bp 44 #[.bool q.1, .slice p q.2.1.length pc, .slice o q.2.2.length oc])) M (by kernel_rfl) ?_
    intro V0 M
    refine one_op 0 rfl (fun K1 hK => ?_)
    go_simp
    refine (ka.out _).mono ?_
    rintro e V1_0 ⟨rfl, rr⟩
    have M' := M.up rr
    clear M rr 
    have M := M'; clear M'
    refine hK _ _ ⟨⟨(HX.out.under M.below), (HP.out.under M.below)⟩, ?_⟩
    clear hK K1
    have hS0 : (fun (W : World) => BoxN W bx 38 #[.slice a1 n1 c1, .slice a2 n2 c2] ∧ BoxN W bp 44 #[.bool q.1, .slice p q.2.1.length pc, .slice o q.2.2.length oc]) _ := ⟨(HX.out.under M.below), (HP.out.under M.below)⟩
    refine wtk 1 (.bool false) rfl (fun _ _ _ h => h) (Or.inl ⟨by rfl, fun W3 hS => by go_simp⟩) hS0 ?_
    try simp only [Act.put, xA, xB, xC]
    refine wtk 2 (.bool false) rfl (fun _ _ _ h => h) (Or.inl ⟨by rfl, fun W3 hS => by go_simp⟩) hS0 ?_
    try simp only [Act.put, xA, xB, xC]
    refine wtk 3 (.slice a n c) rfl (fun _ _ _ h => h) (Or.inl ⟨by rfl, fun W3 hS => by go_simp⟩) hS0 ?_
    try simp only [Act.put, xA, xB, xC]
    clear hS0
    refine one_op 4 rfl (fun K2 hK => ?_)
    go_simp
    refine (kg.out _ (then_below HW.out M.below)).mono ?_
    rintro e V2_4 ⟨rfl, rr⟩
    have M' := M.up rr
    clear M rr 
    have M := M'; clear M'
    refine hK _ _ ⟨⟨(HX.out.under M.below), (HP.out.under M.below)⟩, ?_⟩
    clear hK K2
    have hS0 : (fun (W : World) => BoxN W bx 38 #[.slice a1 n1 c1, .slice a2 n2 c2] ∧ BoxN W bp 44 #[.bool q.1, .slice p q.2.1.length pc, .slice o q.2.2.length oc]) _ := ⟨(HX.out.under M.below), (HP.out.under M.below)⟩
    refine wtk 5 (.bool false) rfl (fun _ _ _ h => h) (Or.inl ⟨by rfl, fun W3 hS => by go_simp⟩) hS0 ?_
    try simp only [Act.put, xA, xB, xC]
    refine wtk 6 (.bool false) rfl (fun _ _ _ h => h) (Or.inl ⟨by rfl, fun W3 hS => by go_simp⟩) hS0 ?_
    try simp only [Act.put, xA, xB, xC]
    refine wtk 7 (.pointer (some ⟨bx, 0, none⟩)) rfl (fun _ _ _ h => h) (Or.inl ⟨by rfl, fun W3 hS => by go_simp⟩) hS0 ?_
    try simp only [Act.put, xA, xB, xC]
    refine wtk 8 (.slice a1 n1 c1) rfl (fun _ _ _ h => h) (Or.inl ⟨by rfl, fun W3 hS => by obtain ⟨hS0, hS1⟩ := hS; have d0_0 := hS0.cell 0 _ rfl; have d0_1 := hS0.cell 1 _ rfl; have d1_0 := hS1.cell 0 _ rfl; have d1_1 := hS1.cell 1 _ rfl; have d1_2 := hS1.cell 2 _ rfl; go_simp⟩) hS0 ?_
    try simp only [Act.put, xA, xB, xC]
    refine wtk 9 (.int .i64 (n1 : Int)) rfl (fun _ _ _ h => h) (Or.inl ⟨by rfl, fun W3 hS => by go_simp⟩) hS0 ?_
    try simp only [Act.put, xA, xB, xC]
    refine wtk 10 (.bool false) rfl (fun _ _ _ h => h) (Or.inl ⟨by rfl, fun W3 hS => by go_simp⟩) hS0 ?_
    try simp only [Act.put, xA, xB, xC]
    refine wtk 11 (.bool false) rfl (fun _ _ _ h => h) (Or.inl ⟨by rfl, fun W3 hS => by go_simp⟩) hS0 ?_
    try simp only [Act.put, xA, xB, xC]
    refine wtk 12 (.bool false) rfl (fun _ _ _ h => h) (Or.inl ⟨by rfl, fun W3 hS => by go_simp⟩) hS0 ?_
    try simp only [Act.put, xA, xB, xC]
    refine wtk 13 (.pointer (some ⟨bx, 1, none⟩)) rfl (fun _ _ _ h => h) (Or.inl ⟨by rfl, fun W3 hS => by go_simp⟩) hS0 ?_
    try simp only [Act.put, xA, xB, xC]
    refine wtk 14 (.slice a2 n2 c2) rfl (fun _ _ _ h => h) (Or.inl ⟨by rfl, fun W3 hS => by obtain ⟨hS0, hS1⟩ := hS; have d0_0 := hS0.cell 0 _ rfl; have d0_1 := hS0.cell 1 _ rfl; have d1_0 := hS1.cell 0 _ rfl; have d1_1 := hS1.cell 1 _ rfl; have d1_2 := hS1.cell 2 _ rfl; go_simp⟩) hS0 ?_
    try simp only [Act.put, xA, xB, xC]
    refine wtk 15 (.int .i64 (n2 : Int)) rfl (fun _ _ _ h => h) (Or.inl ⟨by rfl, fun W3 hS => by go_simp⟩) hS0 ?_
    try simp only [Act.put, xA, xB, xC]
    refine wtk 16 (.bool true) rfl (fun _ _ _ h => h) (Or.inl ⟨by rfl, fun W3 hS => by go_simp⟩) hS0 ?_
    try simp only [Act.put, xA, xB, xC]
    refine wtk 17 (.bool true) rfl (fun _ _ _ h => h) (Or.inl ⟨by rfl, fun W3 hS => by go_simp⟩) hS0 ?_
    try simp only [Act.put, xA, xB, xC]
    refine wtk 18 (.bool true) rfl (fun _ _ _ h => h) (Or.inl ⟨by rfl, fun W3 hS => by go_simp⟩) hS0 ?_
    try simp only [Act.put, xA, xB, xC]
    refine wtk 19 (undef) rfl (fun _ _ _ h => h) (Or.inr ⟨by rfl, rfl⟩) hS0 ?_
    try simp only [Act.put, xA, xB, xC]
    refine wtk 20 (undef) rfl (fun _ _ _ h => h) (Or.inr ⟨by rfl, rfl⟩) hS0 ?_
    try simp only [Act.put, xA, xB, xC]
    refine wtk 21 (undef) rfl (fun _ _ _ h => h) (Or.inr ⟨by rfl, rfl⟩) hS0 ?_
    try simp only [Act.put, xA, xB, xC]
    refine wtk 22 (undef) rfl (fun _ _ _ h => h) (Or.inr ⟨by rfl, rfl⟩) hS0 ?_
    try simp only [Act.put, xA, xB, xC]
    refine wtk 23 (undef) rfl (fun _ _ _ h => h) (Or.inr ⟨by rfl, rfl⟩) hS0 ?_
    try simp only [Act.put, xA, xB, xC]
    refine wtk 24 (undef) rfl (fun _ _ _ h => h) (Or.inr ⟨by rfl, rfl⟩) hS0 ?_
    try simp only [Act.put, xA, xB, xC]
    refine wtk 25 (undef) rfl (fun _ _ _ h => h) (Or.inr ⟨by rfl, rfl⟩) hS0 ?_
    try simp only [Act.put, xA, xB, xC]
    refine wtk 26 (undef) rfl (fun _ _ _ h => h) (Or.inr ⟨by rfl, rfl⟩) hS0 ?_
    try simp only [Act.put, xA, xB, xC]
    refine wtk 27 (undef) rfl (fun _ _ _ h => h) (Or.inr ⟨by rfl, rfl⟩) hS0 ?_
    try simp only [Act.put, xA, xB, xC]
    refine wtk 28 (undef) rfl (fun _ _ _ h => h) (Or.inr ⟨by rfl, rfl⟩) hS0 ?_
    try simp only [Act.put, xA, xB, xC]
    refine wtk 29 (undef) rfl (fun _ _ _ h => h) (Or.inr ⟨by rfl, rfl⟩) hS0 ?_
    try simp only [Act.put, xA, xB, xC]
    refine wtk 30 (.bool true) rfl (fun _ _ _ h => h) (Or.inl ⟨by rfl, fun W3 hS => by go_simp⟩) hS0 ?_
    try simp only [Act.put, xA, xB, xC]
    refine wtk 31 (.bool true) rfl (fun _ _ _ h => h) (Or.inl ⟨by rfl, fun W3 hS => by go_simp⟩) hS0 ?_
    try simp only [Act.put, xA, xB, xC]
    refine wtk 32 (undef) rfl (fun _ _ _ h => h) (Or.inr ⟨by rfl, rfl⟩) hS0 ?_
    try simp only [Act.put, xA, xB, xC]
    refine wtk 33 (undef) rfl (fun _ _ _ h => h) (Or.inr ⟨by rfl, rfl⟩) hS0 ?_
    try simp only [Act.put, xA, xB, xC]
    refine wtk 34 (undef) rfl (fun _ _ _ h => h) (Or.inr ⟨by rfl, rfl⟩) hS0 ?_
    try simp only [Act.put, xA, xB, xC]
    refine wtk 35 (.bool true) rfl (fun _ _ _ h => h) (Or.inl ⟨by rfl, fun W3 hS => by go_simp⟩) hS0 ?_
    try simp only [Act.put, xA, xB, xC]
    clear hS0
    refine wdn ?_
    have BZ := Lib.hid (then_below HW.out M.below)
    clear M
    go_wp2_with fail
    refine (ka.out _).mono ?_
    rintro e wz ⟨rfl, rr⟩
    have BY := Lib.hid (then_below BZ.out rr)
    clear rr
    go_wp2_with fail
    go_ret
    exact ⟨rfl, BY.out⟩
  have i2 : ¬ (10 : Int) < (n2 : Int) := by omega
  have i2' : decide ((10 : Int) < (n2 : Int)) = false := decide_eq_false i2
  by_cases h100 : 100 < sv
  · as_aux_lemma =>
    have i3a : (100 : Int) < (sv : Int) := by omega
    have i3b : decide ((100 : Int) < (sv : Int)) = true := decide_eq_true i3a
    have M : Mem wb [] [] wb := Mem.start wb
    refine region_mem (S := (fun (W : World) => BoxN W bx 38 #[.slice a1 n1 c1, .slice a2 n2 c2] ∧ BoxN W bp 44 #[.bool q.1, .slice p q.2.1.length pc, .slice o q.2.2.length oc])) M (by kernel_rfl) ?_
    intro V0 M
    refine one_op 0 rfl (fun K1 hK => ?_)
    go_simp
    refine (ka.out _).mono ?_
    rintro e V1_0 ⟨rfl, rr⟩
    have M' := M.up rr
    clear M rr 
    have M := M'; clear M'
    refine hK _ _ ⟨⟨(HX.out.under M.below), (HP.out.under M.below)⟩, ?_⟩
    clear hK K1
    have hS0 : (fun (W : World) => BoxN W bx 38 #[.slice a1 n1 c1, .slice a2 n2 c2] ∧ BoxN W bp 44 #[.bool q.1, .slice p q.2.1.length pc, .slice o q.2.2.length oc]) _ := ⟨(HX.out.under M.below), (HP.out.under M.below)⟩
    refine wtk 1 (.bool false) rfl (fun _ _ _ h => h) (Or.inl ⟨by rfl, fun W3 hS => by go_simp⟩) hS0 ?_
    try simp only [Act.put, xA, xB, xC]
    refine wtk 2 (.bool false) rfl (fun _ _ _ h => h) (Or.inl ⟨by rfl, fun W3 hS => by go_simp⟩) hS0 ?_
    try simp only [Act.put, xA, xB, xC]
    refine wtk 3 (.slice a n c) rfl (fun _ _ _ h => h) (Or.inl ⟨by rfl, fun W3 hS => by go_simp⟩) hS0 ?_
    try simp only [Act.put, xA, xB, xC]
    clear hS0
    refine one_op 4 rfl (fun K2 hK => ?_)
    go_simp
    refine (kg.out _ (then_below HW.out M.below)).mono ?_
    rintro e V2_4 ⟨rfl, rr⟩
    have M' := M.up rr
    clear M rr 
    have M := M'; clear M'
    refine hK _ _ ⟨⟨(HX.out.under M.below), (HP.out.under M.below)⟩, ?_⟩
    clear hK K2
    have hS0 : (fun (W : World) => BoxN W bx 38 #[.slice a1 n1 c1, .slice a2 n2 c2] ∧ BoxN W bp 44 #[.bool q.1, .slice p q.2.1.length pc, .slice o q.2.2.length oc]) _ := ⟨(HX.out.under M.below), (HP.out.under M.below)⟩
    refine wtk 5 (.bool false) rfl (fun _ _ _ h => h) (Or.inl ⟨by rfl, fun W3 hS => by go_simp⟩) hS0 ?_
    try simp only [Act.put, xA, xB, xC]
    refine wtk 6 (.bool false) rfl (fun _ _ _ h => h) (Or.inl ⟨by rfl, fun W3 hS => by go_simp⟩) hS0 ?_
    try simp only [Act.put, xA, xB, xC]
    refine wtk 7 (.pointer (some ⟨bx, 0, none⟩)) rfl (fun _ _ _ h => h) (Or.inl ⟨by rfl, fun W3 hS => by go_simp⟩) hS0 ?_
    try simp only [Act.put, xA, xB, xC]
    refine wtk 8 (.slice a1 n1 c1) rfl (fun _ _ _ h => h) (Or.inl ⟨by rfl, fun W3 hS => by obtain ⟨hS0, hS1⟩ := hS; have d0_0 := hS0.cell 0 _ rfl; have d0_1 := hS0.cell 1 _ rfl; have d1_0 := hS1.cell 0 _ rfl; have d1_1 := hS1.cell 1 _ rfl; have d1_2 := hS1.cell 2 _ rfl; go_simp⟩) hS0 ?_
    try simp only [Act.put, xA, xB, xC]
    refine wtk 9 (.int .i64 (n1 : Int)) rfl (fun _ _ _ h => h) (Or.inl ⟨by rfl, fun W3 hS => by go_simp⟩) hS0 ?_
    try simp only [Act.put, xA, xB, xC]
    refine wtk 10 (.bool false) rfl (fun _ _ _ h => h) (Or.inl ⟨by rfl, fun W3 hS => by go_simp⟩) hS0 ?_
    try simp only [Act.put, xA, xB, xC]
    refine wtk 11 (.bool false) rfl (fun _ _ _ h => h) (Or.inl ⟨by rfl, fun W3 hS => by go_simp⟩) hS0 ?_
    try simp only [Act.put, xA, xB, xC]
    refine wtk 12 (.bool false) rfl (fun _ _ _ h => h) (Or.inl ⟨by rfl, fun W3 hS => by go_simp⟩) hS0 ?_
    try simp only [Act.put, xA, xB, xC]
    refine wtk 13 (.pointer (some ⟨bx, 1, none⟩)) rfl (fun _ _ _ h => h) (Or.inl ⟨by rfl, fun W3 hS => by go_simp⟩) hS0 ?_
    try simp only [Act.put, xA, xB, xC]
    refine wtk 14 (.slice a2 n2 c2) rfl (fun _ _ _ h => h) (Or.inl ⟨by rfl, fun W3 hS => by obtain ⟨hS0, hS1⟩ := hS; have d0_0 := hS0.cell 0 _ rfl; have d0_1 := hS0.cell 1 _ rfl; have d1_0 := hS1.cell 0 _ rfl; have d1_1 := hS1.cell 1 _ rfl; have d1_2 := hS1.cell 2 _ rfl; go_simp⟩) hS0 ?_
    try simp only [Act.put, xA, xB, xC]
    refine wtk 15 (.int .i64 (n2 : Int)) rfl (fun _ _ _ h => h) (Or.inl ⟨by rfl, fun W3 hS => by go_simp⟩) hS0 ?_
    try simp only [Act.put, xA, xB, xC]
    refine wtk 16 (.bool false) rfl (fun _ _ _ h => h) (Or.inl ⟨by rfl, fun W3 hS => by go_simp⟩) hS0 ?_
    try simp only [Act.put, xA, xB, xC]
    refine wtk 17 (.bool false) rfl (fun _ _ _ h => h) (Or.inl ⟨by rfl, fun W3 hS => by go_simp⟩) hS0 ?_
    try simp only [Act.put, xA, xB, xC]
    refine wtk 18 (.bool false) rfl (fun _ _ _ h => h) (Or.inl ⟨by rfl, fun W3 hS => by go_simp⟩) hS0 ?_
    try simp only [Act.put, xA, xB, xC]
    refine wtk 19 (.pointer (some ⟨bx, 0, none⟩)) rfl (fun _ _ _ h => h) (Or.inl ⟨by rfl, fun W3 hS => by go_simp⟩) hS0 ?_
    try simp only [Act.put, xA, xB, xC]
    refine wtk 20 (.slice a1 n1 c1) rfl (fun _ _ _ h => h) (Or.inl ⟨by rfl, fun W3 hS => by obtain ⟨hS0, hS1⟩ := hS; have d0_0 := hS0.cell 0 _ rfl; have d0_1 := hS0.cell 1 _ rfl; have d1_0 := hS1.cell 0 _ rfl; have d1_1 := hS1.cell 1 _ rfl; have d1_2 := hS1.cell 2 _ rfl; go_simp⟩) hS0 ?_
    try simp only [Act.put, xA, xB, xC]
    refine wtk 22 (.pointer (some ⟨bx, 1, none⟩)) rfl (fun _ _ _ h => h) (Or.inl ⟨by rfl, fun W3 hS => by go_simp⟩) hS0 ?_
    try simp only [Act.put, xA, xB, xC]
    refine wtk 23 (.slice a2 n2 c2) rfl (fun _ _ _ h => h) (Or.inl ⟨by rfl, fun W3 hS => by obtain ⟨hS0, hS1⟩ := hS; have d0_0 := hS0.cell 0 _ rfl; have d0_1 := hS0.cell 1 _ rfl; have d1_0 := hS1.cell 0 _ rfl; have d1_1 := hS1.cell 1 _ rfl; have d1_2 := hS1.cell 2 _ rfl; go_simp⟩) hS0 ?_
    try simp only [Act.put, xA, xB, xC]
    refine wtk 26 (.agg #[.bool q.1, .slice p q.2.1.length pc, .slice o q.2.2.length oc]) rfl (fun _ _ _ h => h) (Or.inl ⟨by rfl, fun W3 hS => by obtain ⟨hS0, hS1⟩ := hS; have d0_0 := hS0.cell 0 _ rfl; have d0_1 := hS0.cell 1 _ rfl; have d1_0 := hS1.cell 0 _ rfl; have d1_1 := hS1.cell 1 _ rfl; have d1_2 := hS1.cell 2 _ rfl; go_simp⟩) hS0 ?_
    try simp only [Act.put, xA, xB, xC]
    clear hS0
    refine one_op 21 rfl (fun K3 hK => ?_)
    go_simp
    refine (ks1.out _ (then_below HW.out M.below)).mono ?_
    rintro e V3_21 ⟨rfl, rr⟩
    have M' := M.up rr
    clear M rr 
    have M := M'; clear M'
    refine hK _ _ ⟨⟨(HX.out.under M.below), (HP.out.under M.below)⟩, ?_⟩
    clear hK K3
    refine one_op 24 rfl (fun K4 hK => ?_)
    go_simp
    refine (ks2.out _ (then_below HW.out M.below)).mono ?_
    rintro e V4_24 ⟨rfl, rr⟩
    have M' := M.up rr
    clear M rr 
    have M := M'; clear M'
    refine hK _ _ ⟨⟨(HX.out.under M.below), (HP.out.under M.below)⟩, ?_⟩
    clear hK K4
    have hS0 : (fun (W : World) => BoxN W bx 38 #[.slice a1 n1 c1, .slice a2 n2 c2] ∧ BoxN W bp 44 #[.bool q.1, .slice p q.2.1.length pc, .slice o q.2.2.length oc]) _ := ⟨(HX.out.under M.below), (HP.out.under M.below)⟩
    refine wtk 25 (.int .i64 (su : Int)) rfl (fun _ _ _ h => h) (Or.inl ⟨by rfl, fun W3 hS => by go_simp⟩) hS0 ?_
    try simp only [Act.put, xA, xB, xC]
    clear hS0
    refine one_op 27 rfl (fun K5 hK => ?_)
    go_simp
    refine (ks3.out _).mono ?_
    rintro e V5_27 ⟨rfl, rr⟩
    have M' := M.up rr
    clear M rr 
    have M := M'; clear M'
    refine hK _ _ ⟨⟨(HX.out.under M.below), (HP.out.under M.below)⟩, ?_⟩
    clear hK K5
    have hS0 : (fun (W : World) => BoxN W bx 38 #[.slice a1 n1 c1, .slice a2 n2 c2] ∧ BoxN W bp 44 #[.bool q.1, .slice p q.2.1.length pc, .slice o q.2.2.length oc]) _ := ⟨(HX.out.under M.below), (HP.out.under M.below)⟩
    refine wtk 28 (.int .i64 (sv : Int)) rfl (fun _ _ _ h => h) (Or.inl ⟨by rfl, fun W3 hS => by go_simp⟩) hS0 ?_
    try simp only [Act.put, xA, xB, xC]
    refine wtk 29 (.bool true) rfl (fun _ _ _ h => h) (Or.inl ⟨by rfl, fun W3 hS => by go_simp⟩) hS0 ?_
    try simp only [Act.put, xA, xB, xC]
    refine wtk 30 (.bool true) rfl (fun _ _ _ h => h) (Or.inl ⟨by rfl, fun W3 hS => by go_simp⟩) hS0 ?_
    try simp only [Act.put, xA, xB, xC]
    refine wtk 31 (.bool true) rfl (fun _ _ _ h => h) (Or.inl ⟨by rfl, fun W3 hS => by go_simp⟩) hS0 ?_
    try simp only [Act.put, xA, xB, xC]
    refine wtk 32 (undef) rfl (fun _ _ _ h => h) (Or.inr ⟨by rfl, rfl⟩) hS0 ?_
    try simp only [Act.put, xA, xB, xC]
    refine wtk 33 (undef) rfl (fun _ _ _ h => h) (Or.inr ⟨by rfl, rfl⟩) hS0 ?_
    try simp only [Act.put, xA, xB, xC]
    refine wtk 34 (undef) rfl (fun _ _ _ h => h) (Or.inr ⟨by rfl, rfl⟩) hS0 ?_
    try simp only [Act.put, xA, xB, xC]
    refine wtk 35 (.bool true) rfl (fun _ _ _ h => h) (Or.inl ⟨by rfl, fun W3 hS => by go_simp⟩) hS0 ?_
    try simp only [Act.put, xA, xB, xC]
    clear hS0
    refine wdn ?_
    have BZ := Lib.hid (then_below HW.out M.below)
    clear M
    go_wp2_with fail
    refine (ka.out _).mono ?_
    rintro e wz ⟨rfl, rr⟩
    have BY := Lib.hid (then_below BZ.out rr)
    clear rr
    go_wp2_with fail
    go_ret
    exact ⟨rfl, BY.out⟩
  have i3a : ¬ (100 : Int) < (sv : Int) := by omega
  have i3b : decide ((100 : Int) < (sv : Int)) = false := decide_eq_false i3a
  by_cases hn : n = 0
  · as_aux_lemma =>
    have i4 : ((n : Int) == 0) = true := by rw [hn]; rfl
    clear hn
    have M : Mem wb [] [] wb := Mem.start wb
    refine region_mem (S := (fun (W : World) => BoxN W bx 38 #[.slice a1 n1 c1, .slice a2 n2 c2] ∧ BoxN W bp 44 #[.bool q.1, .slice p q.2.1.length pc, .slice o q.2.2.length oc])) M (by kernel_rfl) ?_
    intro V0 M
    refine one_op 0 rfl (fun K1 hK => ?_)
    go_simp
    refine (ka.out _).mono ?_
    rintro e V1_0 ⟨rfl, rr⟩
    have M' := M.up rr
    clear M rr 
    have M := M'; clear M'
    refine hK _ _ ⟨⟨(HX.out.under M.below), (HP.out.under M.below)⟩, ?_⟩
    clear hK K1
    have hS0 : (fun (W : World) => BoxN W bx 38 #[.slice a1 n1 c1, .slice a2 n2 c2] ∧ BoxN W bp 44 #[.bool q.1, .slice p q.2.1.length pc, .slice o q.2.2.length oc]) _ := ⟨(HX.out.under M.below), (HP.out.under M.below)⟩
    refine wtk 1 (.bool false) rfl (fun _ _ _ h => h) (Or.inl ⟨by rfl, fun W3 hS => by go_simp⟩) hS0 ?_
    try simp only [Act.put, xA, xB, xC]
    refine wtk 2 (.bool false) rfl (fun _ _ _ h => h) (Or.inl ⟨by rfl, fun W3 hS => by go_simp⟩) hS0 ?_
    try simp only [Act.put, xA, xB, xC]
    refine wtk 3 (.slice a n c) rfl (fun _ _ _ h => h) (Or.inl ⟨by rfl, fun W3 hS => by go_simp⟩) hS0 ?_
    try simp only [Act.put, xA, xB, xC]
    clear hS0
    refine one_op 4 rfl (fun K2 hK => ?_)
    go_simp
    refine (kg.out _ (then_below HW.out M.below)).mono ?_
    rintro e V2_4 ⟨rfl, rr⟩
    have M' := M.up rr
    clear M rr 
    have M := M'; clear M'
    refine hK _ _ ⟨⟨(HX.out.under M.below), (HP.out.under M.below)⟩, ?_⟩
    clear hK K2
    have hS0 : (fun (W : World) => BoxN W bx 38 #[.slice a1 n1 c1, .slice a2 n2 c2] ∧ BoxN W bp 44 #[.bool q.1, .slice p q.2.1.length pc, .slice o q.2.2.length oc]) _ := ⟨(HX.out.under M.below), (HP.out.under M.below)⟩
    refine wtk 5 (.bool false) rfl (fun _ _ _ h => h) (Or.inl ⟨by rfl, fun W3 hS => by go_simp⟩) hS0 ?_
    try simp only [Act.put, xA, xB, xC]
    refine wtk 6 (.bool false) rfl (fun _ _ _ h => h) (Or.inl ⟨by rfl, fun W3 hS => by go_simp⟩) hS0 ?_
    try simp only [Act.put, xA, xB, xC]
    refine wtk 7 (.pointer (some ⟨bx, 0, none⟩)) rfl (fun _ _ _ h => h) (Or.inl ⟨by rfl, fun W3 hS => by go_simp⟩) hS0 ?_
    try simp only [Act.put, xA, xB, xC]
    refine wtk 8 (.slice a1 n1 c1) rfl (fun _ _ _ h => h) (Or.inl ⟨by rfl, fun W3 hS => by obtain ⟨hS0, hS1⟩ := hS; have d0_0 := hS0.cell 0 _ rfl; have d0_1 := hS0.cell 1 _ rfl; have d1_0 := hS1.cell 0 _ rfl; have d1_1 := hS1.cell 1 _ rfl; have d1_2 := hS1.cell 2 _ rfl; go_simp⟩) hS0 ?_
    try simp only [Act.put, xA, xB, xC]
    refine wtk 9 (.int .i64 (n1 : Int)) rfl (fun _ _ _ h => h) (Or.inl ⟨by rfl, fun W3 hS => by go_simp⟩) hS0 ?_
    try simp only [Act.put, xA, xB, xC]
    refine wtk 10 (.bool false) rfl (fun _ _ _ h => h) (Or.inl ⟨by rfl, fun W3 hS => by go_simp⟩) hS0 ?_
    try simp only [Act.put, xA, xB, xC]
    refine wtk 11 (.bool false) rfl (fun _ _ _ h => h) (Or.inl ⟨by rfl, fun W3 hS => by go_simp⟩) hS0 ?_
    try simp only [Act.put, xA, xB, xC]
    refine wtk 12 (.bool false) rfl (fun _ _ _ h => h) (Or.inl ⟨by rfl, fun W3 hS => by go_simp⟩) hS0 ?_
    try simp only [Act.put, xA, xB, xC]
    refine wtk 13 (.pointer (some ⟨bx, 1, none⟩)) rfl (fun _ _ _ h => h) (Or.inl ⟨by rfl, fun W3 hS => by go_simp⟩) hS0 ?_
    try simp only [Act.put, xA, xB, xC]
    refine wtk 14 (.slice a2 n2 c2) rfl (fun _ _ _ h => h) (Or.inl ⟨by rfl, fun W3 hS => by obtain ⟨hS0, hS1⟩ := hS; have d0_0 := hS0.cell 0 _ rfl; have d0_1 := hS0.cell 1 _ rfl; have d1_0 := hS1.cell 0 _ rfl; have d1_1 := hS1.cell 1 _ rfl; have d1_2 := hS1.cell 2 _ rfl; go_simp⟩) hS0 ?_
    try simp only [Act.put, xA, xB, xC]
    refine wtk 15 (.int .i64 (n2 : Int)) rfl (fun _ _ _ h => h) (Or.inl ⟨by rfl, fun W3 hS => by go_simp⟩) hS0 ?_
    try simp only [Act.put, xA, xB, xC]
    refine wtk 16 (.bool false) rfl (fun _ _ _ h => h) (Or.inl ⟨by rfl, fun W3 hS => by go_simp⟩) hS0 ?_
    try simp only [Act.put, xA, xB, xC]
    refine wtk 17 (.bool false) rfl (fun _ _ _ h => h) (Or.inl ⟨by rfl, fun W3 hS => by go_simp⟩) hS0 ?_
    try simp only [Act.put, xA, xB, xC]
    refine wtk 18 (.bool false) rfl (fun _ _ _ h => h) (Or.inl ⟨by rfl, fun W3 hS => by go_simp⟩) hS0 ?_
    try simp only [Act.put, xA, xB, xC]
    refine wtk 19 (.pointer (some ⟨bx, 0, none⟩)) rfl (fun _ _ _ h => h) (Or.inl ⟨by rfl, fun W3 hS => by go_simp⟩) hS0 ?_
    try simp only [Act.put, xA, xB, xC]
    refine wtk 20 (.slice a1 n1 c1) rfl (fun _ _ _ h => h) (Or.inl ⟨by rfl, fun W3 hS => by obtain ⟨hS0, hS1⟩ := hS; have d0_0 := hS0.cell 0 _ rfl; have d0_1 := hS0.cell 1 _ rfl; have d1_0 := hS1.cell 0 _ rfl; have d1_1 := hS1.cell 1 _ rfl; have d1_2 := hS1.cell 2 _ rfl; go_simp⟩) hS0 ?_
    try simp only [Act.put, xA, xB, xC]
    refine wtk 22 (.pointer (some ⟨bx, 1, none⟩)) rfl (fun _ _ _ h => h) (Or.inl ⟨by rfl, fun W3 hS => by go_simp⟩) hS0 ?_
    try simp only [Act.put, xA, xB, xC]
    refine wtk 23 (.slice a2 n2 c2) rfl (fun _ _ _ h => h) (Or.inl ⟨by rfl, fun W3 hS => by obtain ⟨hS0, hS1⟩ := hS; have d0_0 := hS0.cell 0 _ rfl; have d0_1 := hS0.cell 1 _ rfl; have d1_0 := hS1.cell 0 _ rfl; have d1_1 := hS1.cell 1 _ rfl; have d1_2 := hS1.cell 2 _ rfl; go_simp⟩) hS0 ?_
    try simp only [Act.put, xA, xB, xC]
    refine wtk 26 (.agg #[.bool q.1, .slice p q.2.1.length pc, .slice o q.2.2.length oc]) rfl (fun _ _ _ h => h) (Or.inl ⟨by rfl, fun W3 hS => by obtain ⟨hS0, hS1⟩ := hS; have d0_0 := hS0.cell 0 _ rfl; have d0_1 := hS0.cell 1 _ rfl; have d1_0 := hS1.cell 0 _ rfl; have d1_1 := hS1.cell 1 _ rfl; have d1_2 := hS1.cell 2 _ rfl; go_simp⟩) hS0 ?_
    try simp only [Act.put, xA, xB, xC]
    clear hS0
    refine one_op 21 rfl (fun K3 hK => ?_)
    go_simp
    refine (ks1.out _ (then_below HW.out M.below)).mono ?_
    rintro e V3_21 ⟨rfl, rr⟩
    have M' := M.up rr
    clear M rr 
    have M := M'; clear M'
    refine hK _ _ ⟨⟨(HX.out.under M.below), (HP.out.under M.below)⟩, ?_⟩
    clear hK K3
    refine one_op 24 rfl (fun K4 hK => ?_)
    go_simp
    refine (ks2.out _ (then_below HW.out M.below)).mono ?_
    rintro e V4_24 ⟨rfl, rr⟩
    have M' := M.up rr
    clear M rr 
    have M := M'; clear M'
    refine hK _ _ ⟨⟨(HX.out.under M.below), (HP.out.under M.below)⟩, ?_⟩
    clear hK K4
    have hS0 : (fun (W : World) => BoxN W bx 38 #[.slice a1 n1 c1, .slice a2 n2 c2] ∧ BoxN W bp 44 #[.bool q.1, .slice p q.2.1.length pc, .slice o q.2.2.length oc]) _ := ⟨(HX.out.under M.below), (HP.out.under M.below)⟩
    refine wtk 25 (.int .i64 (su : Int)) rfl (fun _ _ _ h => h) (Or.inl ⟨by rfl, fun W3 hS => by go_simp⟩) hS0 ?_
    try simp only [Act.put, xA, xB, xC]
    clear hS0
    refine one_op 27 rfl (fun K5 hK => ?_)
    go_simp
    refine (ks3.out _).mono ?_
    rintro e V5_27 ⟨rfl, rr⟩
    have M' := M.up rr
    clear M rr 
    have M := M'; clear M'
    refine hK _ _ ⟨⟨(HX.out.under M.below), (HP.out.under M.below)⟩, ?_⟩
    clear hK K5
    have hS0 : (fun (W : World) => BoxN W bx 38 #[.slice a1 n1 c1, .slice a2 n2 c2] ∧ BoxN W bp 44 #[.bool q.1, .slice p q.2.1.length pc, .slice o q.2.2.length oc]) _ := ⟨(HX.out.under M.below), (HP.out.under M.below)⟩
    refine wtk 28 (.int .i64 (sv : Int)) rfl (fun _ _ _ h => h) (Or.inl ⟨by rfl, fun W3 hS => by go_simp⟩) hS0 ?_
    try simp only [Act.put, xA, xB, xC]
    refine wtk 29 (.bool false) rfl (fun _ _ _ h => h) (Or.inl ⟨by rfl, fun W3 hS => by go_simp⟩) hS0 ?_
    try simp only [Act.put, xA, xB, xC]
    refine wtk 30 (.bool false) rfl (fun _ _ _ h => h) (Or.inl ⟨by rfl, fun W3 hS => by go_simp⟩) hS0 ?_
    try simp only [Act.put, xA, xB, xC]
    refine wtk 31 (.bool false) rfl (fun _ _ _ h => h) (Or.inl ⟨by rfl, fun W3 hS => by go_simp⟩) hS0 ?_
    try simp only [Act.put, xA, xB, xC]
    refine wtk 32 (.slice a n c) rfl (fun _ _ _ h => h) (Or.inl ⟨by rfl, fun W3 hS => by go_simp⟩) hS0 ?_
    try simp only [Act.put, xA, xB, xC]
    refine wtk 33 (.int .i64 (n : Int)) rfl (fun _ _ _ h => h) (Or.inl ⟨by rfl, fun W3 hS => by go_simp⟩) hS0 ?_
    try simp only [Act.put, xA, xB, xC]
    refine wtk 34 (.bool true) rfl (fun _ _ _ h => h) (Or.inl ⟨by rfl, fun W3 hS => by go_simp⟩) hS0 ?_
    try simp only [Act.put, xA, xB, xC]
    refine wtk 35 (.bool true) rfl (fun _ _ _ h => h) (Or.inl ⟨by rfl, fun W3 hS => by go_simp⟩) hS0 ?_
    try simp only [Act.put, xA, xB, xC]
    clear hS0
    refine wdn ?_
    have BZ := Lib.hid (then_below HW.out M.below)
    clear M
    go_wp2_with fail
    refine (ka.out _).mono ?_
    rintro e wz ⟨rfl, rr⟩
    have BY := Lib.hid (then_below BZ.out rr)
    clear rr
    go_wp2_with fail
    go_ret
    exact ⟨rfl, BY.out⟩
  have i4 : ((n : Int) == 0) = false := beq_eq_false_iff_ne.2 (by omega)
  have i4' : ((n : Int) != 0) = true := bne_iff_ne.2 (by omega)
  have hn0 : 0 < n := by omega
  clear hn
  as_aux_lemma =>
    have M : Mem wb [] [] wb := Mem.start wb
    refine region_mem (S := (fun (W : World) => BoxN W bx 38 #[.slice a1 n1 c1, .slice a2 n2 c2] ∧ BoxN W bp 44 #[.bool q.1, .slice p q.2.1.length pc, .slice o q.2.2.length oc])) M (by kernel_rfl) ?_
    intro V0 M
    refine one_op 0 rfl (fun K1 hK => ?_)
    go_simp
    refine (ka.out _).mono ?_
    rintro e V1_0 ⟨rfl, rr⟩
    have M' := M.up rr
    clear M rr 
    have M := M'; clear M'
    refine hK _ _ ⟨⟨(HX.out.under M.below), (HP.out.under M.below)⟩, ?_⟩
    clear hK K1
    have hS0 : (fun (W : World) => BoxN W bx 38 #[.slice a1 n1 c1, .slice a2 n2 c2] ∧ BoxN W bp 44 #[.bool q.1, .slice p q.2.1.length pc, .slice o q.2.2.length oc]) _ := ⟨(HX.out.under M.below), (HP.out.under M.below)⟩
    refine wtk 1 (.bool false) rfl (fun _ _ _ h => h) (Or.inl ⟨by rfl, fun W3 hS => by go_simp⟩) hS0 ?_
    try simp only [Act.put, xA, xB, xC]
    refine wtk 2 (.bool false) rfl (fun _ _ _ h => h) (Or.inl ⟨by rfl, fun W3 hS => by go_simp⟩) hS0 ?_
    try simp only [Act.put, xA, xB, xC]
    refine wtk 3 (.slice a n c) rfl (fun _ _ _ h => h) (Or.inl ⟨by rfl, fun W3 hS => by go_simp⟩) hS0 ?_
    try simp only [Act.put, xA, xB, xC]
    clear hS0
    refine one_op 4 rfl (fun K2 hK => ?_)
    go_simp
    refine (kg.out _ (then_below HW.out M.below)).mono ?_
    rintro e V2_4 ⟨rfl, rr⟩
    have M' := M.up rr
    clear M rr 
    have M := M'; clear M'
    refine hK _ _ ⟨⟨(HX.out.under M.below), (HP.out.under M.below)⟩, ?_⟩
    clear hK K2
    have hS0 : (fun (W : World) => BoxN W bx 38 #[.slice a1 n1 c1, .slice a2 n2 c2] ∧ BoxN W bp 44 #[.bool q.1, .slice p q.2.1.length pc, .slice o q.2.2.length oc]) _ := ⟨(HX.out.under M.below), (HP.out.under M.below)⟩
    refine wtk 5 (.bool false) rfl (fun _ _ _ h => h) (Or.inl ⟨by rfl, fun W3 hS => by go_simp⟩) hS0 ?_
    try simp only [Act.put, xA, xB, xC]
    refine wtk 6 (.bool false) rfl (fun _ _ _ h => h) (Or.inl ⟨by rfl, fun W3 hS => by go_simp⟩) hS0 ?_
    try simp only [Act.put, xA, xB, xC]
    refine wtk 7 (.pointer (some ⟨bx, 0, none⟩)) rfl (fun _ _ _ h => h) (Or.inl ⟨by rfl, fun W3 hS => by go_simp⟩) hS0 ?_
    try simp only [Act.put, xA, xB, xC]
    refine wtk 8 (.slice a1 n1 c1) rfl (fun _ _ _ h => h) (Or.inl ⟨by rfl, fun W3 hS => by obtain ⟨hS0, hS1⟩ := hS; have d0_0 := hS0.cell 0 _ rfl; have d0_1 := hS0.cell 1 _ rfl; have d1_0 := hS1.cell 0 _ rfl; have d1_1 := hS1.cell 1 _ rfl; have d1_2 := hS1.cell 2 _ rfl; go_simp⟩) hS0 ?_
    try simp only [Act.put, xA, xB, xC]
    refine wtk 9 (.int .i64 (n1 : Int)) rfl (fun _ _ _ h => h) (Or.inl ⟨by rfl, fun W3 hS => by go_simp⟩) hS0 ?_
    try simp only [Act.put, xA, xB, xC]
    refine wtk 10 (.bool false) rfl (fun _ _ _ h => h) (Or.inl ⟨by rfl, fun W3 hS => by go_simp⟩) hS0 ?_
    try simp only [Act.put, xA, xB, xC]
    refine wtk 11 (.bool false) rfl (fun _ _ _ h => h) (Or.inl ⟨by rfl, fun W3 hS => by go_simp⟩) hS0 ?_
    try simp only [Act.put, xA, xB, xC]
    refine wtk 12 (.bool false) rfl (fun _ _ _ h => h) (Or.inl ⟨by rfl, fun W3 hS => by go_simp⟩) hS0 ?_
    try simp only [Act.put, xA, xB, xC]
    refine wtk 13 (.pointer (some ⟨bx, 1, none⟩)) rfl (fun _ _ _ h => h) (Or.inl ⟨by rfl, fun W3 hS => by go_simp⟩) hS0 ?_
    try simp only [Act.put, xA, xB, xC]
    refine wtk 14 (.slice a2 n2 c2) rfl (fun _ _ _ h => h) (Or.inl ⟨by rfl, fun W3 hS => by obtain ⟨hS0, hS1⟩ := hS; have d0_0 := hS0.cell 0 _ rfl; have d0_1 := hS0.cell 1 _ rfl; have d1_0 := hS1.cell 0 _ rfl; have d1_1 := hS1.cell 1 _ rfl; have d1_2 := hS1.cell 2 _ rfl; go_simp⟩) hS0 ?_
    try simp only [Act.put, xA, xB, xC]
    refine wtk 15 (.int .i64 (n2 : Int)) rfl (fun _ _ _ h => h) (Or.inl ⟨by rfl, fun W3 hS => by go_simp⟩) hS0 ?_
    try simp only [Act.put, xA, xB, xC]
    refine wtk 16 (.bool false) rfl (fun _ _ _ h => h) (Or.inl ⟨by rfl, fun W3 hS => by go_simp⟩) hS0 ?_
    try simp only [Act.put, xA, xB, xC]
    refine wtk 17 (.bool false) rfl (fun _ _ _ h => h) (Or.inl ⟨by rfl, fun W3 hS => by go_simp⟩) hS0 ?_
    try simp only [Act.put, xA, xB, xC]
    refine wtk 18 (.bool false) rfl (fun _ _ _ h => h) (Or.inl ⟨by rfl, fun W3 hS => by go_simp⟩) hS0 ?_
    try simp only [Act.put, xA, xB, xC]
    refine wtk 19 (.pointer (some ⟨bx, 0, none⟩)) rfl (fun _ _ _ h => h) (Or.inl ⟨by rfl, fun W3 hS => by go_simp⟩) hS0 ?_
    try simp only [Act.put, xA, xB, xC]
    refine wtk 20 (.slice a1 n1 c1) rfl (fun _ _ _ h => h) (Or.inl ⟨by rfl, fun W3 hS => by obtain ⟨hS0, hS1⟩ := hS; have d0_0 := hS0.cell 0 _ rfl; have d0_1 := hS0.cell 1 _ rfl; have d1_0 := hS1.cell 0 _ rfl; have d1_1 := hS1.cell 1 _ rfl; have d1_2 := hS1.cell 2 _ rfl; go_simp⟩) hS0 ?_
    try simp only [Act.put, xA, xB, xC]
    refine wtk 22 (.pointer (some ⟨bx, 1, none⟩)) rfl (fun _ _ _ h => h) (Or.inl ⟨by rfl, fun W3 hS => by go_simp⟩) hS0 ?_
    try simp only [Act.put, xA, xB, xC]
    refine wtk 23 (.slice a2 n2 c2) rfl (fun _ _ _ h => h) (Or.inl ⟨by rfl, fun W3 hS => by obtain ⟨hS0, hS1⟩ := hS; have d0_0 := hS0.cell 0 _ rfl; have d0_1 := hS0.cell 1 _ rfl; have d1_0 := hS1.cell 0 _ rfl; have d1_1 := hS1.cell 1 _ rfl; have d1_2 := hS1.cell 2 _ rfl; go_simp⟩) hS0 ?_
    try simp only [Act.put, xA, xB, xC]
    refine wtk 26 (.agg #[.bool q.1, .slice p q.2.1.length pc, .slice o q.2.2.length oc]) rfl (fun _ _ _ h => h) (Or.inl ⟨by rfl, fun W3 hS => by obtain ⟨hS0, hS1⟩ := hS; have d0_0 := hS0.cell 0 _ rfl; have d0_1 := hS0.cell 1 _ rfl; have d1_0 := hS1.cell 0 _ rfl; have d1_1 := hS1.cell 1 _ rfl; have d1_2 := hS1.cell 2 _ rfl; go_simp⟩) hS0 ?_
    try simp only [Act.put, xA, xB, xC]
    clear hS0
    refine one_op 21 rfl (fun K3 hK => ?_)
    go_simp
    refine (ks1.out _ (then_below HW.out M.below)).mono ?_
    rintro e V3_21 ⟨rfl, rr⟩
    have M' := M.up rr
    clear M rr 
    have M := M'; clear M'
    refine hK _ _ ⟨⟨(HX.out.under M.below), (HP.out.under M.below)⟩, ?_⟩
    clear hK K3
    refine one_op 24 rfl (fun K4 hK => ?_)
    go_simp
    refine (ks2.out _ (then_below HW.out M.below)).mono ?_
    rintro e V4_24 ⟨rfl, rr⟩
    have M' := M.up rr
    clear M rr 
    have M := M'; clear M'
    refine hK _ _ ⟨⟨(HX.out.under M.below), (HP.out.under M.below)⟩, ?_⟩
    clear hK K4
    have hS0 : (fun (W : World) => BoxN W bx 38 #[.slice a1 n1 c1, .slice a2 n2 c2] ∧ BoxN W bp 44 #[.bool q.1, .slice p q.2.1.length pc, .slice o q.2.2.length oc]) _ := ⟨(HX.out.under M.below), (HP.out.under M.below)⟩
    refine wtk 25 (.int .i64 (su : Int)) rfl (fun _ _ _ h => h) (Or.inl ⟨by rfl, fun W3 hS => by go_simp⟩) hS0 ?_
    try simp only [Act.put, xA, xB, xC]
    clear hS0
    refine one_op 27 rfl (fun K5 hK => ?_)
    go_simp
    refine (ks3.out _).mono ?_
    rintro e V5_27 ⟨rfl, rr⟩
    have M' := M.up rr
    clear M rr 
    have M := M'; clear M'
    refine hK _ _ ⟨⟨(HX.out.under M.below), (HP.out.under M.below)⟩, ?_⟩
    clear hK K5
    have hS0 : (fun (W : World) => BoxN W bx 38 #[.slice a1 n1 c1, .slice a2 n2 c2] ∧ BoxN W bp 44 #[.bool q.1, .slice p q.2.1.length pc, .slice o q.2.2.length oc]) _ := ⟨(HX.out.under M.below), (HP.out.under M.below)⟩
    refine wtk 28 (.int .i64 (sv : Int)) rfl (fun _ _ _ h => h) (Or.inl ⟨by rfl, fun W3 hS => by go_simp⟩) hS0 ?_
    try simp only [Act.put, xA, xB, xC]
    refine wtk 29 (.bool false) rfl (fun _ _ _ h => h) (Or.inl ⟨by rfl, fun W3 hS => by go_simp⟩) hS0 ?_
    try simp only [Act.put, xA, xB, xC]
    refine wtk 30 (.bool false) rfl (fun _ _ _ h => h) (Or.inl ⟨by rfl, fun W3 hS => by go_simp⟩) hS0 ?_
    try simp only [Act.put, xA, xB, xC]
    refine wtk 31 (.bool false) rfl (fun _ _ _ h => h) (Or.inl ⟨by rfl, fun W3 hS => by go_simp⟩) hS0 ?_
    try simp only [Act.put, xA, xB, xC]
    refine wtk 32 (.slice a n c) rfl (fun _ _ _ h => h) (Or.inl ⟨by rfl, fun W3 hS => by go_simp⟩) hS0 ?_
    try simp only [Act.put, xA, xB, xC]
    refine wtk 33 (.int .i64 (n : Int)) rfl (fun _ _ _ h => h) (Or.inl ⟨by rfl, fun W3 hS => by go_simp⟩) hS0 ?_
    try simp only [Act.put, xA, xB, xC]
    refine wtk 34 (.bool false) rfl (fun _ _ _ h => h) (Or.inl ⟨by rfl, fun W3 hS => by go_simp⟩) hS0 ?_
    try simp only [Act.put, xA, xB, xC]
    refine wtk 35 (.bool false) rfl (fun _ _ _ h => h) (Or.inl ⟨by rfl, fun W3 hS => by go_simp⟩) hS0 ?_
    try simp only [Act.put, xA, xB, xC]
    clear hS0
    refine wdn ?_
    have B1 := Lib.hid M.below
    obtain ⟨wr, hwr⟩ : ∃ W, W = V5_27 := ⟨_, rfl⟩
    rw [← hwr] at B1 ⊢
    clear M hwr
    have HX1 := Lib.hid (HX.out.under B1.out)
    have HP1 := Lib.hid (HP.out.under B1.out)
    have BW := Lib.hid (then_below HW.out B1.out)
    clear HX HP HW B1 kg ks1 ks2 ks3 w01 w02 i3a i3b i4 i4' i1 i1' i2 i2'
    obtain ⟨hs1, hs2, hs3, hG, hl, hxl, hyl⟩ := HS.out
    have hsv := HSV.out
    obtain ⟨hb, hxb, hyb, hqb⟩ := HBG.out
    obtain ⟨h, hx, hy, g1, g2⟩ := HH.out
    obtain ⟨hr8, hg, hc8⟩ := ggreat_no hG.symm
    have hq : grows rows := grows_small (by omega) hb hg
    have hxg : rsize xs ≤ 100 := by unfold rsize; rw [← hxl, ← hs1]; omega
    have hyg : rsize ys ≤ 100 := by unfold rsize; rw [← hyl, ← hs2]; omega
    have hqg : rsz q.2.1.length q.2.2.length ≤ 100 := by rw [← hs3]; omega
    have hql : q.2.1.length + q.2.2.length ≤ 100 := by unfold rsz at hqg; split at hqg <;> omega
    have hqf : Fit q := ⟨hqb.1, by omega, by omega⟩
    have hqw : qok q = true → wt (qval q) ≤ 3000 := fun e => by
      have e2 := hqf.eq e
      have := wt_rl (qval q)
      rw [← rl_qr, ← e2] at this; omega
    have hxq : qrows xs := qrows_small (M := 100) (by omega) hxb hxg
    have hyq : qrows ys := qrows_small (M := 100) (by omega) hyb hyg
    have hX : xs.all qok = true → xs = (xs.map qval).map qr ∧ wts (xs.map qval) ≤ 100 := fun e => row_ok (by omega) hxb hxg e
    have hY : ys.all qok = true → ys = (ys.map qval).map qr ∧ wts (ys.map qval) ≤ 100 := fun e => row_ok (by omega) hyb hyg e
    have hR : gokB rows = true → rows = gq (gval rows) ∧ (∀ r ∈ gval rows, r.length = cols rows) ∧ ∀ r ∈ gval rows, wts r ≤ 300 := fun e => grid_ok (M := 300) (by omega) hb hg e
    obtain ⟨X, hXe⟩ : ∃ X, X = xs.map qval := ⟨_, rfl⟩
    obtain ⟨Y, hYe⟩ : ∃ Y, Y = ys.map qval := ⟨_, rfl⟩
    obtain ⟨R, hRe⟩ : ∃ R, R = gval rows := ⟨_, rfl⟩
    have hRl : R.length = n := by rw [hRe, gval_len, hl]
    rw [← hXe] at hX
    rw [← hYe] at hY
    rw [← hRe] at hR
    have hwR : ∀ (Z : List Rat), wts Z ≤ 100 → gokB rows = true → (∀ r ∈ R, wts r + wts Z ≤ 8900) ∧ wts Z ≤ 8900 := fun Z hZ e => ⟨fun r hr => by have := (hR e).2.2 r hr; omega, by omega⟩
    have kt1 := Lib.hid (fun (W : World) (r : Below w.heap.size w W) => g_times_any (R := R) (X := X) (h.below r) (hx.below r) hq hxq (by omega) (fun e => ⟨(hR e).1, (hR e).2.1⟩) (fun e => (hX e).1) (fun e1 e2 => hwR X (hX e2).2 e1))
    have kt2 := Lib.hid (fun (W : World) (r : Below w.heap.size w W) => g_times_any (R := R) (X := Y) (h.below r) (hy.below r) hq hyq (by omega) (fun e => ⟨(hR e).1, (hR e).2.1⟩) (fun e => (hY e).1) (fun e1 e2 => hwR Y (hY e2).2 e1))
    have kadd := Lib.hid (fun (W : World) (r : Below w.heap.size w W) => v_add_any (X := X) (Y := Y) (hx.below r) (hy.below r) (g1.below r) (g2.below r) hxq hyq hqf hX hY hqw)
    obtain ⟨Q, hQ⟩ : ∃ Q, Q = qval q := ⟨_, rfl⟩
    rw [← hQ] at kadd
    have HRX := Lib.hid (fun (e1 : gokB rows = true) (e2 : xs.all qok = true) (e3 : ys.all qok = true) (e4 : qok q = true) (hxk : n1 = cols rows) (hyk : n2 = cols rows) => show rows = gq R ∧ (∀ r ∈ R, r.length = cols rows) ∧ X.length = n1 ∧ Y.length = n2 ∧ wts (axpy Q X Y) ≤ 4000 ∧ (∀ r ∈ R, wts r ≤ 300) ∧ (∀ y ∈ times R X, wt y ≤ 401) ∧ (∀ y ∈ times R Y, wt y ≤ 401) ∧ wt Q ≤ 200 ∧ (qr Q = q) from by
      have hwq : wt Q ≤ 200 := by
        rw [hQ]
        have e5 := hqf.eq e4
        have := wt_rl (qval q)
        rw [← rl_qr, ← e5] at this; omega
      have hXl : X.length = n1 := by rw [hXe, List.length_map, hxl]
      refine ⟨(hR e1).1, (hR e1).2.1, hXl, by rw [hYe, List.length_map, hyl], ?_, (hR e1).2.2, wt_times (fun r hr => by have := (hR e1).2.2 r hr; have := (hX e2).2; omega), wt_times (fun r hr => by have := (hR e1).2.2 r hr; have := (hY e3).2; omega), hwq, by rw [hQ]; exact (hqf.eq e4).symm⟩
      have h1 := wts_axpy Q X Y
      have h2 := (hX e2).2
      have h3 := (hY e3).2
      have : X.length * wt Q ≤ 10 * 200 := Nat.mul_le_mul (by omega) hwq
      omega)
    have HN := Lib.hid (And.intro hRl hn0)
    clear h hx hy g1 g2 hb hxb hyb hqb hs1 hs2 hs3 hG hl hxl hyl hr8 hg hc8 hq hxg hyg hqg hql hqf hqw hxq hyq hX hY hR hXe hYe hRe hRl hwR hQ hsv
    have x0 := HX1.out.cell 0 _ rfl
    have x1 := HX1.out.cell 1 _ rfl
    go_wp2_with fail
    refine (kt1.out _ BW.out).mono ?_
    rintro e w5 ⟨ua, un, uc, er1, rfl, rr, ho⟩
    have B5 := Lib.hid (then_below BW.out rr)
    have HX2 := Lib.hid (HX1.out.under rr)
    have HP2 := Lib.hid (HP1.out.under rr)
    have O1 := Lib.hid ho
    clear rr ho kt1 HX1 HP1 x0 x1
    have x0 := HX2.out.cell 0 _ rfl
    have x1 := HX2.out.cell 1 _ rfl
    go_wp2_with fail
    refine (kt2.out _ B5.out).mono ?_
    rintro e w6 ⟨va, vn, vc, er2, rfl, rr, ho⟩
    have B6 := Lib.hid (then_below B5.out rr)
    have HX1 := Lib.hid (HX2.out.under rr)
    have HP1 := Lib.hid (HP2.out.under rr)
    have R56 := Lib.hid rr
    have O2 := Lib.hid ho
    clear rr ho kt2 HX2 HP2 x0 x1
    have x0 := HX1.out.cell 0 _ rfl
    have x1 := HX1.out.cell 1 _ rfl
    have p0 := HP1.out.cell 0 _ rfl
    have p1 := HP1.out.cell 1 _ rfl
    have p2 := HP1.out.cell 2 _ rfl
    go_wp2_with fail
    refine (kadd.out _ B6.out).mono ?_
    rintro e w7 ⟨ya, yn, yc, er3, rfl, rr, ho⟩
    have B7 := Lib.hid (then_below B6.out rr)
    have HP2 := Lib.hid (HP1.out.under rr)
    have R67 := Lib.hid rr
    have O3 := Lib.hid ho
    clear rr ho kadd HX1 HP1 x0 x1 p0 p1 p2
    by_cases he1 : er1 = 0
    · by_cases he2 : er2 = 0
      · by_cases he3 : er3 = 0
        · as_aux_lemma =>
          have i6 : (er1 != 0) = false := by rw [he1]; rfl
          have i7 : (er2 != 0) = false := by rw [he2]; rfl
          have i8 : (er3 != 0) = false := by rw [he3]; rfl
          obtain ⟨-, rfl, eg, ex, hnk, hxv⟩ : er1 = 0 ∧ un = n ∧ gokB rows = true ∧ xs.all qok = true ∧ (0 < n → n1 = cols rows) ∧ VReads w5 (.slice ua n uc) ((times R X).map qr) := by
           rcases O1.out with h | h
           · exact h
           · omega
          obtain ⟨-, rfl, -, ey, hnk2, hyv⟩ : er2 = 0 ∧ vn = un ∧ gokB rows = true ∧ ys.all qok = true ∧ (0 < un → n2 = cols rows) ∧ VReads w6 (.slice va un vc) ((times R Y).map qr) := by
           rcases O2.out with h | h
           · exact h
           · omega
          obtain ⟨-, rfl, h12, -, -, eq, hsv⟩ : er3 = 0 ∧ yn = n1 ∧ n1 = n2 ∧ xs.all qok = true ∧ ys.all qok = true ∧ qok q = true ∧ VReads w7 (.slice ya n1 yc) ((axpy Q X Y).map qr) := by
           rcases O3.out with h | h
           · exact h
           · omega
          obtain ⟨r1, r2, r3, r4, r5, r6, r7, r8, r9, r10⟩ := HRX.out eg ex ey eq (hnk HN.out.2) (hnk2 HN.out.2)
          obtain ⟨h, hx, hy, g1, g2⟩ := HH.out
          have hal : (axpy Q X Y).length = yn := by rw [axpy_len (by omega)]; exact r3
          have hn8 : vn ≤ 8 := by have := (ggreat_no HS.out.2.2.2.1.symm).1; have := HS.out.2.2.2.2.1; omega
          have kt3 := Lib.hid (fun (W : World) (r : Below w7.heap.size w7 W) => g_times (R := R) (xs := axpy Q X Y) (r1 ▸ (h.below (then_below B7.out r))) (hsv.below r) (by omega) (by omega) (fun s hs => by rw [r2 s hs, hal]; exact (hnk HN.out.2).symm) (fun s hs => by have := r6 s hs; omega) (by omega))
          have ka2 := Lib.hid (fun (W : World) (r : Below w7.heap.size w7 W) {pp oo : Option Addr} {pq oq : Nat} (g5 : Reads W (.slice pp (qr Q).2.1.length pq) (qr Q).2.1) (g6 : Reads W (.slice oo (qr Q).2.2.length oq) (qr Q).2.2) => v_addm (xs := times R X) (ys := times R Y) (T := Q) (((hxv.below R56.out).below R67.out).below r) ((hyv.below R67.out).below r) g5 g6 (fun x hx => Nat.le_trans (r7 x hx) (by omega)) (fun x hx => Nat.le_trans (r8 x hx) (by omega)) (by omega) (by omega))
          have hE : times R (axpy Q X Y) = axpy Q (times R X) (times R Y) := times_axpy R Q X Y (by omega)
          have hwE : wts (times R (axpy Q X Y)) ≤ 9000 := by
           rw [hE]
           have h1 := wts_axpy Q (times R X) (times R Y)
           have h2 := wts_all (l := times R X) (k := 401) r7
           have h3 := wts_all (l := times R Y) (k := 401) r8
           rw [times_len, HN.out.1] at h1 h2
           rw [times_len, HN.out.1] at h3
           have : vn * 401 ≤ 8 * 401 := Nat.mul_le_mul_right _ hn8
           have : vn * wt Q ≤ 8 * 200 := Nat.mul_le_mul hn8 r9
           omega
          obtain ⟨E, hEe⟩ : ∃ E, E = times R (axpy Q X Y) := ⟨_, rfl⟩
          rw [show (R.map fun r => dot r (axpy Q X Y)) = times R (axpy Q X Y) from rfl, ← hEe] at kt3
          rw [← hE, ← hEe] at ka2
          have hEl : E.length = vn := by rw [hEe, times_len]; exact HN.out.1
          rw [← hEe] at hwE
          have ks := Lib.hid (fun (W : World) {u1 u2 : Option Addr} {d1 d2 : Nat} (f1 : VReads W (.slice u1 vn d1) (E.map qr)) (f2 : VReads W (.slice u2 vn d2) (E.map qr)) => v_same true (by simp) f1 f2 hwE hwE)
          rw [r10] at ka2
          have G12 := Lib.hid (And.intro g1 g2)
          have HEL := Lib.hid hEl
          clear h hx hy g1 g2 r1 r2 r3 r4 r5 r6 r7 r8 r9 r10 hal hE hEe hEl hwE hxv hyv hsv eg ex ey eq hnk hnk2 O1 O2 O3 HRX he1 he2 he3 h12
          go_wp2_with fail
          refine (kt3.out _ (Below.refl _ _)).mono ?_
          rintro e w8 ⟨dv, rfl, hdv, rr⟩
          have hdr := hdv.reads
          obtain ⟨da, dc, edv⟩ := hdr.form
          rw [List.length_map, HEL.out] at edv
          subst edv
          have B8 := Lib.hid rr
          have D8 := Lib.hid hdr
          have HP1 := Lib.hid (HP2.out.under rr)
          clear rr hdv hdr kt3 HP2
          have p0 := HP1.out.cell 0 _ rfl
          have p1 := HP1.out.cell 1 _ rfl
          have p2 := HP1.out.cell 2 _ rfl
          go_wp2_with fail
          refine (ka2.out _ B8.out (G12.out.1.below (then_below B7.out B8.out)) (G12.out.2.below (then_below B7.out B8.out))).mono ?_
          rintro e w9 ⟨ev, rfl, hev, rr⟩
          have her := hev.reads
          obtain ⟨ea, ec, eev⟩ := her.form
          rw [List.length_map, HEL.out] at eev
          subst eev
          have B9 := Lib.hid (then_below B8.out rr)
          have D9 := Lib.hid (D8.out.below rr)
          have E9 := Lib.hid her
          clear rr hev her ka2 p0 p1 p2 D8
          go_wp2_with fail
          refine (ks.out _ D9.out E9.out).mono ?_
          rintro e w11 ⟨rfl, rr⟩
          have BZ := Lib.hid (then_below (then_below B7.out B9.out) rr)
          clear rr
          go_wp2_with fail
          go_ret
          exact ⟨rfl, BZ.out⟩
        · as_aux_lemma =>
          have i6 : (er1 != 0) = false := by rw [he1]; rfl
          have i7 : (er2 != 0) = false := by rw [he2]; rfl
          have i8 : (er3 != 0) = true := bne_iff_ne.2 he3
          go_wp2_with fail
          go_ret
          exact ⟨rfl, B7.out⟩
      · as_aux_lemma =>
        have i6 : (er1 != 0) = false := by rw [he1]; rfl
        have i7 : (er2 != 0) = true := bne_iff_ne.2 he2
        go_wp2_with fail
        go_ret
        exact ⟨rfl, B7.out⟩
    · as_aux_lemma =>
      have i6 : (er1 != 0) = true := bne_iff_ne.2 he1
      go_wp2_with fail
      go_ret
      exact ⟨rfl, B7.out⟩
end Go.Proofs.YtgmbaamfobhceaaGreat
