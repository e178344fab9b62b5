/- A book of tokens: it is told one, and its last call. -/
import Derived.Test.YtjnmajdigjifkaaGreatDoorBqL
import Derived.Test.YtjnmajdigjifkaaGreatDoorBqC
namespace Go.Proofs.YtjnmajdigjifkaaGreatDoor
open Go Go.Proofs Go.RowKit Go.Shelf

attribute [local go_sem] Oper.semAt_some
set_option maxRecDepth 100000
theorem info_heldQ : (Tryz.prog.info? 57).map (fun i => (i.zero, i.size, i.bytes)) = some (some (.agg #[.slice none 0 0, .slice none 0 0, .int .i64 0]), 3, 56) := by kernel_rfl
theorem QRow.other {HT : TypeId} {W : World} {B o : Nat} {v : Value} {es : List (Value × Nat)} (h : QRow HT W (B + 1) v es) (u : Value) : QRow HT (W.setCell ⟨B, o, none⟩ u) (B + 1) v es :=
  q_setCell_other h (fun e => by have := (World.ownsRow.lt h B e).1; omega) u
set_option maxHeartbeats 4000000 in
theorem keepT_any {W : World} {B n : Nat} {f : Nat → Value} {es : List (Value × Nat)} {a : Option Addr} {l c : Nat} (h : QBook W B n f) (hr : QRow 57 W (B + 1) (f 6) es) (hn : n ≤ 100000) (hl : es.length ≤ 100000) :
    Calls Tryz.prog 14 #[.pointer (some ⟨B, 0, none⟩), .slice a l c] W fun e w' => e = .returned (.tuple #[]) ∧ ∃ hv', QBook w' B (n + 1) (upd f 6 hv') ∧ QRow 57 w' (B + 1) hv' (es ++ [(.slice a l c, n + 1)]) ∧ Below B W w' := by
  obtain ⟨i0, hi, hz0, hz1, hz2⟩ := q_info info_heldQ
  obtain ⟨N1, hN1⟩ : ∃ N1, N1 = n + 1 := ⟨_, rfl⟩
  have hnn : ((n : Int) + 1) = (N1 : Int) := by omega
  obtain ⟨hv, hhv⟩ : ∃ v, v = f 6 := ⟨_, rfl⟩
  have HV := Lib.hid hhv
  rw [← hhv] at hr
  rw [← hN1]
  clear hhv
  have hw1 : IntKind.i64.wrap ((n : Int) + 1) = (N1 : Int) := by rw [hN1]; exact i64q (n + 1) (by omega)
  clear hN1
  have r1 := h.c0
  have r2 := h.fr 0
  have hlt := h.lt
  have h1 := Lib.hid (h.setn N1)
  have hr1 := Lib.hid (hr.other (o := 0) (.int .i64 (N1 : Int)))
  have hm1 : es.length + 1 ≤ maxLen := by unfold maxLen; omega
  have hm2 : (es.length + 1) * 56 ≤ 140737488355328 := by omega
  have hb1 := Lib.hid ((Below.refl B W).setCell (p := ⟨B, 0, none⟩) (Nat.le_refl _) (.int .i64 (N1 : Int)))
  clear h hr
  go_enter Tryz.func14, Tryz.ntmps14
  go_wp2
  obtain ⟨W1, hW1⟩ : ∃ W1, W1 = W.setCell ⟨B, 0, none⟩ (.int .i64 (N1 : Int)) := ⟨_, rfl⟩
  rw [← hW1] at h1 hr1 hb1 ⊢
  have s1 := h1.out.c0
  have s2 : W1.cell? ⟨B, 6, none⟩ = some hv := h1.out.cell 6 hv (by rw [HV.out]; rfl)
  have s3 := h1.out.lt
  clear hW1 r1 r2
  go_region_law
    ((first
      | (refine step_append_lies _ (by rfl) _ _ _ (by rfl) (B + 1) 57 i0 _ 3 56 Tryz.underlying32 hi hz0 hz1 hz2 rfl (by omega) _ es.length (qheld es) (by rfl) (World.ownsRow.alloc (World.ownsRow.drew hr1.out) _)
          ⟨W1.heap.size, 0, none⟩ 1 1 [.slice a l c, .slice none 0 0, .int .i64 (N1 : Int)] (by rfl) (by rfl) (World.news_of_block (cs := #[.slice a l c, .slice none 0 0, .int .i64 (N1 : Int)]) (t := 57) (fr := (0, 0)) (heap_alloc_new _ _)) (by simp [Value.oneCell'])
          (by omega) hm1 hm2 (by simp; omega) (W1.heap.size + 1) (by simp) ?_; intro gg cap w6 hown1 hgrow hat hlt6; have hg6 := q_undrew hgrow; have b6 : QBook w6 B N1 f := (h1.out.alloc _).kept hg6 (fun e => by have := (World.ownsRow.lt hr1.out B e.symm).1; omega); have f6 := b6.fr 6; have c6 : w6.cell? ⟨B, 6, none⟩ = some hv := b6.cell 6 hv (by rw [HV.out]; rfl))))
  all_goals
    go_end0
    have q1 := QRow.snoc (.slice a l c) N1 hown1
    exact ⟨rfl, _, b6.set 6 _ rfl, q1.other _, (((hb1.out.alloc (by omega) _).grown hg6 (by simp; omega) (fun k e => by have := (World.ownsRow.lt hr1.out k e).1; omega)).setCell (p := ⟨B, 6, none⟩) (Nat.le_refl _) _)⟩
set_option maxHeartbeats 4000000 in
theorem apartT_at {w W : World} {base B h n N cap : Nat} {f : Nat → Value} {A : Nat → Option Addr} {L C M : Nat → Nat} (D : QLies base B h N A L C M) (hN : N ≤ cap) (hf : f 6 = .slice (some ⟨h, 0, none⟩) N cap) (h0 : ∀ o, o ≠ 6 → f o = .slice none 0 0) (F : QFill W w 51 3 mkT base B h n N f A L C M 0 0 W) (hh : h < W.heap.size) :
    Calls Tryz.prog 8 #[.pointer (some ⟨B, 0, none⟩)] W fun e w' => e = .returned (.bool true) ∧ Below base w w' := by
  have hD := Lib.hid D
  have hF := Lib.hid F
  have b0 := Lib.hid F.1
  have hFo := Lib.hid F.forms
  have HH := Lib.hid hh
  have Hf := Lib.hid hf
  have H0 := Lib.hid h0
  clear D F hh hf h0
  go_enter Tryz.func8, Tryz.ntmps8
  go_wp2_with (go_loud (first
    | (go_at_call 15; refine (qe_fillByte b0.out (H0.out 1 (by decide))).mono ?_; rintro e w' ⟨rfl, rfl⟩)
    | (go_at_call 16; refine (qe_fillInt32 b0.out (H0.out 2 (by decide))).mono ?_; rintro e w' ⟨rfl, rfl⟩)
    | (go_at_call 17; refine (qe_fillNum b0.out (H0.out 3 (by decide))).mono ?_; rintro e w' ⟨rfl, rfl⟩)
    | (go_at_call 18; refine (qe_fillBool b0.out (H0.out 4 (by decide))).mono ?_; rintro e w' ⟨rfl, rfl⟩)
    | (go_at_call 19; refine (qe_fillText b0.out (H0.out 5 (by decide))).mono ?_; rintro e w' ⟨rfl, rfl⟩)
    | (go_at_call 20; refine (fillT_any hD.out hN Hf.out hF.out).mono ?_; rintro e w1 ⟨rfl, q1⟩; have hF1 := Lib.hid q1; have b1 := Lib.hid q1.1; have G1 := Lib.hid (QGrowO.start q1); have H1 := Lib.hid (And.intro q1.2.1.lt q1.2.2.2.1.1); clear q1 hF hFo; have hFo := Lib.hid hF1.out.forms)
    | (go_at_call 21; refine (qe_fillTenant b1.out (H0.out 7 (by decide))).mono ?_; rintro e w' ⟨rfl, rfl⟩)
    | (go_at_call 22; refine (qe_fillRat b1.out (H0.out 8 (by decide))).mono ?_; rintro e w' ⟨rfl, rfl⟩)
    | (go_at_call 23; refine (qe_fillVar b1.out (H0.out 9 (by decide))).mono ?_; rintro e w' ⟨rfl, rfl⟩)
    | (go_at_call 24; refine (qe_fillRow b1.out (H0.out 10 (by decide))).mono ?_; rintro e w' ⟨rfl, rfl⟩)
    | (go_at_call 25; refine (qe_fillNode b1.out (H0.out 11 (by decide))).mono ?_; rintro e w' ⟨rfl, rfl⟩)
    | (go_at_call 26; refine (qe_fillJob b1.out (H0.out 12 (by decide))).mono ?_; rintro e w' ⟨rfl, rfl⟩)
    | (go_at_call 27; refine (qe_growByte b1.out (H0.out 1 (by decide))).mono ?_; rintro e w' ⟨rfl, rfl⟩)
    | (go_at_call 28; refine (qe_growInt32 b1.out (H0.out 2 (by decide))).mono ?_; rintro e w' ⟨rfl, rfl⟩)
    | (go_at_call 29; refine (qe_growNum b1.out (H0.out 3 (by decide))).mono ?_; rintro e w' ⟨rfl, rfl⟩)
    | (go_at_call 30; refine (qe_growBool b1.out (H0.out 4 (by decide))).mono ?_; rintro e w' ⟨rfl, rfl⟩)
    | (go_at_call 31; refine (qe_growText b1.out (H0.out 5 (by decide))).mono ?_; rintro e w' ⟨rfl, rfl⟩)
    | (go_at_call 32; refine (growT_any hD.out hFo.out hN Hf.out H1.out.1 H1.out.2 G1.out).mono ?_; rintro e w2 ⟨rfl, q2⟩; have q3 := QLook.of hD.out q2; clear q2; obtain ⟨G, q3⟩ := q3; have L2 := Lib.hid q3; have b2 := Lib.hid q3.1; clear q3)
    | (go_at_call 33; refine (qe_growTenant b2.out (H0.out 7 (by decide))).mono ?_; rintro e w' ⟨rfl, rfl⟩)
    | (go_at_call 34; refine (qe_growRat b2.out (H0.out 8 (by decide))).mono ?_; rintro e w' ⟨rfl, rfl⟩)
    | (go_at_call 35; refine (qe_growVar b2.out (H0.out 9 (by decide))).mono ?_; rintro e w' ⟨rfl, rfl⟩)
    | (go_at_call 36; refine (qe_growRow b2.out (H0.out 10 (by decide))).mono ?_; rintro e w' ⟨rfl, rfl⟩)
    | (go_at_call 37; refine (qe_growNode b2.out (H0.out 11 (by decide))).mono ?_; rintro e w' ⟨rfl, rfl⟩)
    | (go_at_call 38; refine (qe_growJob b2.out (H0.out 12 (by decide))).mono ?_; rintro e w' ⟨rfl, rfl⟩)
    | (go_at_call 39; refine (qe_lookByte b2.out (H0.out 1 (by decide))).mono ?_; rintro e w' ⟨rfl, rfl⟩)
    | (go_at_call 40; refine (qe_lookInt32 b2.out (H0.out 2 (by decide))).mono ?_; rintro e w' ⟨rfl, rfl⟩)
    | (go_at_call 41; refine (qe_lookNum b2.out (H0.out 3 (by decide))).mono ?_; rintro e w' ⟨rfl, rfl⟩)
    | (go_at_call 42; refine (qe_lookBool b2.out (H0.out 4 (by decide))).mono ?_; rintro e w' ⟨rfl, rfl⟩)
    | (go_at_call 43; refine (qe_lookText b2.out (H0.out 5 (by decide))).mono ?_; rintro e w' ⟨rfl, rfl⟩)
    | (go_at_call 44; refine (lookT_any hD.out hN Hf.out L2.out).mono ?_; rintro e w3 ⟨rfl, q4⟩; have L3 := Lib.hid q4; have b3 := Lib.hid q4.1; clear q4)
    | (go_at_call 45; refine (qe_lookTenant b3.out (H0.out 7 (by decide))).mono ?_; rintro e w' ⟨rfl, rfl⟩)
    | (go_at_call 46; refine (qe_lookRat b3.out (H0.out 8 (by decide))).mono ?_; rintro e w' ⟨rfl, rfl⟩)
    | (go_at_call 47; refine (qe_lookVar b3.out (H0.out 9 (by decide))).mono ?_; rintro e w' ⟨rfl, rfl⟩)
    | (go_at_call 48; refine (qe_lookRow b3.out (H0.out 10 (by decide))).mono ?_; rintro e w' ⟨rfl, rfl⟩)
    | (go_at_call 49; refine (qe_lookNode b3.out (H0.out 11 (by decide))).mono ?_; rintro e w' ⟨rfl, rfl⟩)
    | (go_at_call 50; refine (qe_lookJob b3.out (H0.out 12 (by decide))).mono ?_; rintro e w' ⟨rfl, rfl⟩)))
  go_ret
  exact ⟨rfl, L3.out.2.2.1⟩
/-- what the call answers of a book that was told of lists that lie apart -/
theorem apartT_any {w W : World} {base B n : Nat} {f : Nat → Value} {es : List (Value × Nat)} (hB : QBook W B n f) (hr : QRow 57 W (B + 1) (f 6) es) (h0 : ∀ o, o ≠ 6 → f o = .slice none 0 0) (hne : es ≠ []) (hl : es.length ≤ 100000) (hb : base ≤ B) (hw : Below base w W)
    (hn : ∀ e ∈ es, e.2 ≤ 99) (hown : ∀ e ∈ es, ∃ (m : Nat) (xs : List Value), m ≤ 100000 ∧ W.ownsRow base 51 3 e.1 m xs ∧ ∀ g, e.1.ownBlock = some g → g < B)
    (hdis : es.Pairwise fun x y => x.1.ownBlock = none ∨ x.1.ownBlock ≠ y.1.ownBlock) :
    Calls Tryz.prog 8 #[.pointer (some ⟨B, 0, none⟩)] W fun e w' => e = .returned (.bool true) ∧ Below base w w' := by
  obtain ⟨h, cap, hfe, hBh, hcap, hat⟩ := hr.at hne
  let V : Nat → Value := fun j => (es.getD j (.slice none 0 0, 0)).1
  let M : Nat → Nat := fun j => (es.getD j (.slice none 0 0, 0)).2
  have hget : ∀ j (hj : j < es.length), es.getD j (.slice none 0 0, 0) = es[j] := fun j hj => by rw [List.getD_eq_getElem?_getD, List.getElem?_eq_getElem hj]; rfl
  have key : ∀ j, ∃ x : Option Addr × Nat × Nat, j < es.length → ∃ xs : List Value, V j = .slice x.1 x.2.1 x.2.2 ∧ x.2.1 ≤ 100000 ∧ W.ownsRow base 51 3 (V j) x.2.1 xs ∧ ∀ g, (V j).ownBlock = some g → g < B := by
    intro j
    by_cases hj : j < es.length
    · obtain ⟨m, xs, h1, h2, h3⟩ := hown es[j] (List.getElem_mem hj)
      have e : V j = es[j].1 := by show (es.getD j _).1 = _; rw [hget j hj]
      obtain ⟨a, c, hf, _⟩ := own_rdc h2
      exact ⟨(a, m, c), fun _ => ⟨xs, by rw [e]; exact hf, h1, by rw [e]; exact h2, by rw [e]; exact h3⟩⟩
    · exact ⟨(none, 0, 0), fun h => absurd h hj⟩
  obtain ⟨q, hq⟩ := Classical.axiomOfChoice key
  have hV : ∀ j, j < es.length → V j = .slice (q j).1 (q j).2.1 (q j).2.2 := fun j hj => (hq j hj).elim fun _ h => h.1
  have hsym : ∀ j k, j < es.length → k < es.length → j ≠ k → (V j).ownBlock = none ∨ (V j).ownBlock ≠ (V k).ownBlock := by
    intro j k hj hk hjk
    have e1 : V j = es[j].1 := by show (es.getD j _).1 = _; rw [hget j hj]
    have e2 : V k = es[k].1 := by show (es.getD k _).1 = _; rw [hget k hk]
    rw [e1, e2]
    rcases Nat.lt_or_gt_of_ne hjk with h1 | h1
    · exact List.pairwise_iff_getElem.1 hdis j k hj hk h1
    · have := List.pairwise_iff_getElem.1 hdis k j hk hj h1
      cases h2 : es[j].1.ownBlock with
      | none => exact .inl rfl
      | some g =>
        refine .inr (fun e3 => ?_)
        rcases this with h3 | h3
        · rw [h3] at e3; cases e3
        · rw [h2] at h3; exact h3 e3.symm
  refine apartT_at (A := fun j => (q j).1) (L := fun j => (q j).2.1) (C := fun j => (q j).2.2) (M := M) (h := h) (n := n) (N := es.length) (cap := cap) ⟨hb, hBh, fun j g hj e => ?_, fun j k hj hk hjk => ?_, fun j hj => ?_, fun j hj => ?_, hl⟩ hcap hfe h0 ⟨hB, ⟨hat.1, fun j hj => ?_⟩, hw, Kp.refl, fun j hj => ?_⟩ hat.lt
  · obtain ⟨l, _, _, _, h3⟩ := hq j hj
    exact h3 g (by rw [hV j hj]; exact e)
  · have := hsym j k hj hk hjk
    rwa [hV j hj, hV k hk] at this
  · obtain ⟨l, _, h2, _⟩ := hq j hj; exact h2
  · show (es.getD j _).2 ≤ _
    rw [hget j hj]
    exact hn _ (List.getElem_mem hj)
  · have := hat.2 j hj
    refine ⟨this.1.trans ?_, this.2⟩
    show some (V j) = _
    rw [hV j hj]
  · obtain ⟨l, _, _, h2, _⟩ := hq j hj
    rw [hV j hj] at h2
    exact ⟨l, h2, fun h => absurd h (Nat.not_lt_zero _), fun _ => by simp [rep]⟩
end Go.Proofs.YtjnmajdigjifkaaGreatDoor
