/- A book's lists of parts lie apart: its last call. -/
import Derived.Test.YtmbnojkciikobaaGreatDoorBookH
import Derived.Test.YtmbnojkciikobaaGreatDoorBookC
namespace Go.Proofs.YtmbnojkciikobaaGreatDoor
open Go Go.Proofs Go.RowKit Go.Shelf Nu

attribute [local go_sem] Oper.semAt_some

set_option maxRecDepth 100000 in
set_option maxHeartbeats 2000000 in
theorem apart_at {w W : World} {base B h n N cap : Nat} {A : Nat → Option Addr} {L C M : Nat → Nat} (D : Lies base B h N A L C M) (hN : N ≤ cap) (F : FillK w base B h n N cap A L C M 0 0 W) (hh : h < W.heap.size) :
    Calls Tryz.prog 21 #[.pointer (some ⟨B, 0, none⟩)] W fun e w' => e = .returned (.bool true) ∧ Below base w w' := by
  have hD := Lib.hid D
  have hF := Lib.hid F
  have b0 := Lib.hid F.1
  have hFo := Lib.hid F.forms
  have HH := Lib.hid hh
  clear D F hh
  go_enter Tryz.func21, Tryz.ntmps21
  go_wp2_with (go_loud (first
    | (go_at_call 77; refine (bk_fillByte b0.out).mono ?_; rintro e w' ⟨rfl, rfl⟩)
    | (go_at_call 78; refine (fill_any hD.out hN hF.out).mono ?_; rintro e w1 ⟨rfl, q1⟩; have hF1 := Lib.hid q1; have b1 := Lib.hid q1.1; have G1 := Lib.hid (GrowO.start q1); have H1 := Lib.hid q1.2.1.lt; clear q1 hF hFo; have hFo := Lib.hid hF1.out.forms)
    | (go_at_call 79; refine (bk_fillNum b1.out).mono ?_; rintro e w' ⟨rfl, rfl⟩)
    | (go_at_call 80; refine (bk_fillBool b1.out).mono ?_; rintro e w' ⟨rfl, rfl⟩)
    | (go_at_call 81; refine (bk_fillText b1.out).mono ?_; rintro e w' ⟨rfl, rfl⟩)
    | (go_at_call 82; refine (bk_fillToken b1.out).mono ?_; rintro e w' ⟨rfl, rfl⟩)
    | (go_at_call 83; refine (bk_fillTenant b1.out).mono ?_; rintro e w' ⟨rfl, rfl⟩)
    | (go_at_call 84; refine (bk_fillRat b1.out).mono ?_; rintro e w' ⟨rfl, rfl⟩)
    | (go_at_call 85; refine (bk_fillVar b1.out).mono ?_; rintro e w' ⟨rfl, rfl⟩)
    | (go_at_call 86; refine (bk_fillRow b1.out).mono ?_; rintro e w' ⟨rfl, rfl⟩)
    | (go_at_call 87; refine (bk_fillNode b1.out).mono ?_; rintro e w' ⟨rfl, rfl⟩)
    | (go_at_call 88; refine (bk_fillJob b1.out).mono ?_; rintro e w' ⟨rfl, rfl⟩)
    | (go_at_call 89; refine (bk_growByte b1.out).mono ?_; rintro e w' ⟨rfl, rfl⟩)
    | (go_at_call 90; refine (grow_any hD.out hFo.out hN H1.out G1.out).mono ?_; rintro e w2 ⟨rfl, q2⟩; have q3 := LookO.of hD.out q2; clear q2; obtain ⟨G, q3⟩ := q3; have L2 := Lib.hid q3; have b2 := Lib.hid q3.1; clear q3)
    | (go_at_call 91; refine (bk_growNum b2.out).mono ?_; rintro e w' ⟨rfl, rfl⟩)
    | (go_at_call 92; refine (bk_growBool b2.out).mono ?_; rintro e w' ⟨rfl, rfl⟩)
    | (go_at_call 93; refine (bk_growText b2.out).mono ?_; rintro e w' ⟨rfl, rfl⟩)
    | (go_at_call 94; refine (bk_growToken b2.out).mono ?_; rintro e w' ⟨rfl, rfl⟩)
    | (go_at_call 95; refine (bk_growTenant b2.out).mono ?_; rintro e w' ⟨rfl, rfl⟩)
    | (go_at_call 96; refine (bk_growRat b2.out).mono ?_; rintro e w' ⟨rfl, rfl⟩)
    | (go_at_call 97; refine (bk_growVar b2.out).mono ?_; rintro e w' ⟨rfl, rfl⟩)
    | (go_at_call 98; refine (bk_growRow b2.out).mono ?_; rintro e w' ⟨rfl, rfl⟩)
    | (go_at_call 99; refine (bk_growNode b2.out).mono ?_; rintro e w' ⟨rfl, rfl⟩)
    | (go_at_call 100; refine (bk_growJob b2.out).mono ?_; rintro e w' ⟨rfl, rfl⟩)
    | (go_at_call 101; refine (bk_lookByte b2.out).mono ?_; rintro e w' ⟨rfl, rfl⟩)
    | (go_at_call 102; refine (look_any hD.out hN L2.out).mono ?_; rintro e w3 ⟨rfl, q4⟩; have L3 := Lib.hid q4; have b3 := Lib.hid q4.1; clear q4)
    | (go_at_call 103; refine (bk_lookNum b3.out).mono ?_; rintro e w' ⟨rfl, rfl⟩)
    | (go_at_call 104; refine (bk_lookBool b3.out).mono ?_; rintro e w' ⟨rfl, rfl⟩)
    | (go_at_call 105; refine (bk_lookText b3.out).mono ?_; rintro e w' ⟨rfl, rfl⟩)
    | (go_at_call 106; refine (bk_lookToken b3.out).mono ?_; rintro e w' ⟨rfl, rfl⟩)
    | (go_at_call 107; refine (bk_lookTenant b3.out).mono ?_; rintro e w' ⟨rfl, rfl⟩)
    | (go_at_call 108; refine (bk_lookRat b3.out).mono ?_; rintro e w' ⟨rfl, rfl⟩)
    | (go_at_call 109; refine (bk_lookVar b3.out).mono ?_; rintro e w' ⟨rfl, rfl⟩)
    | (go_at_call 110; refine (bk_lookRow b3.out).mono ?_; rintro e w' ⟨rfl, rfl⟩)
    | (go_at_call 111; refine (bk_lookNode b3.out).mono ?_; rintro e w' ⟨rfl, rfl⟩)
    | (go_at_call 112; refine (bk_lookJob b3.out).mono ?_; rintro e w' ⟨rfl, rfl⟩)))
  go_ret
  exact ⟨rfl, L3.out.2.2.1⟩

/-- what the call answers of a book that was told of lists that lie apart -/
theorem apart_any {w W : World} {base B n : Nat} {hv : Value} {es : List (Value × Nat)} (hB : BookAt W B n hv) (hr : HRow W (B + 1) hv es) (hne : es ≠ []) (hl : es.length ≤ 100000) (hb : base ≤ B) (hw : Below base w W)
    (hn : ∀ e ∈ es, e.2 ≤ 1000000) (hown : ∀ e ∈ es, ∃ l : List Nat, l.length ≤ 100000 ∧ Fresh W base e.1 l ∧ ∀ g, e.1.ownBlock = some g → g < B)
    (hdis : es.Pairwise fun x y => x.1.ownBlock = none ∨ x.1.ownBlock ≠ y.1.ownBlock) :
    Calls Tryz.prog 21 #[.pointer (some ⟨B, 0, none⟩)] W fun e w' => e = .returned (.bool true) ∧ Below base w w' := by
  obtain ⟨h, cap, rfl, hBh, hcap, hat⟩ := hr.at hne
  let V : Nat → Value := fun j => (es.getD j (.slice none 0 0, 0)).1
  let M : Nat → Nat := fun j => (es.getD j (.slice none 0 0, 0)).2
  have hget : ∀ j (hj : j < es.length), es.getD j (.slice none 0 0, 0) = es[j] := fun j hj => by rw [List.getD_eq_getElem?_getD, List.getElem?_eq_getElem hj]; rfl
  have key : ∀ j, ∃ x : Option Addr × Nat × Nat, j < es.length → ∃ l : List Nat, V j = .slice x.1 x.2.1 x.2.2 ∧ l.length = x.2.1 ∧ x.2.1 ≤ 100000 ∧ Fresh W base (V j) l ∧ ∀ g, (V j).ownBlock = some g → g < B := by
    intro j
    by_cases hj : j < es.length
    · obtain ⟨l, h1, h2, h3⟩ := hown es[j] (List.getElem_mem hj)
      have e : V j = es[j].1 := by show (es.getD j _).1 = _; rw [hget j hj]
      obtain ⟨a, c, hf⟩ := h2.reads.form
      exact ⟨(a, l.length, c), fun _ => ⟨l, by rw [e]; exact hf, rfl, h1, by rw [e]; exact h2, by rw [e]; exact h3⟩⟩
    · exact ⟨(none, 0, 0), fun h => absurd h hj⟩
  obtain ⟨f, hf⟩ := Classical.axiomOfChoice key
  have hV : ∀ j, j < es.length → V j = .slice (f j).1 (f j).2.1 (f j).2.2 := fun j hj => (hf j hj).elim fun _ h => h.1
  have hsym : ∀ j k, j < es.length → k < es.length → j ≠ k → (V j).ownBlock = none ∨ (V j).ownBlock ≠ (V k).ownBlock := by
    intro j k hj hk hjk
    have e1 : V j = es[j].1 := by show (es.getD j _).1 = _; rw [hget j hj]
    have e2 : V k = es[k].1 := by show (es.getD k _).1 = _; rw [hget k hk]
    rw [e1, e2]
    rcases Nat.lt_or_gt_of_ne hjk with h1 | h1
    · exact List.pairwise_iff_getElem.1 hdis j k hj hk h1
    · have := List.pairwise_iff_getElem.1 hdis k j hk hj h1
      cases h2 : es[j].1.ownBlock with
      | none => exact .inl rfl
      | some g =>
        refine .inr (fun e3 => ?_)
        rcases this with h3 | h3
        · rw [h3] at e3; cases e3
        · rw [h2] at h3; exact h3 e3.symm
  refine apart_at (A := fun j => (f j).1) (L := fun j => (f j).2.1) (C := fun j => (f j).2.2) (M := M) (h := h) (n := n) (N := es.length) (cap := cap) ⟨hb, hBh, fun j g hj e => ?_, fun j k hj hk hjk => ?_, fun j hj => ?_, fun j hj => ?_, hl⟩ hcap ⟨hB, ⟨hat.1, fun j hj => ?_⟩, hw, fun j hj => ?_⟩ hat.lt
  · obtain ⟨l, _, _, _, _, h3⟩ := hf j hj
    exact h3 g (by rw [hV j hj]; exact e)
  · have := hsym j k hj hk hjk
    rwa [hV j hj, hV k hk] at this
  · obtain ⟨l, _, _, h2, _⟩ := hf j hj; exact h2
  · show (es.getD j _).2 ≤ _
    rw [hget j hj]
    exact hn _ (List.getElem_mem hj)
  · have := hat.2 j hj
    refine ⟨this.1.trans ?_, this.2⟩
    show some (V j) = _
    rw [hV j hj]
  · obtain ⟨l, _, h1, _, h2, _⟩ := hf j hj
    rw [hV j hj] at h2
    exact ⟨l, h1, h2, fun h => absurd h (Nat.not_lt_zero _), fun _ => rfl⟩

end Go.Proofs.YtmbnojkciikobaaGreatDoor
