/- A book of numbers' lists and rows of fractions, as laws use it. A book of numbers' lists and rows of fractions: told whole numbers, fractions, .. -/
import Derived.Test.YtdjfooflhpkcbaaGreatDoorGBkRI
set_option maxHeartbeats 2000000
set_option linter.unusedSimpArgs false
set_option linter.unusedVariables false
namespace Go.Proofs.YtdjfooflhpkcbaaGreatDoor
open Go Go.Proofs Go.RowKit Go.Shelf
attribute [local go_sem] Oper.semAt_some
set_option maxRecDepth 100000
def bti (u v : Value) : Nat → Value := upd (upd none12 2 u) 8 v
structure BT (W : World) (B n : Nat) (u v : Value) (eb et : List (Value × Nat)) : Prop where
 book : QBook W B n (bti u v)
 rb : QRow 125 W (B + 1) u eb
 rt : QRow 119 W (B + 1) v et
 ne : ∀ g, u.ownBlock = some g → v.ownBlock = some g → False
theorem BT.new (W : World) : BT (W.alloc (.cells (qcells 0 none12) 50)) W.heap.size 0 (.slice none 0 0) (.slice none 0 0) [] [] :=
 ⟨QBook.new W, World.ownsRow_nil _ _ _ 3, World.ownsRow_nil _ _ _ 3, fun g e => by cases e⟩
section
variable {W W' : World} {B n : Nat} {u v u' v' : Value} {eb et : List (Value × Nat)} {R : Nat → Prop}
theorem BT.kp (h : BT W B n u v eb et) (hk : Kp W W' R) (hB : ¬ R B) (hu : ∀ g, u.ownBlock = some g → ¬ R g) (hv : ∀ g, v.ownBlock = some g → ¬ R g) : BT W' B n u v eb et :=
 ⟨(hk.2 B h.book.lt hB).trans h.book, kp_row hk h.rb hu, kp_row hk h.rt hv, h.ne⟩
theorem BT.lt (h : BT W B n u v eb et) : B < W.heap.size := h.book.lt
theorem BT.bu (h : BT W B n u v eb et) (g : Nat) (e : u.ownBlock = some g) : B < g ∧ g < W.heap.size := World.ownsRow.lt h.rb g e
theorem BT.bv (h : BT W B n u v eb et) (g : Nat) (e : v.ownBlock = some g) : B < g ∧ g < W.heap.size := World.ownsRow.lt h.rt g e
theorem BT.grown {row : Option Nat} (h : BT W B n u v eb et) (hg : W.grownBy W' row) (hr : ∀ g, row = some g → g < B) : BT W' B n u v eb et := by
 have hk : Kp W W' (fun b => row = some b) := Kp.refl.grown hg (fun g e => .inl e)
 refine h.kp hk (fun e => by have := hr B e; omega) (fun g e e2 => ?_) (fun g e e2 => ?_)
 · have := hr g e2; have := (h.bu g e).1; omega
 · have := hr g e2; have := (h.bv g e).1; omega
theorem BT.below {N : Nat} (h : BT W B n u v eb et) (hb : Below N W W') (hN : W.heap.size ≤ N) : BT W' B n u v eb et :=
 h.kp (R := fun _ => False) ⟨hb.size, fun b hl _ => hb.block b (Nat.lt_of_lt_of_le hl hN)⟩ (fun e => e) (fun _ _ e => e) (fun _ _ e => e)
end
theorem bt8 (u v x : Value) : upd (bti u v) 8 x = bti u x := by
 funext j; unfold bti upd; by_cases h : j = 8 <;> simp [h]
theorem bt2 (u v x : Value) : upd (bti u v) 2 x = bti x v := by
 funext j; unfold bti upd; by_cases h : j = 8
 · simp [h]
 · by_cases h4 : j = 2 <;> simp [h, h4]
theorem bt_row {W : World} {B n : Nat} {u v : Value} {eb et : List (Value × Nat)} {a : Option Addr} {l c : Nat} (h : BT W B n u v eb et) (hn : n ≤ 100000) (hl : et.length ≤ 100000) :
  Calls Tryz.prog 57 #[.pointer (some ⟨B, 0, none⟩), .slice a l c] W fun e w' => e = .returned (.tuple #[]) ∧ ∃ v', BT w' B (n + 1) u v' eb (et ++ [(.slice a l c, n + 1)]) ∧ Below B W w' ∧ Kp W w' (fun b => b = B ∨ v.ownBlock = some b) ∧ ∀ g, v'.ownBlock = some g → v.ownBlock = some g ∨ W.heap.size ≤ g := by
 have k0 := keepRa_any (a := a) (l := l) (c := c) h.book (f := bti u v) (es := et) h.rt hn hl
 have k : Calls Tryz.prog 57 #[.pointer (some ⟨B, 0, none⟩), .slice a l c] W fun e w' => e = .returned (.tuple #[]) ∧ ∃ v', BT w' B (n + 1) u v' eb (et ++ [(.slice a l c, n + 1)]) ∧ Below B W w' ∧ Kp W w' (fun b => b = B ∨ v.ownBlock = some b) ∧ ∀ g, v'.ownBlock = some g → v.ownBlock = some g ∨ W.heap.size ≤ g := by
  refine k0.mono ?_
  rintro e w' ⟨he, x, h1, h2, h3, h4, h5⟩
  rw [bt8] at h1
  have h4' : Kp W w' (fun b => b = B ∨ v.ownBlock = some b) := h4
  have h5' : ∀ g, x.ownBlock = some g → v.ownBlock = some g ∨ W.heap.size ≤ g := h5
  refine ⟨he, x, ⟨h1, kp_row h4' h.rb (fun g e => ?_), h2, fun g e e2 => ?_⟩, h3, h4', h5'⟩
  · rintro (e2 | e2)
    · have := (h.bu g e).1; omega
    · exact h.ne g e e2
  · rcases h5' g e2 with e3 | e3
    · exact h.ne g e e3
    · have := (h.bu g e).2; omega
 exact k
theorem bt_nat {W : World} {B n : Nat} {u v : Value} {eb et : List (Value × Nat)} {a : Option Addr} {l c : Nat} (h : BT W B n u v eb et) (hn : n ≤ 100000) (hl : eb.length ≤ 100000) :
  Calls Tryz.prog 59 #[.pointer (some ⟨B, 0, none⟩), .slice a l c] W fun e w' => e = .returned (.tuple #[]) ∧ ∃ u', BT w' B (n + 1) u' v (eb ++ [(.slice a l c, n + 1)]) et ∧ Below B W w' ∧ Kp W w' (fun b => b = B ∨ u.ownBlock = some b) ∧ ∀ g, u'.ownBlock = some g → u.ownBlock = some g ∨ W.heap.size ≤ g := by
 have k0 := keepIn_any (a := a) (l := l) (c := c) h.book (f := bti u v) (es := eb) h.rb hn hl
 have k : Calls Tryz.prog 139 #[.pointer (some ⟨B, 0, none⟩), .slice a l c] W fun e w' => e = .returned (.tuple #[]) ∧ ∃ u', BT w' B (n + 1) u' v (eb ++ [(.slice a l c, n + 1)]) et ∧ Below B W w' ∧ Kp W w' (fun b => b = B ∨ u.ownBlock = some b) ∧ ∀ g, u'.ownBlock = some g → u.ownBlock = some g ∨ W.heap.size ≤ g := by
  refine k0.mono ?_
  rintro e w' ⟨he, x, h1, h2, h3, h4, h5⟩
  rw [bt2] at h1
  have h4' : Kp W w' (fun b => b = B ∨ u.ownBlock = some b) := h4
  have h5' : ∀ g, x.ownBlock = some g → u.ownBlock = some g ∨ W.heap.size ≤ g := h5
  refine ⟨he, x, ⟨h1, h2, kp_row h4' h.rt (fun g e => ?_), fun g e e2 => ?_⟩, h3, h4', h5'⟩
  · rintro (e2 | e2)
    · have := (h.bv g e).1; omega
    · exact h.ne g e2 e
  · rcases h5' g e with e3 | e3
    · exact h.ne g e3 e2
    · have := (h.bv g e2).2; omega
 clear h k0
 go_enter Tryz.func59, Tryz.ntmps59
 go_wp2_with (go_at_call 139; refine k.mono ?_; clear k; rintro e w' ⟨rfl, q⟩)
 go_end0
 exact ⟨rfl, q⟩
theorem q_pick {W : World} {base T sz B h : Nat} {es : List (Value × Nat)} (hb : base ≤ B) (hBh : B < h) (hl : es.length ≤ 100000) (hn : ∀ e ∈ es, e.2 ≤ 100000)
   (hown : ∀ e ∈ es, ∃ (m : Nat) (xs : List Value), m ≤ 2000000 ∧ W.ownsRow base T sz e.1 m xs ∧ ∀ g, e.1.ownBlock = some g → g ≠ B ∧ g ≠ h) (hdis : es.Pairwise fun x y => x.1.ownBlock = none ∨ x.1.ownBlock ≠ y.1.ownBlock) :
   ∃ (A : Nat → Option Addr) (L C : Nat → Nat), QLies W base B h es.length A L C (fun j => (es.getD j (.slice none 0 0, 0)).2) ∧ (∀ j, j < es.length → (es.getD j (.slice none 0 0, 0)).1 = .slice (A j) (L j) (C j)) ∧ ∀ j, j < es.length → ∃ xs, W.ownsRow base T sz (.slice (A j) (L j) (C j)) (L j) xs := by
 let V : Nat → Value := fun j => (es.getD j (.slice none 0 0, 0)).1
 have hget : ∀ j (hj : j < es.length), es.getD j (.slice none 0 0, 0) = es[j] := fun j hj => by rw [List.getD_eq_getElem?_getD, List.getElem?_eq_getElem hj]; rfl
 have key : ∀ j, ∃ x : Option Addr × Nat × Nat, j < es.length → ∃ xs : List Value, V j = .slice x.1 x.2.1 x.2.2 ∧ x.2.1 ≤ 2000000 ∧ W.ownsRow base T sz (V j) x.2.1 xs ∧ ∀ g, (V j).ownBlock = some g → g ≠ B ∧ g ≠ h := by
   intro j
   by_cases hj : j < es.length
   · obtain ⟨m, xs, h1, h2, h3⟩ := hown es[j] (List.getElem_mem hj)
     have e : V j = es[j].1 := by show (es.getD j _).1 = _; rw [hget j hj]
     obtain ⟨a, c, hf, _⟩ := own_rdc h2
     exact ⟨(a, m, c), fun _ => ⟨xs, by rw [e]; exact hf, h1, by rw [e]; exact h2, by rw [e]; exact h3⟩⟩
   · exact ⟨(none, 0, 0), fun h => absurd h hj⟩
 obtain ⟨q, hq⟩ := Classical.axiomOfChoice key
 have hV : ∀ j, j < es.length → V j = .slice (q j).1 (q j).2.1 (q j).2.2 := fun j hj => (hq j hj).elim fun _ h => h.1
 have hsym : ∀ j k, j < es.length → k < es.length → j ≠ k → (V j).ownBlock = none ∨ (V j).ownBlock ≠ (V k).ownBlock := by
   intro j k hj hk hjk
   have e1 : V j = es[j].1 := by show (es.getD j _).1 = _; rw [hget j hj]
   have e2 : V k = es[k].1 := by show (es.getD k _).1 = _; rw [hget k hk]
   rw [e1, e2]
   rcases Nat.lt_or_gt_of_ne hjk with h1 | h1
   · exact List.pairwise_iff_getElem.1 hdis j k hj hk h1
   · have := List.pairwise_iff_getElem.1 hdis k j hk hj h1
     cases h2 : es[j].1.ownBlock with
     | none => exact .inl rfl
     | some g =>
      refine .inr (fun e3 => ?_)
      rcases this with h3 | h3
      · rw [h3] at e3; cases e3
      · rw [h2] at h3; exact h3 e3.symm
 refine ⟨fun j => (q j).1, fun j => (q j).2.1, fun j => (q j).2.2, ⟨hb, hBh, fun j g hj e => ?_, fun j k hj hk hjk => ?_, fun j hj => ?_, fun j hj => ?_, hl⟩, hV, fun j hj => ?_⟩
 · obtain ⟨l, _, _, h2, h3⟩ := hq j hj
   have e' : (V j).ownBlock = some g := by rw [hV j hj]; exact e
   exact ⟨(h3 g e').1, (h3 g e').2, (World.ownsRow.lt h2 g e').2⟩
 · have := hsym j k hj hk hjk
   rwa [hV j hj, hV k hk] at this
 · obtain ⟨l, _, h2, _⟩ := hq j hj; exact h2
 · show (es.getD j _).2 ≤ _
   rw [hget j hj]
   exact hn _ (List.getElem_mem hj)
 · obtain ⟨l, _, _, h2, _⟩ := hq j hj
   rw [hV j hj] at h2
   exact ⟨l, h2⟩
theorem q_start {W w : World} {base T sz B h n : Nat} {mk : Nat → List Value} {f : Nat → Value} {es : List (Value × Nat)} {A : Nat → Option Addr} {L C : Nat → Nat} (hB : QBook W B n f) (hw : Below base w W)
   (hat : QAt W h es.length (fun j => (es.getD j (.slice none 0 0, 0)).1) (fun _ => .slice none 0 0) (fun j => (es.getD j (.slice none 0 0, 0)).2)) (hV : ∀ j, j < es.length → (es.getD j (.slice none 0 0, 0)).1 = .slice (A j) (L j) (C j)) (hr : ∀ j, j < es.length → ∃ xs, W.ownsRow base T sz (.slice (A j) (L j) (C j)) (L j) xs) :
   QFill W w T sz mk base B h n es.length f A L C (fun j => (es.getD j (.slice none 0 0, 0)).2) 0 0 W := by
 refine ⟨hB, ⟨hat.1, fun j hj => ?_⟩, hw, Kp.refl, fun j hj => ?_⟩
 · have := hat.2 j hj
   exact ⟨this.1.trans (congrArg some (hV j hj)), this.2⟩
 · obtain ⟨l, h2⟩ := hr j hj
   exact ⟨l, h2, fun h => absurd h (Nat.not_lt_zero _), fun _ => by simp [rep]⟩
theorem wlies {W : World} {base B h N : Nat} {A : Nat → Option Addr} {L C M : Nat → Nat} (D : QLies W base B h N A L C M) : WLies W base B h N A L C M := ⟨D.base, D.up, D.blk, D.dis, D.len, D.num, D.few⟩
theorem q_startW {W w : World} {base sz B h n S : Nat} {T HT : TypeId} {f : Nat → Value} {es : List (Value × Nat)} {A : Nat → Option Addr} {L C : Nat → Nat} (ht : HTag HT h W) (hB : QBook W B n f) (hw : Below base w W)
   (hat : QAt W h es.length (fun j => (es.getD j (.slice none 0 0, 0)).1) (fun _ => .slice none 0 0) (fun j => (es.getD j (.slice none 0 0, 0)).2)) (hV : ∀ j, j < es.length → (es.getD j (.slice none 0 0, 0)).1 = .slice (A j) (L j) (C j)) (hr : ∀ j, j < es.length → ∃ xs, W.ownsRow base T sz (.slice (A j) (L j) (C j)) (L j) xs) :
   WFill W w T HT sz (PRat S) base B h n es.length f A L C (fun j => (es.getD j (.slice none 0 0, 0)).2) 0 0 W := by
 refine ⟨hB, ⟨hat.1, fun j hj => ?_⟩, hw, Kp.refl, ht, fun j hj => ?_⟩
 · have := hat.2 j hj
   exact ⟨this.1.trans (congrArg some (hV j hj)), this.2⟩
 · obtain ⟨l, h2⟩ := hr j hj
   exact ⟨l, h2, fun h => absurd h (Nat.not_lt_zero _), fun _ => by rw [Nat.zero_mul, List.take_zero]; exact (marksRat S).nil⟩
theorem htag {HT : TypeId} {W : World} {base : Nat} {v : Value} {es : List (Value × Nat)} (H : QRow HT W base v es) {h : Nat} (e : v.ownBlock = some h) : HTag HT h W := by
 rcases H.2 with ⟨e0, _⟩ | ⟨g, cap, cur, rfl, _, hg, _⟩
 · rw [e0] at e; cases e
 · have : g = h := by simpa [Value.ownBlock] using e
   subst this
   exact ⟨cur, hg⟩
theorem bt_apart_kp {w W : World} {base B n : Nat} {u v : Value} {eb et : List (Value × Nat)} (h : BT W B n u v eb et) (heb : eb ≠ []) (het : et ≠ []) (hlb : eb.length ≤ 100000) (hlt : et.length ≤ 100000) (hb : base ≤ B) (hw : Below base w W)
   (hnb : ∀ e ∈ eb, e.2 ≤ 100000) (hnt : ∀ e ∈ et, e.2 ≤ 100000)
   (hob : ∀ e ∈ eb, ∃ (m : Nat) (xs : List Value), m ≤ 2000000 ∧ W.ownsRow base 71 1 e.1 m xs ∧ ∀ g, e.1.ownBlock = some g → g ≠ B ∧ u.ownBlock ≠ some g ∧ v.ownBlock ≠ some g)
   (hot : ∀ e ∈ et, ∃ (m : Nat) (xs : List Value), m ≤ 2000000 ∧ W.ownsRow base 30 3 e.1 m xs ∧ ∀ g, e.1.ownBlock = some g → g ≠ B ∧ u.ownBlock ≠ some g ∧ v.ownBlock ≠ some g)
   (hdb : eb.Pairwise fun x y => x.1.ownBlock = none ∨ x.1.ownBlock ≠ y.1.ownBlock) (hdt : et.Pairwise fun x y => x.1.ownBlock = none ∨ x.1.ownBlock ≠ y.1.ownBlock)
   (hdx : ∀ x ∈ eb, ∀ y ∈ et, ∀ g, x.1.ownBlock = some g → y.1.ownBlock = some g → False) :
   Calls Tryz.prog 19 #[.pointer (some ⟨B, 0, none⟩)] W fun e w' => e = .returned (.bool true) ∧ Below base w w' ∧ Kp W w' (fun g => u.ownBlock = some g ∨ v.ownBlock = some g ∨ (∃ e ∈ eb, e.1.ownBlock = some g) ∨ ∃ e ∈ et, e.1.ownBlock = some g) := by
 obtain ⟨hb1, capb, eu, hBb, hcb, hab⟩ := h.rb.at heb
 obtain ⟨ht1, capt, ev, hBt, hct, hat⟩ := h.rt.at het
 have eu1 : u.ownBlock = some hb1 := by rw [eu]; rfl
 have ev1 : v.ownBlock = some ht1 := by rw [ev]; rfl
 obtain ⟨Ab, Lb, Cb, Db, Vb, Rb⟩ := q_pick hb (show B < hb1 from hBb) hlb hnb (fun e he => by
   obtain ⟨m, xs, h1, h2, h3⟩ := hob e he
   exact ⟨m, xs, h1, h2, fun g eg => ⟨(h3 g eg).1, fun e => (h3 g eg).2.1 (by rw [eu1, e])⟩⟩) hdb
 obtain ⟨At, Lt, Ct, Dt, Vt, Rt⟩ := q_pick hb (show B < ht1 from hBt) hlt hnt (fun e he => by
   obtain ⟨m, xs, h1, h2, h3⟩ := hot e he
   exact ⟨m, xs, h1, h2, fun g eg => ⟨(h3 g eg).1, fun e => (h3 g eg).2.2 (by rw [ev1, e])⟩⟩) hdt
 have X : QTwo hb1 eb.length Ab Lb Cb ht1 et.length At Lt Ct := by
   refine ⟨fun e => ?_, fun i hi e => ?_, fun j hj e => ?_, fun i j g hi hj e1 e2 => ?_⟩
   · exact h.ne hb1 (by rw [eu]; rfl) (by rw [ev, e]; rfl)
   · have g1 : eb.getD i (.slice none 0 0, 0) = eb[i] := by rw [List.getD_eq_getElem?_getD, List.getElem?_eq_getElem hi]; rfl
     obtain ⟨m, xs, _, _, h3⟩ := hob _ (List.getElem_mem hi)
     have v1 := Vb i hi
     rw [g1] at v1
     exact (h3 ht1 (by rw [v1]; exact e)).2.2 ev1
   · have g2 : et.getD j (.slice none 0 0, 0) = et[j] := by rw [List.getD_eq_getElem?_getD, List.getElem?_eq_getElem hj]; rfl
     obtain ⟨m, xs, _, _, h3⟩ := hot _ (List.getElem_mem hj)
     have v2 := Vt j hj
     rw [g2] at v2
     exact (h3 hb1 (by rw [v2]; exact e)).2.1 eu1
   · have g1 : eb.getD i (.slice none 0 0, 0) = eb[i] := by rw [List.getD_eq_getElem?_getD, List.getElem?_eq_getElem hi]; rfl
     have g2 : et.getD j (.slice none 0 0, 0) = et[j] := by rw [List.getD_eq_getElem?_getD, List.getElem?_eq_getElem hj]; rfl
     have v1 := Vb i hi
     have v2 := Vt j hj
     rw [g1] at v1
     rw [g2] at v2
     exact hdx _ (List.getElem_mem hi) _ (List.getElem_mem hj) g (by rw [v1]; exact e1) (by rw [v2]; exact e2)
 refine (apartIR_kp Db (wlies Dt) X hcb hct (show bti u v 2 = _ from eu) (show bti u v 8 = _ from ev) (fun o h4 h5 => by simp [bti, upd, none12, h4, h5]) (q_start h.book hw hab Vb Rb) (q_startW (htag h.rt ev1) h.book hw hat Vt Rt)).mono ?_
 rintro e w' ⟨rfl, h1, h2⟩
 refine ⟨rfl, h1, kp_mono h2 (fun g hg => ?_)⟩
 rcases hg with (e | ⟨j, hj, e⟩) | (e | ⟨j, hj, e⟩)
 · exact .inl (by rw [eu1, e])
 · refine .inr (.inr (.inl ⟨_, List.getElem_mem hj, ?_⟩))
   have g1 : eb.getD j (.slice none 0 0, 0) = eb[j] := by rw [List.getD_eq_getElem?_getD, List.getElem?_eq_getElem hj]; rfl
   have v1 := Vb j hj
   rw [g1] at v1
   rw [v1]; exact e
 · exact .inr (.inl (by rw [ev1, e]))
 · refine .inr (.inr (.inr ⟨_, List.getElem_mem hj, ?_⟩))
   have g1 : et.getD j (.slice none 0 0, 0) = et[j] := by rw [List.getD_eq_getElem?_getD, List.getElem?_eq_getElem hj]; rfl
   have v1 := Vt j hj
   rw [g1] at v1
   rw [v1]; exact e
structure Pgs (B : Nat) (W : World) (u v : Value) (W' : World) (u' v' : Value) : Prop where
 bel : Below B W W'
 kp : Kp W W' (fun b => b = B ∨ u.ownBlock = some b ∨ v.ownBlock = some b)
 nu : ∀ g, u'.ownBlock = some g → u.ownBlock = some g ∨ W.heap.size ≤ g
 nv : ∀ g, v'.ownBlock = some g → v.ownBlock = some g ∨ W.heap.size ≤ g
theorem below_tr {B : Nat} {W V U : World} (h : Below B W V) (k : Below B V U) : Below B W U :=
 ⟨k.os.trans h.os, k.tape.trans h.tape, k.output.trans h.output, Nat.le_trans h.size k.size, fun b hb => (k.block b hb).trans (h.block b hb)⟩
section
variable {B : Nat} {W V U : World} {u v u' v' u2 v2 : Value}
theorem Pgs.refl : Pgs B W u v W u v := ⟨Below.refl _ _, Kp.refl, fun _ e => .inl e, fun _ e => .inl e⟩
theorem Pgs.alloc (hB : B ≤ W.heap.size) (o : Obj) : Pgs B W u v (W.alloc o) u v := ⟨(Below.refl _ _).alloc hB o, Kp.refl.alloc o, fun _ e => .inl e, fun _ e => .inl e⟩
theorem Pgs.trans (h : Pgs B W u v V u' v') (k : Pgs B V u' v' U u2 v2) : Pgs B W u v U u2 v2 := by
 have hs := h.kp.1
 refine ⟨below_tr h.bel k.bel, ⟨Nat.le_trans hs k.kp.1, fun b hb hn => (k.kp.2 b (by omega) (fun e => ?_)).trans (h.kp.2 b hb hn)⟩, fun g e => ?_, fun g e => ?_⟩
 · rcases e with e | e | e
   · exact hn (.inl e)
   · rcases h.nu b e with e | e
     · exact hn (.inr (.inl e))
     · omega
   · rcases h.nv b e with e | e
     · exact hn (.inr (.inr e))
     · omega
 · rcases k.nu g e with e | e
   · exact h.nu g e
   · exact .inr (by omega)
 · rcases k.nv g e with e | e
   · exact h.nv g e
   · exact .inr (by omega)
end
section
variable {W : World} {B n : Nat} {u v : Value} {eb et : List (Value × Nat)}
theorem BT.up (h : BT W B n u v eb et) (o : Obj) : BT (W.alloc o) B n u v eb et := h.below ((Below.refl _ _).alloc (Nat.le_refl _) o) (Nat.le_refl _)
theorem bt_natp {a : Option Addr} {l c : Nat} (h : BT W B n u v eb et) (hn : n ≤ 100000) (hl : eb.length ≤ 100000) :
  Calls Tryz.prog 59 #[.pointer (some ⟨B, 0, none⟩), .slice a l c] W fun e w' => e = .returned (.tuple #[]) ∧ ∃ u', BT w' B (n + 1) u' v (eb ++ [(.slice a l c, n + 1)]) et ∧ Pgs B W u v w' u' v := by
 refine (bt_nat h hn hl).mono ?_
 rintro e w' ⟨rfl, u', h1, h2, h3, h4⟩
 exact ⟨rfl, u', h1, h2, kp_mono h3 (fun g e => by rcases e with e | e; exact .inl e; exact .inr (.inl e)), h4, fun g e => .inl e⟩
theorem bt_rowp {a : Option Addr} {l c : Nat} (h : BT W B n u v eb et) (hn : n ≤ 100000) (hl : et.length ≤ 100000) :
  Calls Tryz.prog 57 #[.pointer (some ⟨B, 0, none⟩), .slice a l c] W fun e w' => e = .returned (.tuple #[]) ∧ ∃ v', BT w' B (n + 1) u v' eb (et ++ [(.slice a l c, n + 1)]) ∧ Pgs B W u v w' u v' := by
 refine (bt_row h hn hl).mono ?_
 rintro e w' ⟨rfl, u', h1, h2, h3, h4⟩
 exact ⟨rfl, u', h1, h2, kp_mono h3 (fun g e => by rcases e with e | e; exact .inl e; exact .inr (.inr e)), fun g e => .inl e, h4⟩
theorem bt_int {s : Bool} {a : Option Addr} {l c : Nat} (h : BT W B n u v eb et) (hn : n ≤ 100000) (hl : eb.length ≤ 100000) :
  Calls Tryz.prog 58 #[.pointer (some ⟨B, 0, none⟩), .agg #[.bool s, .slice a l c]] W fun e w' => e = .returned (.tuple #[]) ∧ ∃ u', BT w' B (n + 1) u' v (eb ++ [(.slice a l c, n + 1)]) et ∧ Pgs B W u v w' u' v := by
 have hlt := h.lt
 have k := Lib.hid (bt_natp (a := a) (l := l) (c := c) (h.up (.cells #[.bool s, .slice a l c] 28)) hn hl)
 have P0 := Lib.hid (Pgs.alloc (u := u) (v := v) (Nat.le_of_lt hlt) (.cells #[.bool s, .slice a l c] 28))
 clear h hn hl
 go_enter Tryz.func58, Tryz.ntmps58
 go_wp2_with (go_at_call 59; refine k.out.mono ?_; rintro e w' ⟨rfl, u', q1, q2⟩)
 go_end0
 exact ⟨rfl, u', q1, P0.out.trans q2⟩
theorem bt_rat {s : Bool} {a a2 : Option Addr} {l c l2 c2 : Nat} (h : BT W B n u v eb et) (hn : n + 1 ≤ 100000) (hl : eb.length + 1 ≤ 100000) :
  Calls Tryz.prog 18 #[.pointer (some ⟨B, 0, none⟩), .agg #[.bool s, .slice a l c, .slice a2 l2 c2]] W fun e w' => e = .returned (.tuple #[]) ∧ ∃ u', BT w' B (n + 2) u' v (eb ++ [(.slice a l c, n + 1), (.slice a2 l2 c2, n + 2)]) et ∧ Pgs B W u v w' u' v := by
 have hlt := h.lt
 have k := Lib.hid (bt_int (s := s) (a := a) (l := l) (c := c) (h.up (.cells #[.bool s, .slice a l c, .slice a2 l2 c2] 30)) (by omega) (by omega))
 have P0 := Lib.hid (Pgs.alloc (u := u) (v := v) (Nat.le_of_lt hlt) (.cells #[.bool s, .slice a l c, .slice a2 l2 c2] 30))
 have KS := Lib.hid (show ∀ w1 u1, Pgs B (W.alloc (.cells #[.bool s, .slice a l c, .slice a2 l2 c2] 30)) u v w1 u1 v → w1.cell? ⟨W.heap.size, 2, none⟩ = some (.slice a2 l2 c2) from fun w1 u1 p => by
  rw [kp_cells p.kp (by simp) (fun e => by
   rcases e with e | e | e
   · omega
   · have := (h.bu _ e).2; omega
   · have := (h.bv _ e).2; omega) 2]
  rw [World.cell?_alloc_new]; rfl)
 have k2 := Lib.hid (show ∀ w1 u1, BT w1 B (n + 1) u1 v (eb ++ [(.slice a l c, n + 1)]) et → Calls Tryz.prog 59 #[.pointer (some ⟨B, 0, none⟩), .slice a2 l2 c2] w1 fun e w' => e = .returned (.tuple #[]) ∧ ∃ u', BT w' B (n + 2) u' v (eb ++ [(.slice a l c, n + 1), (.slice a2 l2 c2, n + 2)]) et ∧ Pgs B w1 u1 v w' u' v from fun w1 u1 q => by
  have := bt_natp (a := a2) (l := l2) (c := c2) q hn (by simpa using hl)
  rw [List.append_assoc] at this
  exact this)
 clear h hn hl
 go_enter Tryz.func18, Tryz.ntmps18
 go_wp2_with (first
  | (go_at_call 58; refine k.out.mono ?_; rintro e w1 ⟨rfl, u1, q1, q2⟩; have z2 := KS.out _ _ q2; have Q1 := Lib.hid q1; have Q2 := Lib.hid q2; clear q1 q2)
  | (go_at_call 59; refine (k2.out _ _ Q1.out).mono ?_; rintro e w2 ⟨rfl, u2, q3, q4⟩))
 go_end0
 exact ⟨rfl, u2, q3, (P0.out.trans Q2.out).trans q4⟩
def tolds (x y : Nat → Value) (n : Nat) : Nat → List (Value × Nat)
 | 0 => []
 | k + 1 => tolds x y n k ++ [(x k, n + 2 * k + 1), (y k, n + 2 * k + 2)]
theorem tolds_len (x y : Nat → Value) (n : Nat) : ∀ k, (tolds x y n k).length = 2 * k
 | 0 => rfl
 | k + 1 => by rw [tolds, List.length_append, tolds_len x y n k]; simp; omega
def RowR (W : World) (a : Option Addr) (l c : Nat) (s : Nat → Bool) (xa ya : Nat → Option Addr) (xl xc yl yc : Nat → Nat) (bad : Nat → Prop) : Prop :=
 0 < l → ∃ b off, a = some ⟨b, off, none⟩ ∧ l ≤ c ∧ b < W.heap.size ∧ ¬ bad b ∧ ∀ k, k < l → W.cell? ⟨b, off + k * 3, none⟩ = some (.bool (s k)) ∧ W.cell? ⟨b, off + k * 3 + 1, none⟩ = some (.slice (xa k) (xl k) (xc k)) ∧ W.cell? ⟨b, off + k * 3 + 2, none⟩ = some (.slice (ya k) (yl k) (yc k))
theorem bt_rats {a : Option Addr} {l c : Nat} {s : Nat → Bool} {xa ya : Nat → Option Addr} {xl xc yl yc : Nat → Nat} (h : BT W B n u v eb et) (hn : n + 2 * l ≤ 100000) (hl : eb.length + 2 * l ≤ 100000) (hl2 : et.length ≤ 100000)
  (hr : RowR W a l c s xa ya xl xc yl yc (fun b => b = B ∨ u.ownBlock = some b ∨ v.ownBlock = some b)) :
  Calls Tryz.prog 17 #[.pointer (some ⟨B, 0, none⟩), .slice a l c] W fun e w' => e = .returned (.tuple #[]) ∧ ∃ u' v', BT w' B (n + 2 * l + 1) u' v' (eb ++ tolds (fun k => .slice (xa k) (xl k) (xc k)) (fun k => .slice (ya k) (yl k) (yc k)) n l) (et ++ [(.slice a l c, n + 2 * l + 1)]) ∧ Pgs B W u v w' u' v' := by
 obtain ⟨X, hX⟩ : ∃ X : Nat → Value, X = fun k => .slice (xa k) (xl k) (xc k) := ⟨_, rfl⟩
 obtain ⟨Y, hY⟩ : ∃ Y : Nat → Value, Y = fun k => .slice (ya k) (yl k) (yc k) := ⟨_, rfl⟩
 rw [← hX, ← hY]
 have HX := Lib.hid hX
 have HY := Lib.hid hY
 have H := Lib.hid h
 have HR := Lib.hid hr
 have HL2 := Lib.hid hl2
 clear h hr hX hY hl2
 go_enter Tryz.func17, Tryz.ntmps17
 go_wp2
 go_loopg [4] l (fun g q wr => ∃ (k : Nat) (u' : Value), k + g = l ∧ q = .int .i64 (k : Int) ∧ Hid (BT wr B (n + 2 * k) u' v (eb ++ tolds X Y n k) et) ∧ Hid (Pgs B W u v wr u' v))
 case atStart => exact ⟨0, u, by omega, rfl, Lib.hid (by have := H.out; simpa [tolds] using this), Lib.hid Pgs.refl⟩
 case round =>
  obtain ⟨k, u1, hk, rfl, HB, HP⟩ := hrel
  by_cases hlt : k < l
  · obtain ⟨b, off, ea, hlc, hbs, hnb, hc⟩ := HR.out (by omega)
    have EA := Lib.hid ea
    obtain ⟨r0, r1, r2⟩ := hc k hlt
    rw [← kp_cells HP.out.kp hbs hnb] at r0 r1 r2
    have hbs' := Nat.lt_of_lt_of_le hbs HP.out.kp.1
    have KB := Lib.hid (show Calls Tryz.prog 18 #[.pointer (some ⟨B, 0, none⟩), .agg #[.bool (s k), .slice (xa k) (xl k) (xc k), .slice (ya k) (yl k) (yc k)]] wr fun e w' => e = .returned (.tuple #[]) ∧ ∃ u', BT w' B (n + 2 * (k + 1)) u' v (eb ++ tolds X Y n (k + 1)) et ∧ Pgs B wr u1 v w' u' v from by
     have := bt_rat (s := s k) (a := xa k) (l := xl k) (c := xc k) (a2 := ya k) (l2 := yl k) (c2 := yc k) HB.out (by omega) (by rw [List.length_append, tolds_len]; omega)
     rw [List.append_assoc] at this
     rw [HX.out, HY.out] at this ⊢
     exact this)
    obtain ⟨s1, hs1⟩ : ∃ s1, s1 = s k := ⟨_, rfl⟩
    obtain ⟨xa1, hs2⟩ : ∃ s1, s1 = xa k := ⟨_, rfl⟩
    obtain ⟨xl1, hs3⟩ : ∃ s1, s1 = xl k := ⟨_, rfl⟩
    obtain ⟨xc1, hs4⟩ : ∃ s1, s1 = xc k := ⟨_, rfl⟩
    obtain ⟨ya1, hs5⟩ : ∃ s1, s1 = ya k := ⟨_, rfl⟩
    obtain ⟨yl1, hs6⟩ : ∃ s1, s1 = yl k := ⟨_, rfl⟩
    obtain ⟨yc1, hs7⟩ : ∃ s1, s1 = yc k := ⟨_, rfl⟩
    rw [← hs1, ← hs2, ← hs3, ← hs4, ← hs5, ← hs6, ← hs7] at KB
    rw [← hs1] at r0
    rw [← hs2, ← hs3, ← hs4] at r1
    rw [← hs5, ← hs6, ← hs7] at r2
    clear hs1 hs2 hs3 hs4 hs5 hs6 hs7 hc hnb H HB HX HY
    subst ea
    go_wp2_with (go_at_call 18; refine KB.out.mono ?_; rintro e w2 ⟨rfl, u2, q1, q2⟩; have Q1 := Lib.hid q1; have Q2 := Lib.hid q2; clear q1 q2)
    go_roundg (l - (k + 1))
    case measure => omega
    case rel => exact ⟨k + 1, u2, by omega, by simp, Q1, Lib.hid (HP.out.trans Q2.out)⟩
  · obtain rfl : k = l := by omega
    have KB := Lib.hid (bt_rowp (a := a) (l := k) (c := c) HB.out (by omega) HL2.out)
    clear H HB HR
    go_wp2_with (go_at_call 57; refine KB.out.mono ?_; rintro e w2 ⟨rfl, v2, q1, q2⟩)
    go_end0
    exact ⟨rfl, u1, v2, q1, HP.out.trans q2⟩
end
end Go.Proofs.YtdjfooflhpkcbaaGreatDoor
namespace Go.Proofs.YtdjfooflhpkcbaaGreatDoor
open Go Go.Proofs Go.RowKit Go.Shelf
attribute [local go_sem] Oper.semAt_some
set_option maxRecDepth 100000
set_option linter.unusedVariables false
abbrev Sp : Type := Option Addr × Nat × Nat
abbrev Fp : Type := Bool × Sp × Sp
def spv (s : Sp) : Value := .slice s.1 s.2.1 s.2.2
def fpc (p : Fp) : List Value := [.bool p.1, spv p.2.1, spv p.2.2]
def fp0 : Fp := (false, (none, 0, 0), (none, 0, 0))
def fps (ps : List Fp) : List Value := ps.flatMap fun p => [spv p.2.1, spv p.2.2]
def Part (W : World) (base top : Nat) (s : Sp) : Prop := (∃ (l : Nat) (xs : List Value), l ≤ 2000000 ∧ W.ownsRow base 71 1 (spv s) l xs) ∧ ∀ g, (spv s).ownBlock = some g → base ≤ g ∧ g < top
def ApartL (l : List Value) : Prop := l.Pairwise fun x y => x.ownBlock = none ∨ x.ownBlock ≠ y.ownBlock
structure FR (W : World) (base top : Nat) (a : Option Addr) (n c : Nat) (ps : List Fp) : Prop where
 len : ps.length = n
 row : W.ownsRow base 30 3 (.slice a n c) n (ps.flatMap fpc)
 own : ∀ g, (Value.slice a n c).ownBlock = some g → g < top
 part : ∀ p ∈ ps, Part W base top p.2.1 ∧ Part W base top p.2.2
 far : ∀ x ∈ fps ps, ∀ g, x.ownBlock = some g → (Value.slice a n c).ownBlock ≠ some g
 dup : ApartL (fps ps)
theorem row_below {W W' : World} {base top sz m : Nat} {T : TypeId} {v : Value} {xs : List Value} (h : W.ownsRow base T sz v m xs) (ho : ∀ g, v.ownBlock = some g → g < top) (b : Below top W W') : W'.ownsRow base T sz v m xs := by
 refine ⟨h.1, ?_⟩
 rcases h.2 with h' | ⟨g, cap, cur, e1, hb, hg, hr⟩
 · exact .inl h'
 · exact .inr ⟨g, cap, cur, e1, hb, (b.block g (ho g (by rw [e1]; rfl))).trans hg, hr⟩
theorem fps_in {ps : List Fp} {x : Value} (h : x ∈ fps ps) : ∃ p ∈ ps, x = spv p.2.1 ∨ x = spv p.2.2 := by
 obtain ⟨p, hp, hx⟩ := List.mem_flatMap.1 h
 simp only [List.mem_cons, List.not_mem_nil, or_false] at hx
 exact ⟨p, hp, hx⟩
section
variable {W W' : World} {base top : Nat} {a : Option Addr} {n c : Nat} {ps : List Fp}
theorem Part.below {s : Sp} (h : Part W base top s) (b : Below top W W') : Part W' base top s := by
 obtain ⟨⟨l, xs, hl, h1⟩, h2⟩ := h
 exact ⟨⟨l, xs, hl, row_below h1 (fun g e => (h2 g e).2) b⟩, h2⟩
theorem Part.wide {s : Sp} {b' t' : Nat} (h : Part W base top s) (hb : b' ≤ base) (ht : top ≤ t') : Part W b' t' s := by
 obtain ⟨⟨l, xs, hl, h1, h3⟩, h2⟩ := h
 refine ⟨⟨l, xs, hl, h1, ?_⟩, fun g e => by have := h2 g e; omega⟩
 rcases h3 with h' | ⟨g, cap, cur, e1, h2, h3⟩
 · exact .inl h'
 · exact .inr ⟨g, cap, cur, e1, Nat.le_trans hb h2, h3⟩
theorem FR.below (h : FR W base top a n c ps) (b : Below top W W') : FR W' base top a n c ps :=
 ⟨h.len, row_below h.row h.own b, h.own, fun p hp => ⟨(h.part p hp).1.below b, (h.part p hp).2.below b⟩, h.far, h.dup⟩
theorem fpc_at (ps : List Fp) (k : Nat) (hk : k < ps.length) : (ps.flatMap fpc)[k * 3]? = some (.bool (ps.getD k fp0).1) ∧ (ps.flatMap fpc)[k * 3 + 1]? = some (spv (ps.getD k fp0).2.1) ∧ (ps.flatMap fpc)[k * 3 + 2]? = some (spv (ps.getD k fp0).2.2) := by
 have key : ∀ (l : List Fp) (j : Nat) (b : Fp), l[j]? = some b → ∀ i, i < 3 → (l.flatMap fpc)[j * 3 + i]? = (fpc b)[i]? := by
  intro l
  induction l with
  | nil => intro j b h; simp at h
  | cons y t ih =>
   intro j b h i hi
   rw [List.flatMap_cons]
   cases j with
   | zero =>
    simp at h; subst h
    rw [Nat.zero_mul, Nat.zero_add, List.getElem?_append_left (by exact hi)]
   | succ j =>
    rw [List.getElem?_append_right (by show 3 ≤ _; omega)]
    have e : (j + 1) * 3 + i - (fpc y).length = j * 3 + i := by show (j + 1) * 3 + i - 3 = _; omega
    rw [e]
    exact ih j b (by simpa using h) i hi
 have hb : ps[k]? = some (ps.getD k fp0) := by rw [List.getD_eq_getElem?_getD, List.getElem?_eq_getElem hk]; rfl
 exact ⟨key ps k _ hb 0 (by omega), key ps k _ hb 1 (by omega), key ps k _ hb 2 (by omega)⟩
theorem FR.rowR (h : FR W base top a n c ps) {bad : Nat → Prop} (hb : ∀ g, g < top → ¬ bad g) :
  RowR W a n c (fun k => (ps.getD k fp0).1) (fun k => (ps.getD k fp0).2.1.1) (fun k => (ps.getD k fp0).2.2.1) (fun k => (ps.getD k fp0).2.1.2.1) (fun k => (ps.getD k fp0).2.1.2.2) (fun k => (ps.getD k fp0).2.2.2.1) (fun k => (ps.getD k fp0).2.2.2.2) bad := by
 intro h0
 obtain ⟨a', c', e, hc, hr⟩ := own_rdc h.row
 simp only [Value.slice.injEq] at e
 obtain ⟨rfl, _, rfl⟩ := e
 obtain ⟨b, off, rfl, hl, hcell⟩ := hr h0
 refine ⟨b, off, rfl, hc, hl, hb b (h.own b rfl), fun k hk => ?_⟩
 obtain ⟨z0, z1, z2⟩ := fpc_at ps k (by rw [h.len]; exact hk)
 exact ⟨hcell _ _ z0, by rw [Nat.add_assoc]; exact hcell _ _ z1, by rw [Nat.add_assoc]; exact hcell _ _ z2⟩
def fx (ps : List Fp) : Nat → Value := fun k => spv (ps.getD k fp0).2.1
def fy (ps : List Fp) : Nat → Value := fun k => spv (ps.getD k fp0).2.2
theorem told_fst (ps : List Fp) (m : Nat) : ∀ k, k ≤ ps.length → (tolds (fx ps) (fy ps) m k).map Prod.fst = fps (ps.take k)
 | 0, _ => rfl
 | k + 1, h => by
  have hb : ps[k]? = some (ps.getD k fp0) := by rw [List.getD_eq_getElem?_getD, List.getElem?_eq_getElem (by omega)]; rfl
  rw [tolds, List.map_append, told_fst ps m k (by omega), List.take_add_one, hb]
  unfold fps
  rw [List.flatMap_append]
  rfl
theorem FR.told_eq (h : FR W base top a n c ps) (m : Nat) : (tolds (fx ps) (fy ps) m n).map Prod.fst = fps ps := by
 rw [told_fst ps m n (by rw [h.len]; exact Nat.le_refl _), ← h.len, List.take_length]
theorem FR.pw (h : FR W base top a n c ps) (m : Nat) : (tolds (fx ps) (fy ps) m n).Pairwise fun e f => e.1.ownBlock = none ∨ e.1.ownBlock ≠ f.1.ownBlock := by
 have := h.dup
 rw [← h.told_eq m] at this
 exact List.pairwise_map.1 this
theorem told_num {x y : Nat → Value} {n : Nat} : ∀ {k : Nat} {e : Value × Nat}, e ∈ tolds x y n k → e.2 ≤ n + 2 * k
 | 0, e, h => by cases h
 | k + 1, e, h => by
  rcases List.mem_append.1 h with h | h
  · have := told_num h; omega
  · rcases List.mem_cons.1 h with rfl | h
    · simp; omega
    · obtain rfl := List.mem_singleton.1 h
      simp; omega
theorem FR.lies (h : FR W base top a n c ps) {m : Nat} {e : Value × Nat} (he : e ∈ tolds (fx ps) (fy ps) m n) : (∃ (l : Nat) (xs : List Value), l ≤ 2000000 ∧ W.ownsRow base 71 1 e.1 l xs) ∧ ∀ g, e.1.ownBlock = some g → base ≤ g ∧ g < top ∧ (Value.slice a n c).ownBlock ≠ some g := by
 have hx : e.1 ∈ fps ps := by rw [← h.told_eq m]; exact List.mem_map_of_mem he
 have hf := h.far e.1 hx
 obtain ⟨p, hp, e1⟩ := fps_in hx
 rcases e1 with e1 | e1
 · have k := (h.part p hp).1
   exact ⟨by rw [e1]; exact k.1, fun g eg => ⟨(k.2 g (by rw [← e1]; exact eg)).1, (k.2 g (by rw [← e1]; exact eg)).2, hf g eg⟩⟩
 · have k := (h.part p hp).2
   exact ⟨by rw [e1]; exact k.1, fun g eg => ⟨(k.2 g (by rw [← e1]; exact eg)).1, (k.2 g (by rw [← e1]; exact eg)).2, hf g eg⟩⟩
end
def ApartE (l : List (Value × Nat)) : Prop := l.Pairwise fun x y => x.1.ownBlock = none ∨ x.1.ownBlock ≠ y.1.ownBlock
structure Seg (W : World) (base top : Nat) (eb et : List (Value × Nat)) : Prop where
 le : base ≤ top
 ob : ∀ e ∈ eb, (∃ (l : Nat) (xs : List Value), l ≤ 2000000 ∧ W.ownsRow base 71 1 e.1 l xs) ∧ ∀ g, e.1.ownBlock = some g → base ≤ g ∧ g < top
 ot : ∀ e ∈ et, (∃ (l : Nat) (xs : List Value), l ≤ 2000000 ∧ W.ownsRow base 30 3 e.1 l xs) ∧ ∀ g, e.1.ownBlock = some g → base ≤ g ∧ g < top
 db : ApartE eb
 dt : ApartE et
 dx : ∀ x ∈ eb, ∀ y ∈ et, ∀ g, x.1.ownBlock = some g → y.1.ownBlock = some g → False
 nb : ∀ e ∈ eb, e.2 ≤ 100000
 nt : ∀ e ∈ et, e.2 ≤ 100000
theorem row_low {W : World} {b b' : Nat} {T : TypeId} {sz m : Nat} {v : Value} {xs : List Value} (h : W.ownsRow b T sz v m xs) (hb : b' ≤ b) : W.ownsRow b' T sz v m xs := by
 refine ⟨h.1, ?_⟩
 rcases h.2 with h' | ⟨g, cap, cur, e1, h2, h3⟩
 · exact .inl h'
 · exact .inr ⟨g, cap, cur, e1, Nat.le_trans hb h2, h3⟩
theorem apartE_append {l m : List (Value × Nat)} {t : Nat} (hl : ApartE l) (hm : ApartE m) (h1 : ∀ e ∈ l, ∀ g, e.1.ownBlock = some g → g < t) (h2 : ∀ e ∈ m, ∀ g, e.1.ownBlock = some g → t ≤ g) : ApartE (l ++ m) := by
 unfold ApartE
 rw [List.pairwise_append]
 refine ⟨hl, hm, fun x hx y hy => ?_⟩
 cases e : x.1.ownBlock with
 | none => exact .inl rfl
 | some g =>
  refine .inr fun e2 => ?_
  have := h1 x hx g e
  have := h2 y hy g e2.symm
  omega
section
variable {W W' : World} {base mid top : Nat} {eb et eb2 et2 : List (Value × Nat)}
theorem Seg.nil (h : base ≤ top) : Seg W base top [] [] := ⟨h, by simp, by simp, List.Pairwise.nil, List.Pairwise.nil, by simp, by simp, by simp⟩
theorem Seg.below (h : Seg W base top eb et) (b : Below top W W') : Seg W' base top eb et :=
 ⟨h.le, fun e he => ⟨by obtain ⟨l, xs, h1, h2⟩ := (h.ob e he).1; exact ⟨l, xs, h1, row_below h2 (fun g eg => ((h.ob e he).2 g eg).2) b⟩, (h.ob e he).2⟩,
  fun e he => ⟨by obtain ⟨l, xs, h1, h2⟩ := (h.ot e he).1; exact ⟨l, xs, h1, row_below h2 (fun g eg => ((h.ot e he).2 g eg).2) b⟩, (h.ot e he).2⟩, h.db, h.dt, h.dx, h.nb, h.nt⟩
theorem Seg.app (h : Seg W base mid eb et) (k : Seg W mid top eb2 et2) : Seg W base top (eb ++ eb2) (et ++ et2) := by
 have h1 := h.le
 have h2 := k.le
 refine ⟨by omega, fun e he => ?_, fun e he => ?_, apartE_append h.db k.db (fun e he g eg => ((h.ob e he).2 g eg).2) (fun e he g eg => ((k.ob e he).2 g eg).1), apartE_append h.dt k.dt (fun e he g eg => ((h.ot e he).2 g eg).2) (fun e he g eg => ((k.ot e he).2 g eg).1), fun x hx y hy g e1 e2 => ?_, fun e he => ?_, fun e he => ?_⟩
 · rcases List.mem_append.1 he with he | he
   · exact ⟨(h.ob e he).1, fun g eg => by have := (h.ob e he).2 g eg; omega⟩
   · obtain ⟨⟨l, xs, k1, k2⟩, k3⟩ := k.ob e he
     exact ⟨⟨l, xs, k1, row_low k2 h1⟩, fun g eg => by have := k3 g eg; omega⟩
 · rcases List.mem_append.1 he with he | he
   · exact ⟨(h.ot e he).1, fun g eg => by have := (h.ot e he).2 g eg; omega⟩
   · obtain ⟨⟨l, xs, k1, k2⟩, k3⟩ := k.ot e he
     exact ⟨⟨l, xs, k1, row_low k2 h1⟩, fun g eg => by have := k3 g eg; omega⟩
 · rcases List.mem_append.1 hx with hx | hx <;> rcases List.mem_append.1 hy with hy | hy
   · exact h.dx x hx y hy g e1 e2
   · have := (h.ob x hx).2 g e1; have := (k.ot y hy).2 g e2; omega
   · have := (k.ob x hx).2 g e1; have := (h.ot y hy).2 g e2; omega
   · exact k.dx x hx y hy g e1 e2
 · rcases List.mem_append.1 he with he | he
   · exact h.nb e he
   · exact k.nb e he
 · rcases List.mem_append.1 he with he | he
   · exact h.nt e he
   · exact k.nt e he
end
theorem FR.seg {W : World} {base top : Nat} {a : Option Addr} {n c : Nat} {ps : List Fp} (h : FR W base top a n c ps) (hle : base ≤ top) {m k : Nat} (hm : m + 2 * n ≤ 100000) (hk : k ≤ 100000) : Seg W base top (tolds (fx ps) (fy ps) m n) [(.slice a n c, k)] := by
 refine ⟨hle, fun e he => ⟨(h.lies he).1, fun g eg => by have := (h.lies he).2 g eg; exact ⟨this.1, this.2.1⟩⟩, fun e he => ?_, h.pw m, List.pairwise_singleton _ _, fun x hx y hy g e1 e2 => ?_, fun e he => by have := told_num he; omega, fun e he => ?_⟩
 · obtain rfl := List.mem_singleton.1 he
   exact ⟨⟨n, _, by omega, h.row⟩, fun g eg => ⟨(World.ownsRow.lt h.row g eg).1, h.own g eg⟩⟩
 · obtain rfl := List.mem_singleton.1 hy
   exact ((h.lies hx).2 g e1).2.2 e2
 · obtain rfl := List.mem_singleton.1 he
   exact hk
theorem seg_rat {W : World} {base top i j : Nat} {p : Fp} (hle : base ≤ top) (h1 : Part W base top p.2.1) (h2 : Part W base top p.2.2) (h3 : (spv p.2.1).ownBlock = none ∨ (spv p.2.1).ownBlock ≠ (spv p.2.2).ownBlock) (hi : i ≤ 100000) (hj : j ≤ 100000) : Seg W base top [(spv p.2.1, i), (spv p.2.2, j)] [] := by
 refine ⟨hle, fun e he => ?_, by simp, ?_, List.Pairwise.nil, by simp, fun e he => ?_, by simp⟩
 · simp only [List.mem_cons, List.not_mem_nil, or_false] at he
   rcases he with rfl | rfl
   · exact h1
   · exact h2
 · exact List.pairwise_cons.2 ⟨fun y hy => by obtain rfl := List.mem_singleton.1 hy; exact h3, List.pairwise_singleton _ _⟩
 · simp only [List.mem_cons, List.not_mem_nil, or_false] at he
   rcases he with rfl | rfl
   · exact hi
   · exact hj
theorem Seg.apart {w W : World} {base top B n : Nat} {u v : Value} {eb et : List (Value × Nat)} (S : Seg W base top eb et) (h : BT W B n u v eb et) (htB : top ≤ B) (heb : eb ≠ []) (het : et ≠ []) (hlb : eb.length ≤ 100000) (hlt : et.length ≤ 100000) (hw : Below base w W) :
   Calls Tryz.prog 19 #[.pointer (some ⟨B, 0, none⟩)] W fun e w' => e = .returned (.bool true) ∧ Below base w w' := by
 have hle := S.le
 have hbu : ∀ g, g < B → u.ownBlock ≠ some g ∧ v.ownBlock ≠ some g := fun g hg => ⟨fun e => by have := (h.bu g e).1; omega, fun e => by have := (h.bv g e).1; omega⟩
 refine (bt_apart_kp (w := w) (base := base) h heb het hlb hlt (by omega) hw S.nb S.nt (fun e he => ?_) (fun e he => ?_) S.db S.dt S.dx).mono (fun e w' h => ⟨h.1, h.2.1⟩)
 · obtain ⟨⟨l, xs, h1, h2⟩, h3⟩ := S.ob e he
   exact ⟨l, xs, h1, h2, fun g eg => by have := h3 g eg; exact ⟨by omega, hbu g (by omega)⟩⟩
 · obtain ⟨⟨l, xs, h1, h2⟩, h3⟩ := S.ot e he
   exact ⟨l, xs, h1, h2, fun g eg => by have := h3 g eg; exact ⟨by omega, hbu g (by omega)⟩⟩
end Go.Proofs.YtdjfooflhpkcbaaGreatDoor
