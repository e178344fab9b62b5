/- A book of numbers' lists and rows of fractions, as laws use it. -/
import Derived.Test.YtkkahghhheameaaDoorBkRI
namespace Go.Proofs.YtkkahghhheameaaDoor
open Go Go.Proofs Go.RowKit Go.Shelf

attribute [local go_sem] Oper.semAt_some
set_option maxRecDepth 100000
def bt (u v : Value) : Nat → Value := upd (upd none12 2 u) 8 v
/-- the book B was told n lists: u holds the truths eb, v the texts et -/
structure BT (W : World) (B n : Nat) (u v : Value) (eb et : List (Value × Nat)) : Prop where
  book : QBook W B n (bt u v)
  rb : QRow 68 W (B + 1) u eb
  rt : QRow 62 W (B + 1) v et
  ne : ∀ g, u.ownBlock = some g → v.ownBlock = some g → False
theorem BT.new (W : World) : BT (W.alloc (.cells (qcells 0 none12) 38)) W.heap.size 0 (.slice none 0 0) (.slice none 0 0) [] [] :=
  ⟨QBook.new W, World.ownsRow_nil _ _ _ 3, World.ownsRow_nil _ _ _ 3, fun g e => by cases e⟩
section
variable {W W' : World} {B n : Nat} {u v u' v' : Value} {eb et : List (Value × Nat)} {R : Nat → Prop}
theorem BT.kp (h : BT W B n u v eb et) (hk : Kp W W' R) (hB : ¬ R B) (hu : ∀ g, u.ownBlock = some g → ¬ R g) (hv : ∀ g, v.ownBlock = some g → ¬ R g) : BT W' B n u v eb et :=
  ⟨(hk.2 B h.book.lt hB).trans h.book, kp_row hk h.rb hu, kp_row hk h.rt hv, h.ne⟩
theorem BT.lt (h : BT W B n u v eb et) : B < W.heap.size := h.book.lt
theorem BT.bu (h : BT W B n u v eb et) (g : Nat) (e : u.ownBlock = some g) : B < g ∧ g < W.heap.size := World.ownsRow.lt h.rb g e
theorem BT.bv (h : BT W B n u v eb et) (g : Nat) (e : v.ownBlock = some g) : B < g ∧ g < W.heap.size := World.ownsRow.lt h.rt g e
theorem BT.grown {row : Option Nat} (h : BT W B n u v eb et) (hg : W.grownBy W' row) (hr : ∀ g, row = some g → g < B) : BT W' B n u v eb et := by
  have hk : Kp W W' (fun b => row = some b) := Kp.refl.grown hg (fun g e => .inl e)
  refine h.kp hk (fun e => by have := hr B e; omega) (fun g e e2 => ?_) (fun g e e2 => ?_)
  · have := hr g e2; have := (h.bu g e).1; omega
  · have := hr g e2; have := (h.bv g e).1; omega
theorem BT.below {N : Nat} (h : BT W B n u v eb et) (hb : Below N W W') (hN : W.heap.size ≤ N) : BT W' B n u v eb et :=
  h.kp (R := fun _ => False) ⟨hb.size, fun b hl _ => hb.block b (Nat.lt_of_lt_of_le hl hN)⟩ (fun e => e) (fun _ _ e => e) (fun _ _ e => e)
end
theorem bt8 (u v x : Value) : upd (bt u v) 8 x = bt u x := by
  funext j; unfold bt upd; by_cases h : j = 8 <;> simp [h]
theorem bt2 (u v x : Value) : upd (bt u v) 2 x = bt x v := by
  funext j; unfold bt upd; by_cases h : j = 8
  · simp [h]
  · by_cases h4 : j = 2 <;> simp [h, h4]
theorem bt_row {W : World} {B n : Nat} {u v : Value} {eb et : List (Value × Nat)} {a : Option Addr} {l c : Nat} (h : BT W B n u v eb et) (hn : n ≤ 100000) (hl : et.length ≤ 100000) :
    Calls Tryd.prog 13 #[.pointer (some ⟨B, 0, none⟩), .slice a l c] W fun e w' => e = .returned (.tuple #[]) ∧ ∃ v', BT w' B (n + 1) u v' eb (et ++ [(.slice a l c, n + 1)]) ∧ Below B W w' ∧ Kp W w' (fun b => b = B ∨ v.ownBlock = some b) ∧ ∀ g, v'.ownBlock = some g → v.ownBlock = some g ∨ W.heap.size ≤ g := by
  have k0 := keepRa_any (a := a) (l := l) (c := c) h.book (f := bt u v) (es := et) h.rt hn hl
  have k : Calls Tryd.prog 13 #[.pointer (some ⟨B, 0, none⟩), .slice a l c] W fun e w' => e = .returned (.tuple #[]) ∧ ∃ v', BT w' B (n + 1) u v' eb (et ++ [(.slice a l c, n + 1)]) ∧ Below B W w' ∧ Kp W w' (fun b => b = B ∨ v.ownBlock = some b) ∧ ∀ g, v'.ownBlock = some g → v.ownBlock = some g ∨ W.heap.size ≤ g := by
    refine k0.mono ?_
    rintro e w' ⟨he, x, h1, h2, h3, h4, h5⟩
    rw [bt8] at h1
    have h4' : Kp W w' (fun b => b = B ∨ v.ownBlock = some b) := h4
    have h5' : ∀ g, x.ownBlock = some g → v.ownBlock = some g ∨ W.heap.size ≤ g := h5
    refine ⟨he, x, ⟨h1, kp_row h4' h.rb (fun g e => ?_), h2, fun g e e2 => ?_⟩, h3, h4', h5'⟩
    · rintro (e2 | e2)
      · have := (h.bu g e).1; omega
      · exact h.ne g e e2
    · rcases h5' g e2 with e3 | e3
      · exact h.ne g e e3
      · have := (h.bu g e).2; omega
  exact k
theorem bt_nat {W : World} {B n : Nat} {u v : Value} {eb et : List (Value × Nat)} {a : Option Addr} {l c : Nat} (h : BT W B n u v eb et) (hn : n ≤ 100000) (hl : eb.length ≤ 100000) :
    Calls Tryd.prog 56 #[.pointer (some ⟨B, 0, none⟩), .slice a l c] W fun e w' => e = .returned (.tuple #[]) ∧ ∃ u', BT w' B (n + 1) u' v (eb ++ [(.slice a l c, n + 1)]) et ∧ Below B W w' ∧ Kp W w' (fun b => b = B ∨ u.ownBlock = some b) ∧ ∀ g, u'.ownBlock = some g → u.ownBlock = some g ∨ W.heap.size ≤ g := by
  have k0 := keepIn_any (a := a) (l := l) (c := c) h.book (f := bt u v) (es := eb) h.rb hn hl
  have k : Calls Tryd.prog 85 #[.pointer (some ⟨B, 0, none⟩), .slice a l c] W fun e w' => e = .returned (.tuple #[]) ∧ ∃ u', BT w' B (n + 1) u' v (eb ++ [(.slice a l c, n + 1)]) et ∧ Below B W w' ∧ Kp W w' (fun b => b = B ∨ u.ownBlock = some b) ∧ ∀ g, u'.ownBlock = some g → u.ownBlock = some g ∨ W.heap.size ≤ g := by
    refine k0.mono ?_
    rintro e w' ⟨he, x, h1, h2, h3, h4, h5⟩
    rw [bt2] at h1
    have h4' : Kp W w' (fun b => b = B ∨ u.ownBlock = some b) := h4
    have h5' : ∀ g, x.ownBlock = some g → u.ownBlock = some g ∨ W.heap.size ≤ g := h5
    refine ⟨he, x, ⟨h1, h2, kp_row h4' h.rt (fun g e => ?_), fun g e e2 => ?_⟩, h3, h4', h5'⟩
    · rintro (e2 | e2)
      · have := (h.bv g e).1; omega
      · exact h.ne g e2 e
    · rcases h5' g e with e3 | e3
      · exact h.ne g e3 e2
      · have := (h.bv g e2).2; omega
  clear h k0
  go_enter Tryd.func56, Tryd.ntmps56
  go_wp2_with (go_at_call 85; refine k.mono ?_; clear k; rintro e w' ⟨rfl, q⟩)
  go_end0
  exact ⟨rfl, q⟩
/-- lists that lie apart, with letters for their places -/
theorem q_pick {W : World} {base T sz B h : Nat} {es : List (Value × Nat)} (hb : base ≤ B) (hBh : B < h) (hl : es.length ≤ 100000) (hn : ∀ e ∈ es, e.2 ≤ 100000)
    (hown : ∀ e ∈ es, ∃ (m : Nat) (xs : List Value), m ≤ 2000000 ∧ W.ownsRow base T sz e.1 m xs ∧ ∀ g, e.1.ownBlock = some g → g ≠ B ∧ g ≠ h) (hdis : es.Pairwise fun x y => x.1.ownBlock = none ∨ x.1.ownBlock ≠ y.1.ownBlock) :
    ∃ (A : Nat → Option Addr) (L C : Nat → Nat), QLies W base B h es.length A L C (fun j => (es.getD j (.slice none 0 0, 0)).2) ∧ (∀ j, j < es.length → (es.getD j (.slice none 0 0, 0)).1 = .slice (A j) (L j) (C j)) ∧ ∀ j, j < es.length → ∃ xs, W.ownsRow base T sz (.slice (A j) (L j) (C j)) (L j) xs := by
  let V : Nat → Value := fun j => (es.getD j (.slice none 0 0, 0)).1
  have hget : ∀ j (hj : j < es.length), es.getD j (.slice none 0 0, 0) = es[j] := fun j hj => by rw [List.getD_eq_getElem?_getD, List.getElem?_eq_getElem hj]; rfl
  have key : ∀ j, ∃ x : Option Addr × Nat × Nat, j < es.length → ∃ xs : List Value, V j = .slice x.1 x.2.1 x.2.2 ∧ x.2.1 ≤ 2000000 ∧ W.ownsRow base T sz (V j) x.2.1 xs ∧ ∀ g, (V j).ownBlock = some g → g ≠ B ∧ g ≠ h := by
    intro j
    by_cases hj : j < es.length
    · obtain ⟨m, xs, h1, h2, h3⟩ := hown es[j] (List.getElem_mem hj)
      have e : V j = es[j].1 := by show (es.getD j _).1 = _; rw [hget j hj]
      obtain ⟨a, c, hf, _⟩ := own_rdc h2
      exact ⟨(a, m, c), fun _ => ⟨xs, by rw [e]; exact hf, h1, by rw [e]; exact h2, by rw [e]; exact h3⟩⟩
    · exact ⟨(none, 0, 0), fun h => absurd h hj⟩
  obtain ⟨q, hq⟩ := Classical.axiomOfChoice key
  have hV : ∀ j, j < es.length → V j = .slice (q j).1 (q j).2.1 (q j).2.2 := fun j hj => (hq j hj).elim fun _ h => h.1
  have hsym : ∀ j k, j < es.length → k < es.length → j ≠ k → (V j).ownBlock = none ∨ (V j).ownBlock ≠ (V k).ownBlock := by
    intro j k hj hk hjk
    have e1 : V j = es[j].1 := by show (es.getD j _).1 = _; rw [hget j hj]
    have e2 : V k = es[k].1 := by show (es.getD k _).1 = _; rw [hget k hk]
    rw [e1, e2]
    rcases Nat.lt_or_gt_of_ne hjk with h1 | h1
    · exact List.pairwise_iff_getElem.1 hdis j k hj hk h1
    · have := List.pairwise_iff_getElem.1 hdis k j hk hj h1
      cases h2 : es[j].1.ownBlock with
      | none => exact .inl rfl
      | some g =>
        refine .inr (fun e3 => ?_)
        rcases this with h3 | h3
        · rw [h3] at e3; cases e3
        · rw [h2] at h3; exact h3 e3.symm
  refine ⟨fun j => (q j).1, fun j => (q j).2.1, fun j => (q j).2.2, ⟨hb, hBh, fun j g hj e => ?_, fun j k hj hk hjk => ?_, fun j hj => ?_, fun j hj => ?_, hl⟩, hV, fun j hj => ?_⟩
  · obtain ⟨l, _, _, h2, h3⟩ := hq j hj
    have e' : (V j).ownBlock = some g := by rw [hV j hj]; exact e
    exact ⟨(h3 g e').1, (h3 g e').2, (World.ownsRow.lt h2 g e').2⟩
  · have := hsym j k hj hk hjk
    rwa [hV j hj, hV k hk] at this
  · obtain ⟨l, _, h2, _⟩ := hq j hj; exact h2
  · show (es.getD j _).2 ≤ _
    rw [hget j hj]
    exact hn _ (List.getElem_mem hj)
  · obtain ⟨l, _, _, h2, _⟩ := hq j hj
    rw [hV j hj] at h2
    exact ⟨l, h2⟩
theorem q_start {W w : World} {base T sz B h n : Nat} {mk : Nat → List Value} {f : Nat → Value} {es : List (Value × Nat)} {A : Nat → Option Addr} {L C : Nat → Nat} (hB : QBook W B n f) (hw : Below base w W)
    (hat : QAt W h es.length (fun j => (es.getD j (.slice none 0 0, 0)).1) (fun _ => .slice none 0 0) (fun j => (es.getD j (.slice none 0 0, 0)).2)) (hV : ∀ j, j < es.length → (es.getD j (.slice none 0 0, 0)).1 = .slice (A j) (L j) (C j)) (hr : ∀ j, j < es.length → ∃ xs, W.ownsRow base T sz (.slice (A j) (L j) (C j)) (L j) xs) :
    QFill W w T sz mk base B h n es.length f A L C (fun j => (es.getD j (.slice none 0 0, 0)).2) 0 0 W := by
  refine ⟨hB, ⟨hat.1, fun j hj => ?_⟩, hw, Kp.refl, fun j hj => ?_⟩
  · have := hat.2 j hj
    exact ⟨this.1.trans (congrArg some (hV j hj)), this.2⟩
  · obtain ⟨l, h2⟩ := hr j hj
    exact ⟨l, h2, fun h => absurd h (Nat.not_lt_zero _), fun _ => by simp [rep]⟩
/-- what the call answers of a book that was told of texts and truths that lie apart -/
theorem wlies {W : World} {base B h N : Nat} {A : Nat → Option Addr} {L C M : Nat → Nat} (D : QLies W base B h N A L C M) : WLies W base B h N A L C M := ⟨D.base, D.up, D.blk, D.dis, D.len, D.num, D.few⟩
theorem q_startW {W w : World} {base sz B h n S : Nat} {T HT : TypeId} {f : Nat → Value} {es : List (Value × Nat)} {A : Nat → Option Addr} {L C : Nat → Nat} (ht : HTag HT h W) (hB : QBook W B n f) (hw : Below base w W)
    (hat : QAt W h es.length (fun j => (es.getD j (.slice none 0 0, 0)).1) (fun _ => .slice none 0 0) (fun j => (es.getD j (.slice none 0 0, 0)).2)) (hV : ∀ j, j < es.length → (es.getD j (.slice none 0 0, 0)).1 = .slice (A j) (L j) (C j)) (hr : ∀ j, j < es.length → ∃ xs, W.ownsRow base T sz (.slice (A j) (L j) (C j)) (L j) xs) :
    WFill W w T HT sz (PRat S) base B h n es.length f A L C (fun j => (es.getD j (.slice none 0 0, 0)).2) 0 0 W := by
  refine ⟨hB, ⟨hat.1, fun j hj => ?_⟩, hw, Kp.refl, ht, fun j hj => ?_⟩
  · have := hat.2 j hj
    exact ⟨this.1.trans (congrArg some (hV j hj)), this.2⟩
  · obtain ⟨l, h2⟩ := hr j hj
    exact ⟨l, h2, fun h => absurd h (Nat.not_lt_zero _), fun _ => by rw [Nat.zero_mul, List.take_zero]; exact (marksRat S).nil⟩
theorem htag {HT : TypeId} {W : World} {base : Nat} {v : Value} {es : List (Value × Nat)} (H : QRow HT W base v es) {h : Nat} (e : v.ownBlock = some h) : HTag HT h W := by
  rcases H.2 with ⟨e0, _⟩ | ⟨g, cap, cur, rfl, _, hg, _⟩
  · rw [e0] at e; cases e
  · have : g = h := by simpa [Value.ownBlock] using e
    subst this
    exact ⟨cur, hg⟩
theorem bt_apart_kp {w W : World} {base B n : Nat} {u v : Value} {eb et : List (Value × Nat)} (h : BT W B n u v eb et) (heb : eb ≠ []) (het : et ≠ []) (hlb : eb.length ≤ 100000) (hlt : et.length ≤ 100000) (hb : base ≤ B) (hw : Below base w W)
    (hnb : ∀ e ∈ eb, e.2 ≤ 100000) (hnt : ∀ e ∈ et, e.2 ≤ 100000)
    (hob : ∀ e ∈ eb, ∃ (m : Nat) (xs : List Value), m ≤ 2000000 ∧ W.ownsRow base 58 1 e.1 m xs ∧ ∀ g, e.1.ownBlock = some g → g ≠ B ∧ u.ownBlock ≠ some g ∧ v.ownBlock ≠ some g)
    (hot : ∀ e ∈ et, ∃ (m : Nat) (xs : List Value), m ≤ 2000000 ∧ W.ownsRow base 47 3 e.1 m xs ∧ ∀ g, e.1.ownBlock = some g → g ≠ B ∧ u.ownBlock ≠ some g ∧ v.ownBlock ≠ some g)
    (hdb : eb.Pairwise fun x y => x.1.ownBlock = none ∨ x.1.ownBlock ≠ y.1.ownBlock) (hdt : et.Pairwise fun x y => x.1.ownBlock = none ∨ x.1.ownBlock ≠ y.1.ownBlock)
    (hdx : ∀ x ∈ eb, ∀ y ∈ et, ∀ g, x.1.ownBlock = some g → y.1.ownBlock = some g → False) :
    Calls Tryd.prog 8 #[.pointer (some ⟨B, 0, none⟩)] W fun e w' => e = .returned (.bool true) ∧ Below base w w' ∧ Kp W w' (fun g => u.ownBlock = some g ∨ v.ownBlock = some g ∨ (∃ e ∈ eb, e.1.ownBlock = some g) ∨ ∃ e ∈ et, e.1.ownBlock = some g) := by
  obtain ⟨hb1, capb, eu, hBb, hcb, hab⟩ := h.rb.at heb
  obtain ⟨ht1, capt, ev, hBt, hct, hat⟩ := h.rt.at het
  have eu1 : u.ownBlock = some hb1 := by rw [eu]; rfl
  have ev1 : v.ownBlock = some ht1 := by rw [ev]; rfl
  obtain ⟨Ab, Lb, Cb, Db, Vb, Rb⟩ := q_pick hb (show B < hb1 from hBb) hlb hnb (fun e he => by
    obtain ⟨m, xs, h1, h2, h3⟩ := hob e he
    exact ⟨m, xs, h1, h2, fun g eg => ⟨(h3 g eg).1, fun e => (h3 g eg).2.1 (by rw [eu1, e])⟩⟩) hdb
  obtain ⟨At, Lt, Ct, Dt, Vt, Rt⟩ := q_pick hb (show B < ht1 from hBt) hlt hnt (fun e he => by
    obtain ⟨m, xs, h1, h2, h3⟩ := hot e he
    exact ⟨m, xs, h1, h2, fun g eg => ⟨(h3 g eg).1, fun e => (h3 g eg).2.2 (by rw [ev1, e])⟩⟩) hdt
  have X : QTwo hb1 eb.length Ab Lb Cb ht1 et.length At Lt Ct := by
    refine ⟨fun e => ?_, fun i hi e => ?_, fun j hj e => ?_, fun i j g hi hj e1 e2 => ?_⟩
    · exact h.ne hb1 (by rw [eu]; rfl) (by rw [ev, e]; rfl)
    · have g1 : eb.getD i (.slice none 0 0, 0) = eb[i] := by rw [List.getD_eq_getElem?_getD, List.getElem?_eq_getElem hi]; rfl
      obtain ⟨m, xs, _, _, h3⟩ := hob _ (List.getElem_mem hi)
      have v1 := Vb i hi
      rw [g1] at v1
      exact (h3 ht1 (by rw [v1]; exact e)).2.2 ev1
    · have g2 : et.getD j (.slice none 0 0, 0) = et[j] := by rw [List.getD_eq_getElem?_getD, List.getElem?_eq_getElem hj]; rfl
      obtain ⟨m, xs, _, _, h3⟩ := hot _ (List.getElem_mem hj)
      have v2 := Vt j hj
      rw [g2] at v2
      exact (h3 hb1 (by rw [v2]; exact e)).2.1 eu1
    · have g1 : eb.getD i (.slice none 0 0, 0) = eb[i] := by rw [List.getD_eq_getElem?_getD, List.getElem?_eq_getElem hi]; rfl
      have g2 : et.getD j (.slice none 0 0, 0) = et[j] := by rw [List.getD_eq_getElem?_getD, List.getElem?_eq_getElem hj]; rfl
      have v1 := Vb i hi
      have v2 := Vt j hj
      rw [g1] at v1
      rw [g2] at v2
      exact hdx _ (List.getElem_mem hi) _ (List.getElem_mem hj) g (by rw [v1]; exact e1) (by rw [v2]; exact e2)
  refine (apartIR_kp Db (wlies Dt) X hcb hct (show bt u v 2 = _ from eu) (show bt u v 8 = _ from ev) (fun o h4 h5 => by simp [bt, upd, none12, h4, h5]) (q_start h.book hw hab Vb Rb) (q_startW (htag h.rt ev1) h.book hw hat Vt Rt)).mono ?_
  rintro e w' ⟨rfl, h1, h2⟩
  refine ⟨rfl, h1, kp_mono h2 (fun g hg => ?_)⟩
  rcases hg with (e | ⟨j, hj, e⟩) | (e | ⟨j, hj, e⟩)
  · exact .inl (by rw [eu1, e])
  · refine .inr (.inr (.inl ⟨_, List.getElem_mem hj, ?_⟩))
    have g1 : eb.getD j (.slice none 0 0, 0) = eb[j] := by rw [List.getD_eq_getElem?_getD, List.getElem?_eq_getElem hj]; rfl
    have v1 := Vb j hj
    rw [g1] at v1
    rw [v1]; exact e
  · exact .inr (.inl (by rw [ev1, e]))
  · refine .inr (.inr (.inr ⟨_, List.getElem_mem hj, ?_⟩))
    have g1 : et.getD j (.slice none 0 0, 0) = et[j] := by rw [List.getD_eq_getElem?_getD, List.getElem?_eq_getElem hj]; rfl
    have v1 := Vt j hj
    rw [g1] at v1
    rw [v1]; exact e
end Go.Proofs.YtkkahghhheameaaDoor
