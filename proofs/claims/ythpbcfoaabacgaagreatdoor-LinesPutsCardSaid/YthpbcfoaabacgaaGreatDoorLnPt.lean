/- LinesPuts: memory of its walk: two readers, a book, and the lists that it is told of. -/
import Derived.Test.YthpbcfoaabacgaaGreatDoorLnT
import Derived.Test.YthpbcfoaabacgaaGreatDoorLnD
import Derived.Test.YthpbcfoaabacgaaGreatDoorLnS
import Derived.Test.YthpbcfoaabacgaaGreatDoorBkD
namespace Go.Proofs.YthpbcfoaabacgaaGreatDoor
open Go Go.Proofs Go.RowKit Go.Shelf
set_option linter.unusedVariables false

attribute [local go_sem] Oper.semAt_some
def OwnM (Q : Nat) (rb : Value) (g : Nat) : Prop := g = Q ∨ rb.ownBlock = some g
def OwnK (B : Nat) (u v : Value) (g : Nat) : Prop := g = B ∨ u.ownBlock = some g ∨ v.ownBlock = some g
/-- a list of the call's own -/
def LS (W : World) (base T : Nat) (v : Value) : Prop := ∃ m xs, m ≤ 2000000 ∧ W.ownsRow base T 1 v m xs
theorem LS.kp {W W' : World} {base T : Nat} {v : Value} {R : Nat → Prop} (h : LS W base T v) (hk : Kp W W' R) (hn : ∀ g, v.ownBlock = some g → ¬ R g) : LS W' base T v := by
  obtain ⟨m, xs, hm, ho⟩ := h
  exact ⟨m, xs, hm, kp_row hk ho hn⟩
theorem LS.lt {W : World} {base T : Nat} {v : Value} (h : LS W base T v) {g : Nat} (e : v.ownBlock = some g) : base ≤ g ∧ g < W.heap.size := by
  obtain ⟨m, xs, hm, ho⟩ := h
  exact World.ownsRow.lt ho g e
theorem DR.kp {W W' : World} {Q base : Nat} {rb : Value} {cur : List UInt8} {R : Nat → Prop} (h : DR W Q base rb cur) (hk : Kp W W' R) (hn : ∀ g, OwnM Q rb g → ¬ R g) : DR W' Q base rb cur :=
  ⟨(hk.2 Q (Array.getElem?_eq_some_iff.1 h.box).1 (hn Q (.inl rfl))).trans h.box, kp_row hk h.row (fun g e => hn g (.inr e)), h.ne⟩
theorem DR.ltQ {W : World} {Q base : Nat} {rb : Value} {cur : List UInt8} (h : DR W Q base rb cur) {g : Nat} (hg : OwnM Q rb g) : g < W.heap.size := by
  rcases hg with rfl | e
  · exact (Array.getElem?_eq_some_iff.1 h.box).1
  · exact (World.ownsRow.lt h.row g e).2
theorem BT.ltK {W : World} {B n : Nat} {u v : Value} {eb et : List (Value × Nat)} (h : BT W B n u v eb et) {g : Nat} (hg : OwnK B u v g) : B ≤ g ∧ g < W.heap.size := by
  rcases hg with rfl | e | e
  · exact ⟨Nat.le_refl _, h.lt⟩
  · exact ⟨Nat.le_of_lt (h.bu g e).1, (h.bu g e).2⟩
  · exact ⟨Nat.le_of_lt (h.bv g e).1, (h.bv g e).2⟩
structure PL (w W : World) (P Q B n : Nat) (own : Nat → Prop) (rb u v : Value) (cr cm : List UInt8) (eb et : List (Value × Nat)) (Lb Lt : List Value) : Prop where
  r : PRd W P w.heap.size own cr
  m : DR W Q w.heap.size rb cm
  k : BT W B n u v eb et
  bel : Below w.heap.size w W
  bq : w.heap.size ≤ Q
  bb : w.heap.size ≤ B
  rm : ∀ g, own g → ¬ OwnM Q rb g
  rk : ∀ g, own g → ¬ OwnK B u v g
  mq : ∀ g, OwnM Q rb g → ¬ OwnK B u v g
  lb : ∀ x ∈ Lb, LS W w.heap.size 4 x
  lt : ∀ x ∈ Lt, LS W w.heap.size 9 x
  fb : ∀ x ∈ Lb, ∀ g, x.ownBlock = some g → ¬ own g ∧ ¬ OwnM Q rb g ∧ ¬ OwnK B u v g
  ft : ∀ x ∈ Lt, ∀ g, x.ownBlock = some g → ¬ own g ∧ ¬ OwnM Q rb g ∧ ¬ OwnK B u v g
  db : Lb.Pairwise fun x y => x.ownBlock = none ∨ x.ownBlock ≠ y.ownBlock
  dt : Lt.Pairwise fun x y => x.ownBlock = none ∨ x.ownBlock ≠ y.ownBlock
  dx : ∀ x ∈ Lb, ∀ y ∈ Lt, ∀ g, x.ownBlock = some g → y.ownBlock = some g → False
  sb : (eb.map (·.1)).Sublist Lb
  st : (et.map (·.1)).Sublist Lt
section
variable {w W W' : World} {P Q B n : Nat} {own own' : Nat → Prop} {rb rb' u u' v v' vl vb : Value} {cr cm c l : List UInt8} {eb et : List (Value × Nat)} {Lb Lt : List Value}
theorem PRd.kp {R : Nat → Prop} {base : Nat} (h : PRd W P base own cr) (hk : Kp W W' R) (hn : ∀ g, own g → ¬ R g) : PRd W' P base own cr :=
  h.keep hk.1 (fun g hg => hk.2 g (h.lt hg).2 (hn g hg))
theorem PL.below (h : PL w W P Q B n own rb u v cr cm eb et Lb Lt) (hb : Below W.heap.size W W') : PL w W' P Q B n own rb u v cr cm eb et Lb Lt := by
  have hk : Kp W W' (fun _ => False) := ⟨hb.size, fun b hl _ => hb.block b hl⟩
  exact ⟨h.r.kp hk (fun _ _ e => e), h.m.kp hk (fun _ _ e => e), h.k.below hb (Nat.le_refl _), h.bel.trans (hb.mono h.bel.size), h.bq, h.bb, h.rm, h.rk, h.mq, fun x hx => (h.lb x hx).kp hk (fun _ _ e => e), fun x hx => (h.lt x hx).kp hk (fun _ _ e => e), h.fb, h.ft, h.db, h.dt, h.dx, h.sb, h.st⟩
/-- pieces come to the program's reader -/
theorem PL.put (h : PL w W P Q B n own rb u v cr cm eb et Lb Lt) (A : PutAns PRd W P w.heap.size own cr l vl vb own' W') (h1 : (Ln.lgo cr l).1.length ≤ 2000000) :
    PL w W' P Q B n own' rb u v (Ln.lgo cr l).2 cm eb et (Lb ++ [vb]) (Lt ++ [vl]) := by
  obtain ⟨a1, a2, a3, a4, a5, a6, a7, a8⟩ := A
  have hk : Kp W W' own := ⟨a4.size, a5⟩
  have hw := h.bel.size
  have nl := World.ownsRow.lt a2
  have nb := World.ownsRow.lt a3
  have m1 : ∀ g, OwnM Q rb g → g < W.heap.size := fun g hg => h.m.ltQ hg
  have k1 : ∀ g, OwnK B u v g → g < W.heap.size := fun g hg => (h.k.ltK hg).2
  have hrm : ∀ g, own' g → ¬ OwnM Q rb g := fun g hg hm => by
    rcases a6 g hg with h' | h'
    · exact h.rm g h' hm
    · have := m1 g hm; omega
  have hrk : ∀ g, own' g → ¬ OwnK B u v g := fun g hg hm => by
    rcases a6 g hg with h' | h'
    · exact h.rk g h' hm
    · have := k1 g hm; omega
  refine ⟨a1, h.m.kp hk (fun g hm ho => h.rm g ho hm), h.k.kp hk (fun ho => h.rk B ho (.inl rfl)) (fun g e ho => h.rk g ho (.inr (.inl e))) (fun g e ho => h.rk g ho (.inr (.inr e))), h.bel.trans a4, h.bq, h.bb, hrm, hrk, h.mq, fun x hx => ?_, fun x hx => ?_, fun x hx g e => ?_, fun x hx g e => ?_, ?_, ?_, fun x hx y hy g e1 e2 => ?_, h.sb.trans (List.sublist_append_left ..), h.st.trans (List.sublist_append_left ..)⟩
  · rcases List.mem_append.1 hx with hx | hx
    · exact (h.lb x hx).kp hk (fun g e => (h.fb x hx g e).1)
    · obtain rfl : x = vb := by simpa using hx
      exact ⟨_, _, by rw [List.length_map]; exact h1, ⟨a3.1, by
        rcases a3.2 with h2 | ⟨g, cap, cu, e2, hb', hr⟩
        · exact .inl h2
        · exact .inr ⟨g, cap, cu, e2, by omega, hr⟩⟩⟩
  · rcases List.mem_append.1 hx with hx | hx
    · exact (h.lt x hx).kp hk (fun g e => (h.ft x hx g e).1)
    · obtain rfl : x = vl := by simpa using hx
      exact ⟨_, _, by rw [List.length_map]; exact h1, SFresh.mono a2 (by omega)⟩
  · rcases List.mem_append.1 hx with hx | hx
    · refine ⟨fun ho => ?_, (h.fb x hx g e).2⟩
      rcases a6 g ho with h' | h'
      · exact (h.fb x hx g e).1 h'
      · have := ((h.lb x hx).lt e).2; omega
    · obtain rfl : x = vb := by simpa using hx
      have := (nb g e).1
      exact ⟨a8 g e, fun hm => by have := m1 g hm; omega, fun hm => by have := k1 g hm; omega⟩
  · rcases List.mem_append.1 hx with hx | hx
    · refine ⟨fun ho => ?_, (h.ft x hx g e).2⟩
      rcases a6 g ho with h' | h'
      · exact (h.ft x hx g e).1 h'
      · have := ((h.lt x hx).lt e).2; omega
    · obtain rfl : x = vl := by simpa using hx
      have := (nl g e).1
      exact ⟨(a7 g e).1, fun hm => by have := m1 g hm; omega, fun hm => by have := k1 g hm; omega⟩
  · rw [List.pairwise_append]
    refine ⟨h.db, by simp, fun x hx y hy => ?_⟩
    obtain rfl : y = vb := by simpa using hy
    cases e : x.ownBlock with
    | none => exact .inl rfl
    | some g => exact .inr (fun e2 => by have := ((h.lb x hx).lt e).2; have := (nb g e2.symm).1; omega)
  · rw [List.pairwise_append]
    refine ⟨h.dt, by simp, fun x hx y hy => ?_⟩
    obtain rfl : y = vl := by simpa using hy
    cases e : x.ownBlock with
    | none => exact .inl rfl
    | some g => exact .inr (fun e2 => by have := ((h.lt x hx).lt e).2; have := (nl g e2.symm).1; omega)
  · rcases List.mem_append.1 hx with hx | hx <;> rcases List.mem_append.1 hy with hy | hy
    · exact h.dx x hx y hy g e1 e2
    · obtain rfl : y = vl := by simpa using hy
      have := ((h.lb x hx).lt e1).2; have := (nl g e2).1; omega
    · obtain rfl : x = vb := by simpa using hx
      have := ((h.lt y hy).lt e2).2; have := (nb g e1).1; omega
    · obtain rfl : x = vb := by simpa using hx
      obtain rfl : y = vl := by simpa using hy
      exact (a7 g e2).2 e1
/-- the document's reader changes -/
theorem PL.doc (h : PL w W P Q B n own rb u v cr cm eb et Lb Lt) (hd : DR W' Q w.heap.size rb' c) (hk : Kp W W' (OwnM Q rb)) (hlo : Below w.heap.size W W') (hrk : ∀ g, rb'.ownBlock = some g → rb.ownBlock = some g ∨ W.heap.size ≤ g) :
    PL w W' P Q B n own rb' u v cr c eb et Lb Lt := by
  have r1 : ∀ g, own g → g < W.heap.size := fun g hg => (h.r.lt hg).2
  have k1 : ∀ g, OwnK B u v g → g < W.heap.size := fun g hg => (h.k.ltK hg).2
  have old : ∀ g, OwnM Q rb' g → OwnM Q rb g ∨ W.heap.size ≤ g := fun g hg => by
    rcases hg with rfl | e
    · exact .inl (.inl rfl)
    · rcases hrk g e with e | e
      · exact .inl (.inr e)
      · exact .inr e
  refine ⟨h.r.kp hk h.rm, hd, h.k.kp hk (fun ho => h.mq B ho (.inl rfl)) (fun g e ho => h.mq g ho (.inr (.inl e))) (fun g e ho => h.mq g ho (.inr (.inr e))), h.bel.trans hlo, h.bq, h.bb, fun g hg hm => ?_, h.rk, fun g hg hm => ?_, fun x hx => (h.lb x hx).kp hk (fun g e => (h.fb x hx g e).2.1), fun x hx => (h.lt x hx).kp hk (fun g e => (h.ft x hx g e).2.1), fun x hx g e => ⟨(h.fb x hx g e).1, fun hm => ?_, (h.fb x hx g e).2.2⟩, fun x hx g e => ⟨(h.ft x hx g e).1, fun hm => ?_, (h.ft x hx g e).2.2⟩, h.db, h.dt, h.dx, h.sb, h.st⟩
  · rcases old g hm with h' | h'
    · exact h.rm g hg h'
    · have := r1 g hg; omega
  · rcases old g hg with h' | h'
    · exact h.mq g h' hm
    · have := k1 g hm; omega
  · rcases old g hm with h' | h'
    · exact (h.fb x hx g e).2.1 h'
    · have := ((h.lb x hx).lt e).2; omega
  · rcases old g hm with h' | h'
    · exact (h.ft x hx g e).2.1 h'
    · have := ((h.lt x hx).lt e).2; omega
/-- the book is told of a list -/
theorem PL.book {eb' et' : List (Value × Nat)} {n' : Nat} (h : PL w W P Q B n own rb u v cr cm eb et Lb Lt) (hb : BT W' B n' u' v' eb' et') (hk : Kp W W' (OwnK B u v)) (hlo : Below B W W') (hn : ∀ g, OwnK B u' v' g → OwnK B u v g ∨ W.heap.size ≤ g)
    (s1 : (eb'.map (·.1)).Sublist Lb) (s2 : (et'.map (·.1)).Sublist Lt) : PL w W' P Q B n' own rb u' v' cr cm eb' et' Lb Lt := by
  have r1 : ∀ g, own g → g < W.heap.size := fun g hg => (h.r.lt hg).2
  refine ⟨h.r.kp hk h.rk, h.m.kp hk h.mq, hb, h.bel.trans (hlo.mono h.bb), h.bq, h.bb, h.rm, fun g hg hm => ?_, fun g hg hm => ?_, fun x hx => (h.lb x hx).kp hk (fun g e => (h.fb x hx g e).2.2), fun x hx => (h.lt x hx).kp hk (fun g e => (h.ft x hx g e).2.2), fun x hx g e => ⟨(h.fb x hx g e).1, (h.fb x hx g e).2.1, fun hm => ?_⟩, fun x hx g e => ⟨(h.ft x hx g e).1, (h.ft x hx g e).2.1, fun hm => ?_⟩, h.db, h.dt, h.dx, s1, s2⟩
  · rcases hn g hm with h' | h'
    · exact h.rk g hg h'
    · have := r1 g hg; omega
  · rcases hn g hm with h' | h'
    · exact h.mq g hg h'
    · have := h.m.ltQ hg; omega
  · rcases hn g hm with h' | h'
    · exact (h.fb x hx g e).2.2 h'
    · have := ((h.lb x hx).lt e).2; omega
  · rcases hn g hm with h' | h'
    · exact (h.ft x hx g e).2.2 h'
    · have := ((h.lt x hx).lt e).2; omega
end
end Go.Proofs.YthpbcfoaabacgaaGreatDoor
