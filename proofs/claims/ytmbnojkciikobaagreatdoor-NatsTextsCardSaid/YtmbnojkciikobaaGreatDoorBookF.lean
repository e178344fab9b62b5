/- A book's lists of parts are grown. -/
import Derived.Test.YtmbnojkciikobaaGreatDoorBookE
namespace Go.Proofs.YtmbnojkciikobaaGreatDoor
open Go Go.Proofs Go.RowKit Go.Shelf Nu

attribute [local go_sem] Oper.semAt_some

theorem Reads.keptr {W W' : World} {v : Value} {l : List Nat} {row : Option Nat} (h : Reads W v l) (hg : W.grownBy W' row) (hne : v.ownBlock = none ∨ v.ownBlock ≠ row) : Reads W' v l := by
  rcases h with h | ⟨b, off, cap, rfl, hb', hc, hl⟩ | h
  · exact .inl h
  · have hb : some b ≠ row := by
      rcases hne with h | h
      · cases h
      · exact h
    exact .inr (.inl ⟨b, off, cap, rfl, Nat.lt_of_lt_of_le hb' hg.size, hc, fun j hj => (World.cell?_of_block (w := W) (hg.block b hb' hb)).trans (hl j hj)⟩)
  · exact .inr (.inr h)
/-- what is read of a slice that is appended to: its row holds it still -/
theorem reads_append {W W' : World} {base L K m c : Nat} {a : Option Addr} {u u' : Value} (form : (a = none ∧ L = 0 ∧ c = 0) ∨ ∃ g, a = some ⟨g, 0, none⟩) (hv : Reads W (.slice a L c) (List.replicate L m)) (hK : L ≤ K)
    (hu : Fresh W' base u' (List.replicate K m)) (hor : (u'.ownBlock = u.ownBlock ∧ W.grownBy W' u.ownBlock) ∨ (u'.ownBlock = some W.heap.size ∧ W.grownBy W' none)) : Reads W' (.slice a L c) (List.replicate L m) := by
  rcases form with ⟨rfl, rfl, rfl⟩ | ⟨g, rfl⟩
  · exact Reads.nil W'
  · rcases hor with ⟨e, hg⟩ | ⟨_, hg⟩
    · by_cases hgu : some g = u.ownBlock
      · rcases hu.form with ⟨e1, e2⟩ | ⟨g', cap, rfl, _, hlt, hn, hc⟩
        · have : K = 0 := by have := congrArg List.length e2; simpa using this
          obtain rfl : L = 0 := by omega
          subst e1
          rw [← hgu] at e
          cases e
        · rw [← hgu] at e
          have eg : g' = g := by simpa [Value.ownBlock] using e
          subst eg
          rcases hv with ⟨e3, _⟩ | ⟨b, off, cp, e3, _, hcp, _⟩ | ⟨x, e3, e4⟩
          · cases e3
          · simp only [Value.slice.injEq, Option.some.injEq, Addr.mk.injEq, and_true] at e3
            obtain ⟨⟨rfl, rfl⟩, _, rfl⟩ := e3
            refine .inr (.inl ⟨g', 0, c, by rw [List.length_replicate], hlt, hcp, fun j hj => ?_⟩)
            rw [List.length_replicate] at hj
            have := hc j (by rw [List.length_replicate]; omega)
            rw [this]
            congr 3
            rw [List.getD_eq_getElem?_getD, List.getD_eq_getElem?_getD, List.getElem?_replicate, List.getElem?_replicate, if_pos hj, if_pos (by omega)]
          · refine .inr (.inr ⟨⟨g', 0, none⟩, ?_, e4⟩)
            simp only [Value.slice.injEq] at e3
            obtain ⟨_, rfl, rfl⟩ := e3
            rfl
      · exact hv.keptr hg (.inr (by simpa [Value.ownBlock] using hgu))
    · exact hv.keptr hg (.inr (by simp [Value.ownBlock]))

section
variable (w : World) (base B h n N cap : Nat) (A : Nat → Option Addr) (L C M : Nat → Nat) (S0 : Nat)
def BlkC (j : Nat) (u : Value) : Prop := ∀ g, u.ownBlock = some g → (Value.slice (A j) (L j) (C j)).ownBlock = some g ∨ S0 ≤ g
def Forms : Prop := ∀ j, j < N → (A j = none ∧ L j = 0 ∧ C j = 0) ∨ ∃ g, A j = some ⟨g, 0, none⟩
/-- i of them are grown -/
def GrowO (i : Nat) (W : World) : Prop :=
  ∃ G : Nat → Value, (∀ j, i ≤ j → G j = .slice none 0 0) ∧ BookAt W B n (.slice (some ⟨h, 0, none⟩) N cap) ∧ HAt W h N (fun j => .slice (A j) (L j) (C j)) G M ∧ Below base w W ∧ S0 ≤ W.heap.size ∧
    (∀ j, j < N → Reads W (.slice (A j) (L j) (C j)) (List.replicate (L j) (1000 + M j))) ∧ (∀ j, j < N → i ≤ j → Fresh W base (.slice (A j) (L j) (C j)) (List.replicate (L j) (1000 + M j))) ∧
    ∀ j, j < N → j < i → Fresh W base (G j) (List.replicate (L j + 40) (1000 + M j)) ∧ BlkC A L C S0 j (G j)
/-- .. and the next one by k -/
def GrowI (S1 : Nat) (G : Nat → Value) (i k : Nat) (u : Value) (W : World) : Prop :=
  (∀ j, i ≤ j → G j = .slice none 0 0) ∧ BookAt W B n (.slice (some ⟨h, 0, none⟩) N cap) ∧ HAt W h N (fun j => .slice (A j) (L j) (C j)) G M ∧ Below base w W ∧ S1 ≤ W.heap.size ∧
    (∀ j, j < N → Reads W (.slice (A j) (L j) (C j)) (List.replicate (L j) (1000 + M j))) ∧ (∀ j, j < N → i < j → Fresh W base (.slice (A j) (L j) (C j)) (List.replicate (L j) (1000 + M j))) ∧
    (∀ j, j < N → j < i → Fresh W base (G j) (List.replicate (L j + 40) (1000 + M j)) ∧ BlkC A L C S0 j (G j) ∧ ∀ g, (G j).ownBlock = some g → g < S1) ∧
    Fresh W base u (List.replicate (L i + k) (1000 + M i)) ∧ BlkC A L C S1 i u
end
section
variable {w W : World} {base B h n N cap S0 S1 i k : Nat} {A : Nat → Option Addr} {L C M : Nat → Nat} {G : Nat → Value} {u : Value}
theorem GrowO.start (F : FillK w base B h n N cap A L C M N 0 W) : GrowO w base B h n N cap A L C M W.heap.size 0 W := by
  refine ⟨fun _ => .slice none 0 0, fun _ _ => rfl, F.1, F.2.1, F.2.2.1, Nat.le_refl _, fun j hj => ?_, fun j hj _ => ?_, fun j _ hj => absurd hj (Nat.not_lt_zero _)⟩
  · obtain ⟨l, _, f, g, _⟩ := F.2.2.2 j hj
    have := f.reads
    rwa [g hj] at this
  · obtain ⟨l, _, f, g, _⟩ := F.2.2.2 j hj
    rwa [g hj] at f
theorem FillK.forms (F : FillK w base B h n N cap A L C M i k W) : Forms N A L C := by
  intro j hj
  obtain ⟨l, e, f, _⟩ := F.2.2.2 j hj
  rcases f.form with ⟨e1, _⟩ | ⟨g, c, e1, _⟩
  · simp only [Value.slice.injEq] at e1; exact .inl e1
  · simp only [Value.slice.injEq] at e1; exact .inr ⟨g, e1.1⟩
theorem GrowO.inner (D : Lies base B h N A L C M) (F : GrowO w base B h n N cap A L C M S0 i W) (hi : i < N) (o : Obj) :
    ∃ G, GrowI w base B h n N cap A L C M S0 (W.heap.size + 1) G i 0 (.slice (A i) (L i) (C i)) (W.alloc o) := by
  obtain ⟨G, h0, h1, h2, h3, h4, h5, h6, h7⟩ := F
  have hs : base ≤ W.heap.size := Nat.le_trans D.base (Nat.le_of_lt h1.lt)
  have hb : Below W.heap.size W (W.alloc o) := (Below.refl _ _).alloc (Nat.le_refl _) o
  refine ⟨G, h0, h1.alloc o, h2.kept (World.grownBy_alloc W o none) (by simp), h3.alloc hs o, by simp, fun j hj => (h5 j hj).below hb, fun j hj hji => (h6 j hj (by omega)).alloc o, fun j hj hji => ?_, (h6 i hi (Nat.le_refl _)).alloc o, fun g e => .inl e⟩
  obtain ⟨f, c⟩ := h7 j hj hji
  exact ⟨f.alloc o, c, fun g e => by have := (f.lt' e).2; omega⟩
theorem GrowI.step {w3 : World} {u' : Value} {z : Int} {o : Obj} (D : Lies base B h N A L C M) (hf : Forms N A L C) (hi : i < N) (hS : S1 ≤ W.heap.size) (hhS : h < S0) (hSS : S0 ≤ S1) (F : GrowI w base B h n N cap A L C M S0 S1 G i k u W) (hz : z = ((1000 + M i : Nat) : Int))
    (hown : w3.ownsRow base 78 1 u' ((List.replicate (L i + k) (1000 + M i)).length + 1) ((List.replicate (L i + k) (1000 + M i)).map u32v ++ [.int .u32 z]))
    (hor : (u'.ownBlock = u.ownBlock ∧ (W.alloc o).grownBy w3 u.ownBlock) ∨ (u'.ownBlock = some (W.alloc o).heap.size ∧ (W.alloc o).grownBy w3 none)) :
    GrowI w base B h n N cap A L C M S0 S1 G i (k + 1) u' w3 ∧ ∃ row, (W.alloc o).grownBy w3 row ∧ ∀ g, row = some g → g < B ∨ S1 ≤ g := by
  obtain ⟨h0, h1, h2, h3, h4, h5, h6, h7, h8, h9⟩ := F
  have hs : base ≤ W.heap.size := Nat.le_trans D.base (Nat.le_of_lt h1.lt)
  have hb : Below W.heap.size W (W.alloc o) := (Below.refl _ _).alloc (Nat.le_refl _) o
  have hup := D.up
  have hfu : Fresh w3 base u' (List.replicate (L i + (k + 1)) (1000 + M i)) := by
    unfold Fresh
    rw [hz] at hown
    rw [show L i + (k + 1) = (L i + k) + 1 by omega, List.replicate_succ', List.map_append, List.length_append]
    exact hown
  -- the row that may have turned
  obtain ⟨row, hrow, hr1, hr2⟩ : ∃ row, (W.alloc o).grownBy w3 row ∧ (row = none ∨ row = u.ownBlock) ∧ ∀ g, row = some g → (Value.slice (A i) (L i) (C i)).ownBlock = some g ∨ S1 ≤ g := by
    rcases hor with ⟨_, hg⟩ | ⟨_, hg⟩
    · exact ⟨_, hg, .inr rfl, fun g e => h9 g e⟩
    · exact ⟨none, hg, .inl rfl, fun g e => by cases e⟩
  have hlow : ∀ g, row = some g → g < B ∨ S1 ≤ g := fun g e => by
    rcases hr2 g e with h | h
    · exact .inl (D.blk i g hi h)
    · exact .inr h
  have hV : ∀ j, j < N → j ≠ i → (Value.slice (A j) (L j) (C j)).ownBlock = none ∨ (Value.slice (A j) (L j) (C j)).ownBlock ≠ row := by
    intro j hj hji
    cases hv : (Value.slice (A j) (L j) (C j)).ownBlock with
    | none => exact .inl rfl
    | some g =>
      refine .inr (fun e => ?_)
      have hgB := D.blk j g hj hv
      rcases hr2 g e.symm with h | h
      · rcases D.dis j i hj hi hji with h' | h'
        · rw [hv] at h'; cases h'
        · exact h' (hv.trans h.symm)
      · omega
  have hbB : some B ≠ row := fun e => by rcases hlow B e.symm with h | h <;> omega
  have hhB : some h ≠ row := fun e => by rcases hlow h e.symm with h | h <;> omega
  refine ⟨⟨h0, (h1.alloc o).kept hrow hbB, (h2.kept (World.grownBy_alloc W o none) (by simp)).kept hrow hhB, (h3.alloc hs o).grown hrow (by simp; omega) (fun g e => ?_), ?_, fun j hj => ?_, fun j hj hji => ?_, fun j hj hji => ?_, hfu, fun g e => ?_⟩, row, hrow, hlow⟩
  · rcases hr1 with h | h
    · rw [h] at e; cases e
    · rw [h] at e; exact (h8.lt' e).1
  · have := hrow.size; simp at this; omega
  · by_cases hji : j = i
    · subst hji
      exact reads_append (hf j hj) ((h5 j hj).below hb) (by omega) hfu hor
    · exact ((h5 j hj).below hb).keptr hrow (hV j hj hji)
  · exact ((h6 j hj hji).alloc o).keptr hrow (hV j hj (by omega))
  · obtain ⟨f, c, l⟩ := h7 j hj hji
    refine ⟨(f.alloc o).keptr hrow ?_, c, l⟩
    cases hg : (G j).ownBlock with
    | none => exact .inl rfl
    | some g =>
      refine .inr (fun e => ?_)
      have hl := l g hg
      rcases hr2 g e.symm with h | h
      · rcases c g hg with h' | h'
        · rcases D.dis j i hj hi (by omega) with h'' | h''
          · rw [h'] at h''; cases h''
          · exact h'' (h'.trans h.symm)
        · have := D.blk i g hi h; omega
      · omega
  · rcases hor with ⟨e1, _⟩ | ⟨e1, _⟩
    · rw [e1] at e; exact h9 g e
    · rw [e1] at e
      simp only [World.size_alloc, Option.some.injEq] at e
      exact .inr (by omega)
theorem GrowI.next (D : Lies base B h N A L C M) (hi : i < N) (hhS : h < S0) (hSS : S0 ≤ S1) (F : GrowI w base B h n N cap A L C M S0 S1 G i 40 u W) :
    GrowO w base B h n N cap A L C M S0 (i + 1) (W.setCell ⟨h, i * 3 + 1, none⟩ u) := by
  obtain ⟨h0, h1, h2, h3, h4, h5, h6, h7, h8, h9⟩ := F
  have hup := D.up
  have hbb := D.base
  have hg : W.grownBy (W.setCell ⟨h, i * 3 + 1, none⟩ u) (some h) := ⟨rfl, rfl, rfl, by simp, fun k _ hk => heap_setCell_other W ⟨h, i * 3 + 1, none⟩ k u (fun e => hk (by simp [e]))⟩
  have off : ∀ j, j < N → (Value.slice (A j) (L j) (C j)).ownBlock = none ∨ (Value.slice (A j) (L j) (C j)).ownBlock ≠ some h := fun j hj => .inr (fun e => by have := D.blk j h hj e; omega)
  refine ⟨fun j => if j = i then u else G j, fun j hj => by show (if j = i then u else G j) = _; rw [if_neg (by omega)]; exact h0 j (by omega), h1.other (by omega) _, h2.put hi u, h3.setCell (p := ⟨h, i * 3 + 1, none⟩) (show base ≤ h by omega) _, by simp; omega, fun j hj => (h5 j hj).keptr hg (off j hj), fun j hj hji => (h6 j hj (by omega)).keptr hg (off j hj), fun j hj hji => ?_⟩
  by_cases e : j = i
  · subst e
    simp only [if_true]
    refine ⟨h8.keptr hg (.inr fun e => ?_), fun g e => ?_⟩
    · rcases h9 h e with h' | h'
      · have := D.blk j h hj h'; omega
      · omega
    · rcases h9 g e with h' | h'
      · exact .inl h'
      · exact .inr (by omega)
  · simp only [if_neg e]
    obtain ⟨f, c, l⟩ := h7 j hj (by omega)
    refine ⟨f.keptr hg (.inr fun e => ?_), c⟩
    rcases c h e with h' | h'
    · have := D.blk j h hj h'; omega
    · omega
end

end Go.Proofs.YtmbnojkciikobaaGreatDoor
