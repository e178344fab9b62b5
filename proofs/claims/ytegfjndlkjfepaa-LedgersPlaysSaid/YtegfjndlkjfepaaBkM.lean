/- A book of lists of any kind: filled, grown, looked at: what stays. -/
import Derived.Test.YtegfjndlkjfepaaBq
import Derived.Deep.Draws
namespace Go.Proofs.Ytegfjndlkjfepaa
open Go Go.Proofs Go.RowKit Go.Shelf

/-- what the call may have turned: the blocks of R, and new ones -/
def Kp (W0 W : World) (R : Nat → Prop) : Prop := W0.heap.size ≤ W.heap.size ∧ ∀ b, b < W0.heap.size → ¬ R b → W.heap[b]? = W0.heap[b]?
section
variable {W0 W W' : World} {R : Nat → Prop}
theorem Kp.refl : Kp W W R := ⟨Nat.le_refl _, fun _ _ _ => rfl⟩
theorem Kp.grown {row : Option Nat} (h : Kp W0 W R) (hg : W.grownBy W' row) (hr : ∀ g, row = some g → R g ∨ W0.heap.size ≤ g) : Kp W0 W' R :=
  ⟨Nat.le_trans h.1 hg.size, fun b hb hn => (hg.block b (Nat.lt_of_lt_of_le hb h.1) (fun e => by rcases hr b e.symm with h' | h'; exact hn h'; omega)).trans (h.2 b hb hn)⟩
theorem Kp.alloc (h : Kp W0 W R) (o : Obj) : Kp W0 (W.alloc o) R := h.grown (World.grownBy_alloc W o none) (fun _ e => by cases e)
end
/-- cells that are read of a slice -/
def RdC (W : World) (v : Value) (n : Nat) (xs : List Value) : Prop := ∃ a cap, v = .slice a n cap ∧ n ≤ cap ∧ (0 < n → ∃ b off, a = some ⟨b, off, none⟩ ∧ b < W.heap.size ∧ ∀ o u, xs[o]? = some u → W.cell? ⟨b, off + o, none⟩ = some u)
theorem RdC.keptr {W W' : World} {v : Value} {n : Nat} {xs : List Value} {row : Option Nat} (h : RdC W v n xs) (hg : W.grownBy W' row) (hne : v.ownBlock = none ∨ v.ownBlock ≠ row) : RdC W' v n xs := by
  obtain ⟨a, cap, rfl, hc, h⟩ := h
  refine ⟨a, cap, rfl, hc, fun h0 => ?_⟩
  obtain ⟨b, off, rfl, hb, hcell⟩ := h h0
  have hbr : some b ≠ row := by
    rcases hne with h | h
    · simp [Value.ownBlock] at h
    · simpa [Value.ownBlock] using h
  exact ⟨b, off, rfl, Nat.lt_of_lt_of_le hb hg.size, fun o u ho => (World.cell?_of_block (w := W) (hg.block b hb hbr)).trans (hcell o u ho)⟩
theorem RdC.below {W W' : World} {v : Value} {n : Nat} {xs : List Value} (h : RdC W v n xs) (hb : Below W.heap.size W W') : RdC W' v n xs := by
  obtain ⟨a, cap, rfl, hc, h⟩ := h
  refine ⟨a, cap, rfl, hc, fun h0 => ?_⟩
  obtain ⟨b, off, rfl, hlt, hcell⟩ := h h0
  exact ⟨b, off, rfl, Nat.lt_of_lt_of_le hlt hb.size, fun o u ho => (hb.cell (p := ⟨b, off + o, none⟩) hlt).trans (hcell o u ho)⟩
theorem own_rdc {W : World} {base e size : Nat} {v : Value} {n : Nat} {xs : List Value} (h : W.ownsRow base e size v n xs) : RdC W v n xs := by
  have h0 := h
  rcases h.2 with ⟨rfl, rfl⟩ | ⟨g, cap, cur, rfl, _, hg, hn, _⟩
  · exact ⟨none, 0, rfl, Nat.le_refl _, fun h => by omega⟩
  · refine ⟨_, cap, rfl, hn, fun _ => ⟨g, 0, rfl, (Array.getElem?_eq_some_iff.1 hg).1, fun o u ho => ?_⟩⟩
    have hlt : o < n * size := by have := (List.getElem?_eq_some_iff.1 ho).1; rw [h0.1] at this; exact this
    rw [Nat.zero_add, World.ownsRow.cellAt h0 o hlt]; exact ho
theorem own_form {W : World} {base e size : Nat} {a : Option Addr} {n cap : Nat} {xs : List Value} (h : W.ownsRow base e size (.slice a n cap) n xs) : (a = none ∧ n = 0 ∧ cap = 0) ∨ ∃ g, a = some ⟨g, 0, none⟩ ∧ base ≤ g ∧ g < W.heap.size ∧ n ≤ cap := by
  rcases h.2 with ⟨e, h0⟩ | ⟨g, c, cur, e, hb, hg, hn, _⟩
  · simp only [Value.slice.injEq] at e; exact .inl ⟨e.1, h0, e.2.2⟩
  · simp only [Value.slice.injEq] at e
    exact .inr ⟨g, e.1, hb, (Array.getElem?_eq_some_iff.1 hg).1, by omega⟩
/-- what is read of a slice that is appended to: its row holds it still -/
theorem rdc_append {W W' : World} {T sz : Nat} {mk : Nat → List Value} {base L K m c : Nat} {a : Option Addr} {u u' : Value} (hmk : Marks sz mk) (form : (a = none ∧ L = 0 ∧ c = 0) ∨ ∃ g, a = some ⟨g, 0, none⟩) (hv : RdC W (.slice a L c) L (rep mk L m)) (hK : L ≤ K)
    (hu : W'.ownsRow base T sz u' K (rep mk K m)) (hor : (u'.ownBlock = u.ownBlock ∧ W.grownBy W' u.ownBlock) ∨ (u'.ownBlock = some W.heap.size ∧ W.grownBy W' none)) : RdC W' (.slice a L c) L (rep mk L m) := by
  rcases form with ⟨rfl, rfl, rfl⟩ | ⟨g, rfl⟩
  · exact ⟨none, 0, rfl, Nat.le_refl _, fun h => by omega⟩
  · rcases hor with ⟨e, hg⟩ | ⟨_, hg⟩
    · by_cases hgu : some g = u.ownBlock
      · rcases hu.2 with ⟨e1, e2⟩ | ⟨g', cap, cur, rfl, _, hlt, hn, _⟩
        · obtain rfl : L = 0 := by omega
          subst e1
          rw [← hgu] at e
          cases e
        · rw [← hgu] at e
          have eg : g' = g := by simpa [Value.ownBlock] using e
          subst eg
          obtain ⟨a', cp, e3, hcp, _⟩ := hv
          simp only [Value.slice.injEq] at e3
          obtain ⟨_, _, rfl⟩ := e3
          refine ⟨_, c, rfl, hcp, fun _ => ⟨g', 0, rfl, (Array.getElem?_eq_some_iff.1 hlt).1, fun o v ho => ?_⟩⟩
          have ho' : o < L * sz := by have := (List.getElem?_eq_some_iff.1 ho).1; rwa [rep_length hmk] at this
          have hLK : L * sz ≤ K * sz := Nat.mul_le_mul_right sz hK
          rw [Nat.zero_add, World.ownsRow.cellAt hu o (by omega)]
          have hs := hmk.pos
          have e1 : o = (o / sz) * sz + o % sz := by rw [Nat.mul_comm]; exact (Nat.div_add_mod o sz).symm
          have h1 : o / sz < L := by rw [Nat.div_lt_iff_lt_mul hs]; exact ho'
          have h2 : o % sz < sz := Nat.mod_lt _ hs
          rw [e1, rep_get hmk L m _ _ h1 h2] at ho
          rw [e1, rep_get hmk K m _ _ (by omega) h2]
          exact ho
      · exact hv.keptr hg (.inr (by simpa [Value.ownBlock] using hgu))
    · exact hv.keptr hg (.inr (by simp [Value.ownBlock]))

section
variable (W0 w : World) (T sz : Nat) (mk : Nat → List Value) (base B h n N cap : Nat) (f : Nat → Value) (A : Nat → Option Addr) (L C M : Nat → Nat)
/-- the lists lie apart -/
structure QLies : Prop where
  base : base ≤ B
  up : B < h
  blk : ∀ j g, j < N → (Value.slice (A j) (L j) (C j)).ownBlock = some g → g ≠ B ∧ g ≠ h ∧ g < W0.heap.size
  dis : ∀ j k, j < N → k < N → j ≠ k → (Value.slice (A j) (L j) (C j)).ownBlock = none ∨ (Value.slice (A j) (L j) (C j)).ownBlock ≠ (Value.slice (A k) (L k) (C k)).ownBlock
  len : ∀ j, j < N → L j ≤ 2000000
  num : ∀ j, j < N → M j ≤ 99
  few : N ≤ 100000
/-- the blocks that the lists have, and that of the held ones -/
def QR (b : Nat) : Prop := b = h ∨ ∃ j, j < N ∧ (Value.slice (A j) (L j) (C j)).ownBlock = some b
end
section
variable {W0 w W : World} {T sz : Nat} {mk : Nat → List Value} {base B h n N cap i k : Nat} {f : Nat → Value} {A : Nat → Option Addr} {L C M : Nat → Nat}
end

section
variable (W0 w : World) (T sz : Nat) (mk : Nat → List Value) (base B h n N cap : Nat) (f : Nat → Value) (A : Nat → Option Addr) (L C M : Nat → Nat) (S0 : Nat)
def QBlkC (j : Nat) (u : Value) : Prop := ∀ g, u.ownBlock = some g → (Value.slice (A j) (L j) (C j)).ownBlock = some g ∨ S0 ≤ g
def QForms : Prop := ∀ j, j < N → (A j = none ∧ L j = 0 ∧ C j = 0) ∨ ∃ g, A j = some ⟨g, 0, none⟩
end
section
variable {W0 w W : World} {T sz : Nat} {mk : Nat → List Value} {base B h n N cap S0 S1 i k : Nat} {f : Nat → Value} {A : Nat → Option Addr} {L C M : Nat → Nat} {G : Nat → Value} {u : Value}
end
section
variable (W0 w : World) (mk : Nat → List Value) (base B h n N : Nat) (f : Nat → Value) (A : Nat → Option Addr) (L C M : Nat → Nat)
end
section
variable {W0 w W : World} {T sz : Nat} {mk : Nat → List Value} {base B h n N S0 : Nat} {f : Nat → Value} {A : Nat → Option Addr} {L C M : Nat → Nat} {G : Nat → Value}
end
section
variable {W0 w W W' : World} {T sz : Nat} {mk : Nat → List Value} {base B h n N i k S0 : Nat} {f : Nat → Value} {A : Nat → Option Addr} {L C M : Nat → Nat} {G : Nat → Value} {R : Nat → Prop}
/-- a row that no block of R holds stays -/
theorem kp_cells {W W' : World} {R : Nat → Prop} (h : Kp W W' R) {b : Nat} (hb : b < W.heap.size) (hn : ¬ R b) (o : Nat) : W'.cell? ⟨b, o, none⟩ = W.cell? ⟨b, o, none⟩ := World.cell?_of_block (h.2 b hb hn)
theorem kp_set (W : World) (B o : Nat) (u : Value) : W.grownBy (W.setCell ⟨B, o, none⟩ u) (some B) := ⟨rfl, rfl, rfl, by simp, fun k _ hk => heap_setCell_other W ⟨B, o, none⟩ k u (fun e => hk (by simp [e]))⟩
theorem kp_row {W W' : World} {R : Nat → Prop} (h : Kp W W' R) {base e size : Nat} {v : Value} {n : Nat} {xs : List Value} (ho : W.ownsRow base e size v n xs) (hn : ∀ g, v.ownBlock = some g → ¬ R g) : W'.ownsRow base e size v n xs := by
  refine ⟨ho.1, ?_⟩
  rcases ho.2 with h' | ⟨g, cap, cur, e1, hb, hg, hr⟩
  · exact .inl h'
  · refine .inr ⟨g, cap, cur, e1, hb, ?_, hr⟩
    rw [h.2 g (Array.getElem?_eq_some_iff.1 hg).1 (hn g (by rw [e1]; rfl))]
    exact hg
theorem kp_rdc {W W' : World} {R : Nat → Prop} (h : Kp W W' R) {v : Value} {n : Nat} {xs : List Value} (ho : RdC W v n xs) (hn : ∀ g, v.ownBlock = some g → ¬ R g) : RdC W' v n xs := by
  obtain ⟨a, cap, rfl, hc, h5⟩ := ho
  refine ⟨a, cap, rfl, hc, fun h0 => ?_⟩
  obtain ⟨b, off, rfl, hb, hcell⟩ := h5 h0
  exact ⟨b, off, rfl, Nat.lt_of_lt_of_le hb h.1, fun o u ho => (kp_cells h hb (hn b rfl) (off + o)).trans (hcell o u ho)⟩
theorem kp_at {W W' : World} {R : Nat → Prop} {V : Nat → Value} (h : Kp W W' R) {b N : Nat} {G : Nat → Value} {M : Nat → Nat} (H : QAt W b N V G M) (hn : ¬ R b) : QAt W' b N V G M := by
  have hlt := H.lt
  obtain ⟨⟨cur, e, e1⟩, H2⟩ := H
  refine ⟨⟨cur, e, (h.2 b hlt hn).trans e1⟩, fun j hj => ?_⟩
  have c := kp_cells h hlt hn
  rw [c, c, c]; exact H2 j hj
end
end Go.Proofs.Ytegfjndlkjfepaa
