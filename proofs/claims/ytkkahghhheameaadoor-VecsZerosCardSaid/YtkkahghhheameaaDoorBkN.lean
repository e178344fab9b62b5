/- A book of lists of any kind: filled, grown, looked at: what stays. -/
import Derived.Test.YtkkahghhheameaaDoorBq
import Derived.Deep.Draws
namespace Go.Proofs.YtkkahghhheameaaDoor
open Go Go.Proofs Go.RowKit Go.Shelf

/-- what the call may have turned: the blocks of R, and new ones -/
def Kp (W0 W : World) (R : Nat → Prop) : Prop := W0.heap.size ≤ W.heap.size ∧ ∀ b, b < W0.heap.size → ¬ R b → W.heap[b]? = W0.heap[b]?
section
variable {W0 W W' : World} {R : Nat → Prop}
theorem Kp.refl : Kp W W R := ⟨Nat.le_refl _, fun _ _ _ => rfl⟩
theorem Kp.grown {row : Option Nat} (h : Kp W0 W R) (hg : W.grownBy W' row) (hr : ∀ g, row = some g → R g ∨ W0.heap.size ≤ g) : Kp W0 W' R :=
  ⟨Nat.le_trans h.1 hg.size, fun b hb hn => (hg.block b (Nat.lt_of_lt_of_le hb h.1) (fun e => by rcases hr b e.symm with h' | h'; exact hn h'; omega)).trans (h.2 b hb hn)⟩
theorem Kp.alloc (h : Kp W0 W R) (o : Obj) : Kp W0 (W.alloc o) R := h.grown (World.grownBy_alloc W o none) (fun _ e => by cases e)
end
/-- cells that are read of a slice -/
def RdC (W : World) (v : Value) (n : Nat) (xs : List Value) : Prop := ∃ a cap, v = .slice a n cap ∧ n ≤ cap ∧ (0 < n → ∃ b off, a = some ⟨b, off, none⟩ ∧ b < W.heap.size ∧ ∀ o u, xs[o]? = some u → W.cell? ⟨b, off + o, none⟩ = some u)
theorem RdC.keptr {W W' : World} {v : Value} {n : Nat} {xs : List Value} {row : Option Nat} (h : RdC W v n xs) (hg : W.grownBy W' row) (hne : v.ownBlock = none ∨ v.ownBlock ≠ row) : RdC W' v n xs := by
  obtain ⟨a, cap, rfl, hc, h⟩ := h
  refine ⟨a, cap, rfl, hc, fun h0 => ?_⟩
  obtain ⟨b, off, rfl, hb, hcell⟩ := h h0
  have hbr : some b ≠ row := by
    rcases hne with h | h
    · simp [Value.ownBlock] at h
    · simpa [Value.ownBlock] using h
  exact ⟨b, off, rfl, Nat.lt_of_lt_of_le hb hg.size, fun o u ho => (World.cell?_of_block (w := W) (hg.block b hb hbr)).trans (hcell o u ho)⟩
theorem RdC.below {W W' : World} {v : Value} {n : Nat} {xs : List Value} (h : RdC W v n xs) (hb : Below W.heap.size W W') : RdC W' v n xs := by
  obtain ⟨a, cap, rfl, hc, h⟩ := h
  refine ⟨a, cap, rfl, hc, fun h0 => ?_⟩
  obtain ⟨b, off, rfl, hlt, hcell⟩ := h h0
  exact ⟨b, off, rfl, Nat.lt_of_lt_of_le hlt hb.size, fun o u ho => (hb.cell (p := ⟨b, off + o, none⟩) hlt).trans (hcell o u ho)⟩
theorem own_rdc {W : World} {base e size : Nat} {v : Value} {n : Nat} {xs : List Value} (h : W.ownsRow base e size v n xs) : RdC W v n xs := by
  have h0 := h
  rcases h.2 with ⟨rfl, rfl⟩ | ⟨g, cap, cur, rfl, _, hg, hn, _⟩
  · exact ⟨none, 0, rfl, Nat.le_refl _, fun h => by omega⟩
  · refine ⟨_, cap, rfl, hn, fun _ => ⟨g, 0, rfl, (Array.getElem?_eq_some_iff.1 hg).1, fun o u ho => ?_⟩⟩
    have hlt : o < n * size := by have := (List.getElem?_eq_some_iff.1 ho).1; rw [h0.1] at this; exact this
    rw [Nat.zero_add, World.ownsRow.cellAt h0 o hlt]; exact ho
theorem own_form {W : World} {base e size : Nat} {a : Option Addr} {n cap : Nat} {xs : List Value} (h : W.ownsRow base e size (.slice a n cap) n xs) : (a = none ∧ n = 0 ∧ cap = 0) ∨ ∃ g, a = some ⟨g, 0, none⟩ ∧ base ≤ g ∧ g < W.heap.size ∧ n ≤ cap := by
  rcases h.2 with ⟨e, h0⟩ | ⟨g, c, cur, e, hb, hg, hn, _⟩
  · simp only [Value.slice.injEq] at e; exact .inl ⟨e.1, h0, e.2.2⟩
  · simp only [Value.slice.injEq] at e
    exact .inr ⟨g, e.1, hb, (Array.getElem?_eq_some_iff.1 hg).1, by omega⟩
/-- what is read of a slice that is appended to: its row holds it still -/
theorem rdc_append {W W' : World} {T sz : Nat} {mk : Nat → List Value} {base L K m c : Nat} {a : Option Addr} {u u' : Value} (hmk : Marks sz mk) (form : (a = none ∧ L = 0 ∧ c = 0) ∨ ∃ g, a = some ⟨g, 0, none⟩) (hv : RdC W (.slice a L c) L (rep mk L m)) (hK : L ≤ K)
    (hu : W'.ownsRow base T sz u' K (rep mk K m)) (hor : (u'.ownBlock = u.ownBlock ∧ W.grownBy W' u.ownBlock) ∨ (u'.ownBlock = some W.heap.size ∧ W.grownBy W' none)) : RdC W' (.slice a L c) L (rep mk L m) := by
  rcases form with ⟨rfl, rfl, rfl⟩ | ⟨g, rfl⟩
  · exact ⟨none, 0, rfl, Nat.le_refl _, fun h => by omega⟩
  · rcases hor with ⟨e, hg⟩ | ⟨_, hg⟩
    · by_cases hgu : some g = u.ownBlock
      · rcases hu.2 with ⟨e1, e2⟩ | ⟨g', cap, cur, rfl, _, hlt, hn, _⟩
        · obtain rfl : L = 0 := by omega
          subst e1
          rw [← hgu] at e
          cases e
        · rw [← hgu] at e
          have eg : g' = g := by simpa [Value.ownBlock] using e
          subst eg
          obtain ⟨a', cp, e3, hcp, _⟩ := hv
          simp only [Value.slice.injEq] at e3
          obtain ⟨_, _, rfl⟩ := e3
          refine ⟨_, c, rfl, hcp, fun _ => ⟨g', 0, rfl, (Array.getElem?_eq_some_iff.1 hlt).1, fun o v ho => ?_⟩⟩
          have ho' : o < L * sz := by have := (List.getElem?_eq_some_iff.1 ho).1; rwa [rep_length hmk] at this
          have hLK : L * sz ≤ K * sz := Nat.mul_le_mul_right sz hK
          rw [Nat.zero_add, World.ownsRow.cellAt hu o (by omega)]
          have hs := hmk.pos
          have e1 : o = (o / sz) * sz + o % sz := by rw [Nat.mul_comm]; exact (Nat.div_add_mod o sz).symm
          have h1 : o / sz < L := by rw [Nat.div_lt_iff_lt_mul hs]; exact ho'
          have h2 : o % sz < sz := Nat.mod_lt _ hs
          rw [e1, rep_get hmk L m _ _ h1 h2] at ho
          rw [e1, rep_get hmk K m _ _ (by omega) h2]
          exact ho
      · exact hv.keptr hg (.inr (by simpa [Value.ownBlock] using hgu))
    · exact hv.keptr hg (.inr (by simp [Value.ownBlock]))

section
variable (W0 w : World) (T sz : Nat) (mk : Nat → List Value) (base B h n N cap : Nat) (f : Nat → Value) (A : Nat → Option Addr) (L C M : Nat → Nat)
/-- the lists lie apart -/
structure QLies : Prop where
  base : base ≤ B
  up : B < h
  blk : ∀ j g, j < N → (Value.slice (A j) (L j) (C j)).ownBlock = some g → g ≠ B ∧ g ≠ h ∧ g < W0.heap.size
  dis : ∀ j k, j < N → k < N → j ≠ k → (Value.slice (A j) (L j) (C j)).ownBlock = none ∨ (Value.slice (A j) (L j) (C j)).ownBlock ≠ (Value.slice (A k) (L k) (C k)).ownBlock
  len : ∀ j, j < N → L j ≤ 2000000
  num : ∀ j, j < N → M j ≤ 100000
  few : N ≤ 100000
/-- the blocks that the lists have, and that of the held ones -/
def QR (b : Nat) : Prop := b = h ∨ ∃ j, j < N ∧ (Value.slice (A j) (L j) (C j)).ownBlock = some b
/-- i of them are filled, and the next one up to k -/
def QFill (i k : Nat) (W : World) : Prop :=
  QBook W B n f ∧ QAt W h N (fun j => .slice (A j) (L j) (C j)) (fun _ => .slice none 0 0) M ∧ Below base w W ∧ Kp W0 W (QR h N A L C) ∧
  ∀ j, j < N → ∃ xs, W.ownsRow base T sz (.slice (A j) (L j) (C j)) (L j) xs ∧ (j < i → xs = rep mk (L j) (M j)) ∧ (j = i → xs.take (k * sz) = rep mk k (M j))
end
section
variable {W0 w W : World} {T sz : Nat} {mk : Nat → List Value} {base B h n N cap i k : Nat} {f : Nat → Value} {A : Nat → Option Addr} {L C M : Nat → Nat}
theorem QFill.alloc (D : QLies W0 base B h N A L C M) (F : QFill W0 w T sz mk base B h n N f A L C M i k W) (o : Obj) : QFill W0 w T sz mk base B h n N f A L C M i k (W.alloc o) := by
  obtain ⟨h1, h2, h3, hk, h4⟩ := F
  have hs : base ≤ W.heap.size := Nat.le_trans D.base (Nat.le_of_lt h1.lt)
  refine ⟨h1.alloc o, h2.kept (World.grownBy_alloc W o none) (by simp), h3.alloc hs o, hk.alloc o, fun j hj => ?_⟩
  obtain ⟨l, e, g⟩ := h4 j hj
  exact ⟨l, e.alloc o, g⟩
theorem QFill.on {W' : World} (D : QLies W0 base B h N A L C M) (F : QFill W0 w T sz mk base B h n N f A L C M i k W) (hg : W.grownBy W' none) : QFill W0 w T sz mk base B h n N f A L C M i k W' := by
  obtain ⟨h1, h2, h3, hk, h4⟩ := F
  have hs : base ≤ W.heap.size := Nat.le_trans D.base (Nat.le_of_lt h1.lt)
  refine ⟨h1.kept hg (by simp), h2.kept hg (by simp), h3.grown hg hs (fun _ e => by cases e), hk.grown hg (fun _ e => by cases e), fun j hj => ?_⟩
  obtain ⟨l, e, g⟩ := h4 j hj
  refine ⟨l, World.ownsRow.kept e hg ?_, g⟩
  cases hv : (Value.slice (A j) (L j) (C j)).ownBlock with
  | none => exact .inl rfl
  | some b => exact .inr (by simp)
theorem QFill.drew (F : QFill W0 w T sz mk base B h n N f A L C M i k W) : QFill W0 w T sz mk base B h n N f A L C M i k W.drew := ⟨F.1, F.2.1, F.2.2.1.drew, F.2.2.2.1, F.2.2.2.2⟩
theorem QFill.next (F : QFill W0 w T sz mk base B h n N f A L C M i (L i) W) : QFill W0 w T sz mk base B h n N f A L C M (i + 1) 0 W := by
  refine ⟨F.1, F.2.1, F.2.2.1, F.2.2.2.1, fun j hj => ?_⟩
  obtain ⟨l, e, g1, g2⟩ := F.2.2.2.2 j hj
  refine ⟨l, e, fun hji => ?_, fun _ => by simp [rep]⟩
  by_cases hj' : j = i
  · have := g2 hj'
    subst hj'
    rwa [List.take_of_length_le (by rw [e.1]; exact Nat.le_refl _)] at this
  · exact g1 (by omega)
theorem QFill.put (hmk : Marks sz mk) (D : QLies W0 base B h N A L C M) {g : Nat} (hA : A i = some ⟨g, 0, none⟩) (hi : i < N) (hk : k < L i) (F : QFill W0 w T sz mk base B h n N f A L C M i k W) : QFill W0 w T sz mk base B h n N f A L C M i (k + 1) (W.setCells g (k * sz) (mk (M i))) := by
  obtain ⟨h1, h2, h3, hkp, h4⟩ := F
  have eo : (Value.slice (A i) (L i) (C i)).ownBlock = some g := by rw [hA]; rfl
  have hgB := D.blk i g hi eo
  have hup := D.up
  obtain ⟨xi, ei, gi1, gi2⟩ := h4 i hi
  have hb : base ≤ g ∧ g < W.heap.size := World.ownsRow.lt ei g eo
  rw [hA] at ei
  obtain ⟨ei2, hgr⟩ := q_setCells (W := W) (mk (M i)) (k * sz) ei
  refine ⟨h1.kept hgr (by simp; omega), h2.kept hgr (by simp; omega), h3.grown hgr (by omega) (fun k e => by simp only [Option.some.injEq] at e; omega), hkp.grown hgr (fun b e => .inl (.inr ⟨i, hi, by rw [eo]; exact e⟩)), fun j hj => ?_⟩
  by_cases hji : j = i
  · subst hji
    refine ⟨_, by rw [hA]; exact ei2, fun hlt => absurd hlt (Nat.lt_irrefl _), fun _ => ?_⟩
    have hle : k * sz + (mk (M j)).length ≤ xi.length := by
      rw [hmk.len, ei.1, ← Nat.succ_mul]
      exact Nat.mul_le_mul_right sz hk
    have := setL'_take (mk (M j)) xi (k * sz) hle
    rw [hmk.len, ← Nat.succ_mul] at this
    rw [rep_succ, ← gi2 rfl]
    exact this
  · obtain ⟨l, e, g1, g2⟩ := h4 j hj
    refine ⟨l, World.ownsRow.kept e hgr ?_, g1, fun e2 => absurd e2 hji⟩
    rcases D.dis j i hj hi hji with h5 | h5
    · exact .inl h5
    · rw [eo] at h5; exact .inr h5
theorem QFill.form (F : QFill W0 w T sz mk base B h n N f A L C M i k W) (j : Nat) (hj : j < N) (h0 : 0 < L j) : ∃ g, A j = some ⟨g, 0, none⟩ ∧ g < W.heap.size ∧ L j ≤ C j ∧ (∀ o, o < L j * sz → ∃ x, W.cell? ⟨g, o, none⟩ = some x) ∧ ∀ o, W.frozen? ⟨g, o, none⟩ = false := by
  obtain ⟨l, e, _⟩ := F.2.2.2.2 j hj
  have e0 := e
  rcases own_form e with ⟨_, h1, _⟩ | ⟨g, ea, _, hlt, hn⟩
  · omega
  · rw [ea] at e0
    refine ⟨g, ea, hlt, hn, fun o ho => ⟨l[o]'(by rw [e.1]; exact ho), ?_⟩, fun o => World.ownsRow.frozenAt e0 o⟩
    rw [World.ownsRow.cellAt e0 o ho]
    exact List.getElem?_eq_getElem _
end

section
variable (W0 w : World) (T sz : Nat) (mk : Nat → List Value) (base B h n N cap : Nat) (f : Nat → Value) (A : Nat → Option Addr) (L C M : Nat → Nat) (S0 : Nat)
def QBlkC (j : Nat) (u : Value) : Prop := ∀ g, u.ownBlock = some g → (Value.slice (A j) (L j) (C j)).ownBlock = some g ∨ S0 ≤ g
def QForms : Prop := ∀ j, j < N → (A j = none ∧ L j = 0 ∧ C j = 0) ∨ ∃ g, A j = some ⟨g, 0, none⟩
/-- i of them are grown -/
def QGrowO (i : Nat) (W : World) : Prop :=
  ∃ G : Nat → Value, (∀ j, i ≤ j → G j = .slice none 0 0) ∧ QBook W B n f ∧ QAt W h N (fun j => .slice (A j) (L j) (C j)) G M ∧ Below base w W ∧ S0 ≤ W.heap.size ∧ Kp W0 W (QR h N A L C) ∧
    (∀ j, j < N → RdC W (.slice (A j) (L j) (C j)) (L j) (rep mk (L j) (M j))) ∧ (∀ j, j < N → i ≤ j → W.ownsRow base T sz (.slice (A j) (L j) (C j)) (L j) (rep mk (L j) (M j))) ∧
    ∀ j, j < N → j < i → W.ownsRow base T sz (G j) (L j + 40) (rep mk (L j + 40) (M j)) ∧ QBlkC A L C S0 j (G j)
/-- .. and the next one by k -/
def QGrowI (S1 : Nat) (G : Nat → Value) (i k : Nat) (u : Value) (W : World) : Prop :=
  (∀ j, i ≤ j → G j = .slice none 0 0) ∧ QBook W B n f ∧ QAt W h N (fun j => .slice (A j) (L j) (C j)) G M ∧ Below base w W ∧ S1 ≤ W.heap.size ∧ Kp W0 W (QR h N A L C) ∧
    (∀ j, j < N → RdC W (.slice (A j) (L j) (C j)) (L j) (rep mk (L j) (M j))) ∧ (∀ j, j < N → i < j → W.ownsRow base T sz (.slice (A j) (L j) (C j)) (L j) (rep mk (L j) (M j))) ∧
    (∀ j, j < N → j < i → W.ownsRow base T sz (G j) (L j + 40) (rep mk (L j + 40) (M j)) ∧ QBlkC A L C S0 j (G j) ∧ ∀ g, (G j).ownBlock = some g → g < S1) ∧
    W.ownsRow base T sz u (L i + k) (rep mk (L i + k) (M i)) ∧ QBlkC A L C S1 i u
end
section
variable {W0 w W : World} {T sz : Nat} {mk : Nat → List Value} {base B h n N cap S0 S1 i k : Nat} {f : Nat → Value} {A : Nat → Option Addr} {L C M : Nat → Nat} {G : Nat → Value} {u : Value}
theorem QGrowO.start (F : QFill W0 w T sz mk base B h n N f A L C M N 0 W) : QGrowO W0 w T sz mk base B h n N f A L C M W.heap.size 0 W := by
  refine ⟨fun _ => .slice none 0 0, fun _ _ => rfl, F.1, F.2.1, F.2.2.1, Nat.le_refl _, F.2.2.2.1, fun j hj => ?_, fun j hj _ => ?_, fun j _ hj => absurd hj (Nat.not_lt_zero _)⟩
  · obtain ⟨l, e, g, _⟩ := F.2.2.2.2 j hj
    have := own_rdc e
    rwa [g hj] at this
  · obtain ⟨l, e, g, _⟩ := F.2.2.2.2 j hj
    rwa [g hj] at e
theorem QFill.forms (F : QFill W0 w T sz mk base B h n N f A L C M i k W) : QForms N A L C := by
  intro j hj
  obtain ⟨l, e, _⟩ := F.2.2.2.2 j hj
  rcases own_form e with h | ⟨g, h, _⟩
  · exact .inl h
  · exact .inr ⟨g, h⟩
theorem QGrowO.inner (D : QLies W0 base B h N A L C M) (F : QGrowO W0 w T sz mk base B h n N f A L C M S0 i W) (hi : i < N) (o : Obj) :
    ∃ G, QGrowI W0 w T sz mk base B h n N f A L C M S0 (W.heap.size + 1) G i 0 (.slice (A i) (L i) (C i)) (W.alloc o) := by
  obtain ⟨G, h0, h1, h2, h3, h4, hkp, h5, h6, h7⟩ := F
  have hs : base ≤ W.heap.size := Nat.le_trans D.base (Nat.le_of_lt h1.lt)
  have hb : Below W.heap.size W (W.alloc o) := (Below.refl _ _).alloc (Nat.le_refl _) o
  refine ⟨G, h0, h1.alloc o, h2.kept (World.grownBy_alloc W o none) (by simp), h3.alloc hs o, by simp, hkp.alloc o, fun j hj => (h5 j hj).below hb, fun j hj hji => World.ownsRow.alloc (h6 j hj (by omega)) o, fun j hj hji => ?_, World.ownsRow.alloc (h6 i hi (Nat.le_refl _)) o, fun g e => .inl e⟩
  obtain ⟨f, c⟩ := h7 j hj hji
  exact ⟨World.ownsRow.alloc f o, c, fun g e => by have := (World.ownsRow.lt f g e).2; omega⟩
theorem QGrowI.on (D : QLies W0 base B h N A L C M) (F : QGrowI W0 w T sz mk base B h n N f A L C M S0 S1 G i k u W) {W' : World} (hg : W.grownBy W' none) : QGrowI W0 w T sz mk base B h n N f A L C M S0 S1 G i k u W' := by
  obtain ⟨h0, h1, h2, h3, h4, hkp, h5, h6, h7, h8, h9⟩ := F
  have hs : base ≤ W.heap.size := Nat.le_trans D.base (Nat.le_of_lt h1.lt)
  have hn : ∀ v : Value, v.ownBlock = none ∨ v.ownBlock ≠ none := fun v => by cases v.ownBlock with
    | none => exact .inl rfl
    | some b => exact .inr (by simp)
  refine ⟨h0, h1.kept hg (by simp), h2.kept hg (by simp), h3.grown hg hs (fun _ e => by cases e), Nat.le_trans h4 hg.size, hkp.grown hg (fun _ e => by cases e), fun j hj => (h5 j hj).keptr hg (hn _), fun j hj hji => World.ownsRow.kept (h6 j hj hji) hg (hn _), fun j hj hji => ?_, World.ownsRow.kept h8 hg (hn _), h9⟩
  obtain ⟨f, c, l⟩ := h7 j hj hji
  exact ⟨World.ownsRow.kept f hg (hn _), c, l⟩
theorem QGrowI.step {w3 : World} {u' : Value} {o : Obj} (hmk : Marks sz mk) (D : QLies W0 base B h N A L C M) (hf : QForms N A L C) (hi : i < N) (hS : S1 ≤ W.heap.size) (hhS : h < S0) (hSS : S0 ≤ S1) (hS0 : W0.heap.size ≤ S0) (F : QGrowI W0 w T sz mk base B h n N f A L C M S0 S1 G i k u W)
    (hown : w3.ownsRow base T sz u' (L i + k + 1) (rep mk (L i + k) (M i) ++ mk (M i)))
    (hor : (u'.ownBlock = u.ownBlock ∧ (W.alloc o).grownBy w3 u.ownBlock) ∨ (u'.ownBlock = some (W.alloc o).heap.size ∧ (W.alloc o).grownBy w3 none)) :
    QGrowI W0 w T sz mk base B h n N f A L C M S0 S1 G i (k + 1) u' w3 ∧ ∃ row, (W.alloc o).grownBy w3 row ∧ ∀ g, row = some g → (g ≠ B ∧ g ≠ h ∧ g < W0.heap.size) ∨ S1 ≤ g := by
  obtain ⟨h0, h1, h2, h3, h4, hkp, h5, h6, h7, h8, h9⟩ := F
  have hs : base ≤ W.heap.size := Nat.le_trans D.base (Nat.le_of_lt h1.lt)
  have hb : Below W.heap.size W (W.alloc o) := (Below.refl _ _).alloc (Nat.le_refl _) o
  have hup := D.up
  have hfu : w3.ownsRow base T sz u' (L i + (k + 1)) (rep mk (L i + (k + 1)) (M i)) := by
    rw [show L i + (k + 1) = (L i + k) + 1 by omega, rep_succ]
    exact hown
  obtain ⟨row, hrow, hr1, hr2⟩ : ∃ row, (W.alloc o).grownBy w3 row ∧ (row = none ∨ row = u.ownBlock) ∧ ∀ g, row = some g → (Value.slice (A i) (L i) (C i)).ownBlock = some g ∨ S1 ≤ g := by
    rcases hor with ⟨_, hg⟩ | ⟨_, hg⟩
    · exact ⟨_, hg, .inr rfl, fun g e => h9 g e⟩
    · exact ⟨none, hg, .inl rfl, fun g e => by cases e⟩
  have hlow : ∀ g, row = some g → (g ≠ B ∧ g ≠ h ∧ g < W0.heap.size) ∨ S1 ≤ g := fun g e => by
    rcases hr2 g e with h | h
    · exact .inl (D.blk i g hi h)
    · exact .inr h
  have hV : ∀ j, j < N → j ≠ i → (Value.slice (A j) (L j) (C j)).ownBlock = none ∨ (Value.slice (A j) (L j) (C j)).ownBlock ≠ row := by
    intro j hj hji
    cases hv : (Value.slice (A j) (L j) (C j)).ownBlock with
    | none => exact .inl rfl
    | some g =>
      refine .inr (fun e => ?_)
      have hgB := D.blk j g hj hv
      rcases hr2 g e.symm with h | h
      · rcases D.dis j i hj hi hji with h' | h'
        · rw [hv] at h'; cases h'
        · exact h' (hv.trans h.symm)
      · omega
  have hbB : some B ≠ row := fun e => by rcases hlow B e.symm with h | h <;> omega
  have hhB : some h ≠ row := fun e => by rcases hlow h e.symm with h | h <;> omega
  refine ⟨⟨h0, (h1.alloc o).kept hrow hbB, (h2.kept (World.grownBy_alloc W o none) (by simp)).kept hrow hhB, (h3.alloc hs o).grown hrow (by simp; omega) (fun g e => ?_), ?_, (hkp.alloc o).grown hrow (fun g e => ?_), fun j hj => ?_, fun j hj hji => ?_, fun j hj hji => ?_, hfu, fun g e => ?_⟩, row, hrow, hlow⟩
  · rcases hr1 with h | h
    · rw [h] at e; cases e
    · rw [h] at e; exact (World.ownsRow.lt h8 g e).1
  · have := hrow.size; simp at this; omega
  · rcases hr2 g e with h | h
    · exact .inl (.inr ⟨i, hi, h⟩)
    · exact .inr (by omega)
  · by_cases hji : j = i
    · subst hji
      exact rdc_append hmk (hf j hj) ((h5 j hj).below hb) (by omega) hfu hor
    · exact ((h5 j hj).below hb).keptr hrow (hV j hj hji)
  · exact World.ownsRow.kept (World.ownsRow.alloc (h6 j hj hji) o) hrow (hV j hj (by omega))
  · obtain ⟨f, c, l⟩ := h7 j hj hji
    refine ⟨World.ownsRow.kept (World.ownsRow.alloc f o) hrow ?_, c, l⟩
    cases hg : (G j).ownBlock with
    | none => exact .inl rfl
    | some g =>
      refine .inr (fun e => ?_)
      have hl := l g hg
      rcases hr2 g e.symm with h | h
      · rcases c g hg with h' | h'
        · rcases D.dis j i hj hi (by omega) with h'' | h''
          · rw [h'] at h''; cases h''
          · exact h'' (h'.trans h.symm)
        · have := D.blk i g hi h; omega
      · omega
  · rcases hor with ⟨e1, _⟩ | ⟨e1, _⟩
    · rw [e1] at e; exact h9 g e
    · rw [e1] at e
      simp only [World.size_alloc, Option.some.injEq] at e
      exact .inr (by omega)
theorem QGrowI.next (D : QLies W0 base B h N A L C M) (hi : i < N) (hhS : h < S0) (hSS : S0 ≤ S1) (F : QGrowI W0 w T sz mk base B h n N f A L C M S0 S1 G i 40 u W) :
    QGrowO W0 w T sz mk base B h n N f A L C M S0 (i + 1) (W.setCell ⟨h, i * 3 + 1, none⟩ u) := by
  obtain ⟨h0, h1, h2, h3, h4, hkp, h5, h6, h7, h8, h9⟩ := F
  have hup := D.up
  have hbb := D.base
  have hg : W.grownBy (W.setCell ⟨h, i * 3 + 1, none⟩ u) (some h) := ⟨rfl, rfl, rfl, by simp, fun k _ hk => heap_setCell_other W ⟨h, i * 3 + 1, none⟩ k u (fun e => hk (by simp [e]))⟩
  have off : ∀ j, j < N → (Value.slice (A j) (L j) (C j)).ownBlock = none ∨ (Value.slice (A j) (L j) (C j)).ownBlock ≠ some h := fun j hj => .inr (fun e => by have := D.blk j h hj e; omega)
  refine ⟨fun j => if j = i then u else G j, fun j hj => by show (if j = i then u else G j) = _; rw [if_neg (by omega)]; exact h0 j (by omega), h1.other (by omega) _, h2.put hi u, h3.setCell (p := ⟨h, i * 3 + 1, none⟩) (show base ≤ h by omega) _, by simp; omega, hkp.grown hg (fun g e => .inl (.inl (by simpa using e.symm))), fun j hj => (h5 j hj).keptr hg (off j hj), fun j hj hji => World.ownsRow.kept (h6 j hj (by omega)) hg (off j hj), fun j hj hji => ?_⟩
  by_cases e : j = i
  · subst e
    simp only [if_true]
    refine ⟨World.ownsRow.kept h8 hg (.inr fun e => ?_), fun g e => ?_⟩
    · rcases h9 h e with h' | h'
      · have := D.blk j h hj h'; omega
      · omega
    · rcases h9 g e with h' | h'
      · exact .inl h'
      · exact .inr (by omega)
  · simp only [if_neg e]
    obtain ⟨f, c, l⟩ := h7 j hj (by omega)
    refine ⟨World.ownsRow.kept f hg (.inr fun e => ?_), c⟩
    rcases c h e with h' | h'
    · have := D.blk j h hj h'; omega
    · omega
end
section
variable (W0 w : World) (mk : Nat → List Value) (base B h n N : Nat) (f : Nat → Value) (A : Nat → Option Addr) (L C M : Nat → Nat)
/-- what is looked at -/
def QLook (G : Nat → Value) (W : World) : Prop :=
  QBook W B n f ∧ QAt W h N (fun j => .slice (A j) (L j) (C j)) G M ∧ Below base w W ∧ base ≤ W.heap.size ∧ Kp W0 W (QR h N A L C) ∧ ∀ j, j < N → RdC W (.slice (A j) (L j) (C j)) (L j) (rep mk (L j) (M j)) ∧ RdC W (G j) (L j + 40) (rep mk (L j + 40) (M j))
end
section
variable {W0 w W : World} {T sz : Nat} {mk : Nat → List Value} {base B h n N S0 : Nat} {f : Nat → Value} {A : Nat → Option Addr} {L C M : Nat → Nat} {G : Nat → Value}
theorem QLook.of (D : QLies W0 base B h N A L C M) (F : QGrowO W0 w T sz mk base B h n N f A L C M S0 N W) : ∃ G, QLook W0 w mk base B h n N f A L C M G W := by
  obtain ⟨G, _, h1, h2, h3, h4, hkp, h5, _, h7⟩ := F
  have hs : base ≤ W.heap.size := Nat.le_trans D.base (Nat.le_of_lt h1.lt)
  exact ⟨G, h1, h2, h3, hs, hkp, fun j hj => ⟨h5 j hj, own_rdc (h7 j hj hj).1⟩⟩
theorem QLook.on {W' : World} (F : QLook W0 w mk base B h n N f A L C M G W) (hg : W.grownBy W' none) : QLook W0 w mk base B h n N f A L C M G W' := by
  obtain ⟨h1, h2, h3, h4, hkp, h5⟩ := F
  have hn : ∀ v : Value, v.ownBlock = none ∨ v.ownBlock ≠ none := fun v => by cases v.ownBlock with
    | none => exact .inl rfl
    | some b => exact .inr (by simp)
  exact ⟨h1.kept hg (by simp), h2.kept hg (by simp), h3.grown hg h4 (fun _ e => by cases e), Nat.le_trans h4 hg.size, hkp.grown hg (fun _ e => by cases e), fun j hj => ⟨(h5 j hj).1.keptr hg (hn _), (h5 j hj).2.keptr hg (hn _)⟩⟩
theorem QLook.alloc (F : QLook W0 w mk base B h n N f A L C M G W) (o : Obj) : QLook W0 w mk base B h n N f A L C M G (W.alloc o) := by
  obtain ⟨h1, h2, h3, h4, hkp, h5⟩ := F
  have hb : Below W.heap.size W (W.alloc o) := (Below.refl _ _).alloc (Nat.le_refl _) o
  exact ⟨h1.alloc o, h2.kept (World.grownBy_alloc W o none) (by simp), h3.alloc h4 o, by simp; omega, hkp.alloc o, fun j hj => ⟨(h5 j hj).1.below hb, (h5 j hj).2.below hb⟩⟩
theorem QLook.drewN (F : QLook W0 w mk base B h n N f A L C M G W) (m : Nat) : QLook W0 w mk base B h n N f A L C M G (W.drewN m) := by
  obtain ⟨h1, h2, h3, h4, hkp, h5⟩ := F
  exact ⟨h1, h2, ⟨h3.os, h3.tape, h3.output, h3.size, h3.block⟩, h4, hkp, h5⟩
end
section
variable {W0 w W W' : World} {T sz : Nat} {mk : Nat → List Value} {base B h n N i k S0 : Nat} {f : Nat → Value} {A : Nat → Option Addr} {L C M : Nat → Nat} {G : Nat → Value} {R : Nat → Prop}
/-- a row that no block of R holds stays -/
theorem kp_cells {W W' : World} {R : Nat → Prop} (h : Kp W W' R) {b : Nat} (hb : b < W.heap.size) (hn : ¬ R b) (o : Nat) : W'.cell? ⟨b, o, none⟩ = W.cell? ⟨b, o, none⟩ := World.cell?_of_block (h.2 b hb hn)
theorem kp_set (W : World) (B o : Nat) (u : Value) : W.grownBy (W.setCell ⟨B, o, none⟩ u) (some B) := ⟨rfl, rfl, rfl, by simp, fun k _ hk => heap_setCell_other W ⟨B, o, none⟩ k u (fun e => hk (by simp [e]))⟩
theorem kp_row {W W' : World} {R : Nat → Prop} (h : Kp W W' R) {base e size : Nat} {v : Value} {n : Nat} {xs : List Value} (ho : W.ownsRow base e size v n xs) (hn : ∀ g, v.ownBlock = some g → ¬ R g) : W'.ownsRow base e size v n xs := by
  refine ⟨ho.1, ?_⟩
  rcases ho.2 with h' | ⟨g, cap, cur, e1, hb, hg, hr⟩
  · exact .inl h'
  · refine .inr ⟨g, cap, cur, e1, hb, ?_, hr⟩
    rw [h.2 g (Array.getElem?_eq_some_iff.1 hg).1 (hn g (by rw [e1]; rfl))]
    exact hg
theorem kp_rdc {W W' : World} {R : Nat → Prop} (h : Kp W W' R) {v : Value} {n : Nat} {xs : List Value} (ho : RdC W v n xs) (hn : ∀ g, v.ownBlock = some g → ¬ R g) : RdC W' v n xs := by
  obtain ⟨a, cap, rfl, hc, h5⟩ := ho
  refine ⟨a, cap, rfl, hc, fun h0 => ?_⟩
  obtain ⟨b, off, rfl, hb, hcell⟩ := h5 h0
  exact ⟨b, off, rfl, Nat.lt_of_lt_of_le hb h.1, fun o u ho => (kp_cells h hb (hn b rfl) (off + o)).trans (hcell o u ho)⟩
theorem kp_at {W W' : World} {R : Nat → Prop} {V : Nat → Value} (h : Kp W W' R) {b N : Nat} {G : Nat → Value} {M : Nat → Nat} (H : QAt W b N V G M) (hn : ¬ R b) : QAt W' b N V G M := by
  have hlt := H.lt
  obtain ⟨⟨cur, e, e1⟩, H2⟩ := H
  refine ⟨⟨cur, e, (h.2 b hlt hn).trans e1⟩, fun j hj => ?_⟩
  have c := kp_cells h hlt hn
  rw [c, c, c]; exact H2 j hj
/-- what another kind's calls did leaves these lists alone -/
theorem QFill.far (F : QFill W0 w T sz mk base B h n N f A L C M i k W) (hk : Kp W W' R) (hB : QBook W' B n f) (hw : Below base w W') (hh : ¬ R h) (hA : ∀ j g, j < N → (Value.slice (A j) (L j) (C j)).ownBlock = some g → ¬ R g) : QFill W' w T sz mk base B h n N f A L C M i k W' := by
  obtain ⟨_, h2, _, _, h4⟩ := F
  refine ⟨hB, kp_at hk h2 hh, hw, Kp.refl, fun j hj => ?_⟩
  obtain ⟨xs, e, g1, g2⟩ := h4 j hj
  exact ⟨xs, kp_row hk e (fun g e => hA j g hj e), g1, g2⟩
theorem QGrowO.far (F : QGrowO W0 w T sz mk base B h n N f A L C M S0 i W) (hk : Kp W W' R) (hB : QBook W' B n f) (hw : Below base w W') (hh : ¬ R h) (hA : ∀ j g, j < N → (Value.slice (A j) (L j) (C j)).ownBlock = some g → ¬ R g) (hS : ∀ g, S0 ≤ g → g < W.heap.size → ¬ R g) : QGrowO W' w T sz mk base B h n N f A L C M S0 i W' := by
  obtain ⟨G, h0, _, h2, _, h4, _, h5, h6, h7⟩ := F
  refine ⟨G, h0, hB, kp_at hk h2 hh, hw, Nat.le_trans h4 hk.1, Kp.refl, fun j hj => kp_rdc hk (h5 j hj) (fun g e => hA j g hj e), fun j hj hji => kp_row hk (h6 j hj hji) (fun g e => hA j g hj e), fun j hj hji => ?_⟩
  obtain ⟨r, c⟩ := h7 j hj hji
  refine ⟨kp_row hk r (fun g e => ?_), c⟩
  rcases c g e with h' | h'
  · exact hA j g hj h'
  · exact hS g h' (World.ownsRow.lt r g e).2
theorem QLook.far {R : Nat → Prop} (F : QLook W0 w mk base B h n N f A L C M G W) (hk : Kp W W' R) (hB : QBook W' B n f) (hw : Below base w W') (hh : ¬ R h) (hA : ∀ j g, j < N → (Value.slice (A j) (L j) (C j)).ownBlock = some g → ¬ R g) (hG : ∀ j g, j < N → (G j).ownBlock = some g → ¬ R g) : QLook W' w mk base B h n N f A L C M G W' := by
  obtain ⟨_, h2, _, h4, _, h5⟩ := F
  exact ⟨hB, kp_at hk h2 hh, hw, Nat.le_trans h4 hk.1, Kp.refl, fun j hj => ⟨kp_rdc hk (h5 j hj).1 (fun g e => hA j g hj e), kp_rdc hk (h5 j hj).2 (fun g e => hG j g hj e)⟩⟩
end
end Go.Proofs.YtkkahghhheameaaDoor
