/- A book of lists whose marks hold memory of their own (fractions): filled, grown, looked at: what stays. -/
import Derived.Test.YtkkahghhheameaaDoorBkN
namespace Go.Proofs.YtkkahghhheameaaDoor
open Go Go.Proofs Go.RowKit Go.Shelf

/-- no block of parts of numbers is changed -/
def K32 (W W' : World) : Prop := ∀ (g : Nat) (cur : Array Value) (fr : Nat × Nat), W.heap[g]? = some (.cells cur 58 fr) → W'.heap[g]? = some (.cells cur 58 fr)
section
variable {W W' V : World}
theorem K32.refl : K32 W W := fun _ _ _ h => h
theorem K32.trans (h : K32 W W') (k : K32 W' V) : K32 W V := fun g c f e => k g c f (h g c f e)
theorem K32.alloc (W : World) (o : Obj) : K32 W (W.alloc o) := fun g _ _ e => (Below.heap_alloc W o g (Array.getElem?_eq_some_iff.1 e).1).trans e
theorem K32.grown {row : Option Nat} (hg : W.grownBy W' row) (hr : ∀ g, row = some g → ∃ cur u fr, W.heap[g]? = some (.cells cur u fr) ∧ u ≠ 58) : K32 W W' := by
  intro g cur fr e
  refine (hg.block g (Array.getElem?_eq_some_iff.1 e).1 fun e1 => ?_).trans e
  obtain ⟨c, u, f, e2, hu⟩ := hr g e1.symm
  rw [e2] at e
  cases e
  exact hu rfl
theorem K32.none (hg : W.grownBy W' none) : K32 W W' := K32.grown hg (fun _ e => by cases e)
theorem K32.own {base T sz n : Nat} {v : Value} {xs : List Value} (hT : T ≠ 58) (ho : W.ownsRow base T sz v n xs) (hg : W.grownBy W' v.ownBlock) : K32 W W' := K32.grown hg fun g e => by
  rcases ho.2 with ⟨rfl, _⟩ | ⟨g', cap, cur, rfl, _, hgb, _⟩
  · cases e
  · have e2 : g' = g := by simpa [Value.ownBlock] using e
    exact ⟨cur, T, _, e2 ▸ hgb, hT⟩
end
/-- marks that hang on the world -/
structure PMarks (sz : Nat) (PM : World → Nat → Nat → List Value → Prop) : Prop where
  pos : 0 < sz
  len : ∀ {W m n xs}, PM W m n xs → xs.length = n * sz
  nil : ∀ {W m}, PM W m 0 []
  snoc : ∀ {W m n xs cs}, PM W m n xs → PM W m 1 cs → PM W m (n + 1) (xs ++ cs)
  keep : ∀ {W W' m n xs}, PM W m n xs → K32 W W' → PM W' m n xs
section
variable (W0 w : World) (T HT sz : Nat) (PM : World → Nat → Nat → List Value → Prop) (base B h n N cap : Nat) (f : Nat → Value) (A : Nat → Option Addr) (L C M : Nat → Nat)
/-- the lists lie apart; any number of them -/
structure WLies : Prop where
  base : base ≤ B
  up : B < h
  blk : ∀ j g, j < N → (Value.slice (A j) (L j) (C j)).ownBlock = some g → g ≠ B ∧ g ≠ h ∧ g < W0.heap.size
  dis : ∀ j k, j < N → k < N → j ≠ k → (Value.slice (A j) (L j) (C j)).ownBlock = none ∨ (Value.slice (A j) (L j) (C j)).ownBlock ≠ (Value.slice (A k) (L k) (C k)).ownBlock
  len : ∀ j, j < N → L j ≤ 2000000
  num : ∀ j, j < N → M j ≤ 100000
  few : N ≤ 100000
/-- the block of the held ones is of their type -/
def HTag (W : World) : Prop := ∃ cur, W.heap[h]? = some (.cells cur HT (0, 0))
/-- i of them are filled, and the next one up to k -/
def WFill (i k : Nat) (W : World) : Prop :=
  QBook W B n f ∧ QAt W h N (fun j => .slice (A j) (L j) (C j)) (fun _ => .slice none 0 0) M ∧ Below base w W ∧ Kp W0 W (QR h N A L C) ∧ HTag HT h W ∧
  ∀ j, j < N → ∃ xs, W.ownsRow base T sz (.slice (A j) (L j) (C j)) (L j) xs ∧ (j < i → PM W (M j) (L j) xs) ∧ (j = i → PM W (M j) k (xs.take (k * sz)))
end
section
variable {W0 w W W' : World} {T HT sz : Nat} {PM : World → Nat → Nat → List Value → Prop} {base B h n N cap i k : Nat} {f : Nat → Value} {A : Nat → Option Addr} {L C M : Nat → Nat}
theorem HTag.kept {row : Option Nat} (H : HTag HT h W) (hg : W.grownBy W' row) (hr : some h ≠ row) : HTag HT h W' := by
  obtain ⟨cur, e⟩ := H
  exact ⟨cur, (hg.block h (Array.getElem?_eq_some_iff.1 e).1 hr).trans e⟩
theorem own_none {v : Value} : v.ownBlock = none ∨ v.ownBlock ≠ none := by
  cases v.ownBlock with
  | none => exact .inl rfl
  | some b => exact .inr (by simp)
theorem WFill.on (K : PMarks sz PM) (D : WLies W0 base B h N A L C M) (F : WFill W0 w T HT sz PM base B h n N f A L C M i k W) (hg : W.grownBy W' none) : WFill W0 w T HT sz PM base B h n N f A L C M i k W' := by
  obtain ⟨h1, h2, h3, hk, ht, h4⟩ := F
  have hs : base ≤ W.heap.size := Nat.le_trans D.base (Nat.le_of_lt h1.lt)
  have k32 := K32.none hg
  refine ⟨h1.kept hg (by simp), h2.kept hg (by simp), h3.grown hg hs (fun _ e => by cases e), hk.grown hg (fun _ e => by cases e), ht.kept hg (by simp), fun j hj => ?_⟩
  obtain ⟨l, e, g1, g2⟩ := h4 j hj
  exact ⟨l, World.ownsRow.kept e hg own_none, fun x => K.keep (g1 x) k32, fun x => K.keep (g2 x) k32⟩
theorem WFill.alloc (K : PMarks sz PM) (D : WLies W0 base B h N A L C M) (F : WFill W0 w T HT sz PM base B h n N f A L C M i k W) (o : Obj) : WFill W0 w T HT sz PM base B h n N f A L C M i k (W.alloc o) := F.on K D (World.grownBy_alloc W o none)
theorem WFill.next (K : PMarks sz PM) (F : WFill W0 w T HT sz PM base B h n N f A L C M i (L i) W) : WFill W0 w T HT sz PM base B h n N f A L C M (i + 1) 0 W := by
  refine ⟨F.1, F.2.1, F.2.2.1, F.2.2.2.1, F.2.2.2.2.1, fun j hj => ?_⟩
  obtain ⟨l, e, g1, g2⟩ := F.2.2.2.2.2 j hj
  refine ⟨l, e, fun hji => ?_, fun _ => by rw [Nat.zero_mul, List.take_zero]; exact K.nil⟩
  by_cases hj' : j = i
  · have := g2 hj'
    subst hj'
    rwa [List.take_of_length_le (by rw [e.1]; exact Nat.le_refl _)] at this
  · exact g1 (by omega)
theorem WFill.put (K : PMarks sz PM) (hT : T ≠ 58) (D : WLies W0 base B h N A L C M) {g : Nat} (hA : A i = some ⟨g, 0, none⟩) (hi : i < N) (hk : k < L i) {cs : List Value} (hcs : PM W (M i) 1 cs) (F : WFill W0 w T HT sz PM base B h n N f A L C M i k W) :
    WFill W0 w T HT sz PM base B h n N f A L C M i (k + 1) (W.setCells g (k * sz) cs) := by
  obtain ⟨h1, h2, h3, hkp, ht, h4⟩ := F
  have eo : (Value.slice (A i) (L i) (C i)).ownBlock = some g := by rw [hA]; rfl
  have hgB := D.blk i g hi eo
  have hup := D.up
  obtain ⟨xi, ei, gi1, gi2⟩ := h4 i hi
  have hb : base ≤ g ∧ g < W.heap.size := World.ownsRow.lt ei g eo
  have ei0 := ei
  rw [hA] at ei
  obtain ⟨ei2, hgr⟩ := q_setCells (W := W) cs (k * sz) ei
  have k32 : K32 W (W.setCells g (k * sz) cs) := K32.own hT ei (by rw [show (Value.slice (some ⟨g, 0, none⟩) (L i) (C i)).ownBlock = some g from rfl]; exact hgr)
  have hlc := K.len hcs
  rw [Nat.one_mul] at hlc
  refine ⟨h1.kept hgr (by simp; omega), h2.kept hgr (by simp; omega), h3.grown hgr (by omega) (fun k e => by simp only [Option.some.injEq] at e; omega), hkp.grown hgr (fun b e => .inl (.inr ⟨i, hi, by rw [eo]; exact e⟩)), ht.kept hgr (by simp; omega), fun j hj => ?_⟩
  by_cases hji : j = i
  · subst hji
    refine ⟨_, by rw [hA]; exact ei2, fun hlt => absurd hlt (Nat.lt_irrefl _), fun _ => ?_⟩
    have hle : k * sz + cs.length ≤ xi.length := by
      rw [hlc, ei.1, ← Nat.succ_mul]
      exact Nat.mul_le_mul_right sz hk
    have := setL'_take cs xi (k * sz) hle
    rw [hlc, ← Nat.succ_mul] at this
    rw [this]
    exact K.keep (K.snoc (gi2 rfl) hcs) k32
  · obtain ⟨l, e, g1, g2⟩ := h4 j hj
    refine ⟨l, World.ownsRow.kept e hgr ?_, fun x => K.keep (g1 x) k32, fun e2 => absurd e2 hji⟩
    rcases D.dis j i hj hi hji with h5 | h5
    · exact .inl h5
    · rw [eo] at h5; exact .inr h5
theorem WFill.form (F : WFill W0 w T HT sz PM base B h n N f A L C M i k W) (j : Nat) (hj : j < N) (h0 : 0 < L j) : ∃ g, A j = some ⟨g, 0, none⟩ ∧ g < W.heap.size ∧ L j ≤ C j ∧ (∀ o, o < L j * sz → ∃ x, W.cell? ⟨g, o, none⟩ = some x) ∧ ∀ o, W.frozen? ⟨g, o, none⟩ = false := by
  obtain ⟨l, e, _⟩ := F.2.2.2.2.2 j hj
  have e0 := e
  rcases own_form e with ⟨_, h1, _⟩ | ⟨g, ea, _, hlt, hn⟩
  · omega
  · rw [ea] at e0
    refine ⟨g, ea, hlt, hn, fun o ho => ⟨l[o]'(by rw [e.1]; exact ho), ?_⟩, fun o => World.ownsRow.frozenAt e0 o⟩
    rw [World.ownsRow.cellAt e0 o ho]
    exact List.getElem?_eq_getElem _
theorem WFill.forms (F : WFill W0 w T HT sz PM base B h n N f A L C M i k W) : QForms N A L C := by
  intro j hj
  obtain ⟨l, e, _⟩ := F.2.2.2.2.2 j hj
  rcases own_form e with h | ⟨g, h, _⟩
  · exact .inl h
  · exact .inr ⟨g, h⟩
end
section
variable (W0 w : World) (T HT sz : Nat) (PM : World → Nat → Nat → List Value → Prop) (base B h n N cap : Nat) (f : Nat → Value) (A : Nat → Option Addr) (L C M : Nat → Nat) (S0 : Nat)
/-- i of them are grown; X: what lies in the lists, Y: in the longer ones -/
def WGrowO (i : Nat) (W : World) : Prop :=
  ∃ (G : Nat → Value) (X Y : Nat → List Value), (∀ j, i ≤ j → G j = .slice none 0 0) ∧ QBook W B n f ∧ QAt W h N (fun j => .slice (A j) (L j) (C j)) G M ∧ Below base w W ∧ S0 ≤ W.heap.size ∧ Kp W0 W (QR h N A L C) ∧ HTag HT h W ∧
    (∀ j, j < N → RdC W (.slice (A j) (L j) (C j)) (L j) (X j) ∧ PM W (M j) (L j) (X j)) ∧ (∀ j, j < N → i ≤ j → W.ownsRow base T sz (.slice (A j) (L j) (C j)) (L j) (X j)) ∧
    ∀ j, j < N → j < i → W.ownsRow base T sz (G j) (L j + 40) (Y j) ∧ PM W (M j) (L j + 40) (Y j) ∧ QBlkC A L C S0 j (G j)
/-- .. and the next one by k: it is u, and holds U -/
def WGrowI (S1 : Nat) (G : Nat → Value) (X Y : Nat → List Value) (i k : Nat) (u : Value) (U : List Value) (W : World) : Prop :=
  (∀ j, i ≤ j → G j = .slice none 0 0) ∧ QBook W B n f ∧ QAt W h N (fun j => .slice (A j) (L j) (C j)) G M ∧ Below base w W ∧ S1 ≤ W.heap.size ∧ Kp W0 W (QR h N A L C) ∧ HTag HT h W ∧
    (∀ j, j < N → RdC W (.slice (A j) (L j) (C j)) (L j) (X j) ∧ PM W (M j) (L j) (X j)) ∧ (∀ j, j < N → i < j → W.ownsRow base T sz (.slice (A j) (L j) (C j)) (L j) (X j)) ∧
    (∀ j, j < N → j < i → W.ownsRow base T sz (G j) (L j + 40) (Y j) ∧ PM W (M j) (L j + 40) (Y j) ∧ QBlkC A L C S0 j (G j) ∧ ∀ g, (G j).ownBlock = some g → g < S1) ∧
    W.ownsRow base T sz u (L i + k) U ∧ PM W (M i) (L i + k) U ∧ (∃ Z, U = X i ++ Z) ∧ QBlkC A L C S1 i u
/-- what is looked at -/
def WLook (G : Nat → Value) (X Y : Nat → List Value) (W : World) : Prop :=
  QBook W B n f ∧ QAt W h N (fun j => .slice (A j) (L j) (C j)) G M ∧ Below base w W ∧ base ≤ W.heap.size ∧ Kp W0 W (QR h N A L C) ∧ ∀ j, j < N → (RdC W (.slice (A j) (L j) (C j)) (L j) (X j) ∧ PM W (M j) (L j) (X j)) ∧ RdC W (G j) (L j + 40) (Y j) ∧ PM W (M j) (L j + 40) (Y j)
end
/-- what is read of a slice that is appended to: its row holds it still -/
theorem rdw_append {W W' : World} {T sz : Nat} {base L K c : Nat} {X Z : List Value} {a : Option Addr} {u u' : Value} (form : (a = none ∧ L = 0 ∧ c = 0) ∨ ∃ g, a = some ⟨g, 0, none⟩) (hX : X.length = L * sz) (hv : RdC W (.slice a L c) L X) (hK : L ≤ K)
    (hu : W'.ownsRow base T sz u' K (X ++ Z)) (hor : (u'.ownBlock = u.ownBlock ∧ W.grownBy W' u.ownBlock) ∨ (u'.ownBlock = some W.heap.size ∧ W.grownBy W' none)) : RdC W' (.slice a L c) L X := by
  rcases form with ⟨rfl, rfl, rfl⟩ | ⟨g, rfl⟩
  · exact ⟨none, 0, rfl, Nat.le_refl _, fun h => by omega⟩
  · rcases hor with ⟨e, hg⟩ | ⟨_, hg⟩
    · by_cases hgu : some g = u.ownBlock
      · rcases hu.2 with ⟨e1, e2⟩ | ⟨g', cap, cur, rfl, _, hlt, hn, _⟩
        · obtain rfl : L = 0 := by omega
          subst e1
          rw [← hgu] at e
          cases e
        · rw [← hgu] at e
          have eg : g' = g := by simpa [Value.ownBlock] using e
          subst eg
          obtain ⟨a', cp, e3, hcp, _⟩ := hv
          simp only [Value.slice.injEq] at e3
          obtain ⟨_, _, rfl⟩ := e3
          refine ⟨_, c, rfl, hcp, fun _ => ⟨g', 0, rfl, (Array.getElem?_eq_some_iff.1 hlt).1, fun o v ho => ?_⟩⟩
          have ho' : o < L * sz := by have := (List.getElem?_eq_some_iff.1 ho).1; rwa [hX] at this
          have hLK : L * sz ≤ K * sz := Nat.mul_le_mul_right sz hK
          rw [Nat.zero_add, World.ownsRow.cellAt hu o (by omega), List.getElem?_append_left (by omega)]
          exact ho
      · exact hv.keptr hg (.inr (by simpa [Value.ownBlock] using hgu))
    · exact hv.keptr hg (.inr (by simp [Value.ownBlock]))
section
variable {W0 w W W' : World} {T HT sz : Nat} {PM : World → Nat → Nat → List Value → Prop} {base B h n N cap S0 S1 i k : Nat} {f : Nat → Value} {A : Nat → Option Addr} {L C M : Nat → Nat} {G : Nat → Value} {X Y : Nat → List Value} {u : Value} {U : List Value}
theorem WGrowO.start (F : WFill W0 w T HT sz PM base B h n N f A L C M N 0 W) : WGrowO W0 w T HT sz PM base B h n N f A L C M W.heap.size 0 W := by
  have hx : ∀ j, ∃ xs : List Value, j < N → W.ownsRow base T sz (.slice (A j) (L j) (C j)) (L j) xs ∧ PM W (M j) (L j) xs := fun j => by
    by_cases hj : j < N
    · obtain ⟨l, e, g, _⟩ := F.2.2.2.2.2 j hj
      exact ⟨l, fun _ => ⟨e, g hj⟩⟩
    · exact ⟨[], fun h => absurd h hj⟩
  refine ⟨fun _ => .slice none 0 0, fun j => Classical.choose (hx j), fun _ => [], fun _ _ => rfl, F.1, F.2.1, F.2.2.1, Nat.le_refl _, F.2.2.2.1, F.2.2.2.2.1, fun j hj => ?_, fun j hj _ => ?_, fun j _ hj => absurd hj (Nat.not_lt_zero _)⟩
  · have := Classical.choose_spec (hx j) hj
    exact ⟨own_rdc this.1, this.2⟩
  · exact (Classical.choose_spec (hx j) hj).1
theorem WGrowO.inner (K : PMarks sz PM) (D : WLies W0 base B h N A L C M) (F : WGrowO W0 w T HT sz PM base B h n N f A L C M S0 i W) (hi : i < N) (o : Obj) :
    ∃ G X Y, WGrowI W0 w T HT sz PM base B h n N f A L C M S0 (W.heap.size + 1) G X Y i 0 (.slice (A i) (L i) (C i)) (X i) (W.alloc o) := by
  obtain ⟨G, X, Y, h0, h1, h2, h3, h4, hkp, ht, h5, h6, h7⟩ := F
  have hs : base ≤ W.heap.size := Nat.le_trans D.base (Nat.le_of_lt h1.lt)
  have hb : Below W.heap.size W (W.alloc o) := (Below.refl _ _).alloc (Nat.le_refl _) o
  have k32 := K32.alloc W o
  refine ⟨G, X, Y, h0, h1.alloc o, h2.kept (World.grownBy_alloc W o none) (by simp), h3.alloc hs o, by simp, hkp.alloc o, ht.kept (World.grownBy_alloc W o none) (by simp), fun j hj => ⟨(h5 j hj).1.below hb, K.keep (h5 j hj).2 k32⟩, fun j hj hji => World.ownsRow.alloc (h6 j hj (by omega)) o, fun j hj hji => ?_, World.ownsRow.alloc (h6 i hi (Nat.le_refl _)) o, K.keep (h5 i hi).2 k32, ⟨[], by simp⟩, fun g e => .inl e⟩
  obtain ⟨f, p, c⟩ := h7 j hj hji
  exact ⟨World.ownsRow.alloc f o, K.keep p k32, c, fun g e => by have := (World.ownsRow.lt f g e).2; omega⟩
theorem WGrowI.on (K : PMarks sz PM) (D : WLies W0 base B h N A L C M) (F : WGrowI W0 w T HT sz PM base B h n N f A L C M S0 S1 G X Y i k u U W) (hg : W.grownBy W' none) : WGrowI W0 w T HT sz PM base B h n N f A L C M S0 S1 G X Y i k u U W' := by
  obtain ⟨h0, h1, h2, h3, h4, hkp, ht, h5, h6, h7, h8, hp, hz, h9⟩ := F
  have hs : base ≤ W.heap.size := Nat.le_trans D.base (Nat.le_of_lt h1.lt)
  have k32 := K32.none hg
  refine ⟨h0, h1.kept hg (by simp), h2.kept hg (by simp), h3.grown hg hs (fun _ e => by cases e), Nat.le_trans h4 hg.size, hkp.grown hg (fun _ e => by cases e), ht.kept hg (by simp), fun j hj => ⟨(h5 j hj).1.keptr hg own_none, K.keep (h5 j hj).2 k32⟩, fun j hj hji => World.ownsRow.kept (h6 j hj hji) hg own_none, fun j hj hji => ?_, World.ownsRow.kept h8 hg own_none, K.keep hp k32, hz, h9⟩
  obtain ⟨f, p, c, l⟩ := h7 j hj hji
  exact ⟨World.ownsRow.kept f hg own_none, K.keep p k32, c, l⟩
theorem WGrowI.step (K : PMarks sz PM) (hT : T ≠ 58) {w3 : World} {u' : Value} {o : Obj} {cs : List Value} (hcs : PM W (M i) 1 cs) (D : WLies W0 base B h N A L C M) (hf : QForms N A L C) (hi : i < N) (hS : S1 ≤ W.heap.size) (hhS : h < S0) (hSS : S0 ≤ S1) (hS0 : W0.heap.size ≤ S0) (F : WGrowI W0 w T HT sz PM base B h n N f A L C M S0 S1 G X Y i k u U W)
    (hown : w3.ownsRow base T sz u' (L i + k + 1) (U ++ cs))
    (hor : (u'.ownBlock = u.ownBlock ∧ (W.alloc o).grownBy w3 u.ownBlock) ∨ (u'.ownBlock = some (W.alloc o).heap.size ∧ (W.alloc o).grownBy w3 none)) :
    WGrowI W0 w T HT sz PM base B h n N f A L C M S0 S1 G X Y i (k + 1) u' (U ++ cs) w3 ∧ ∃ row, (W.alloc o).grownBy w3 row ∧ ∀ g, row = some g → (g ≠ B ∧ g ≠ h ∧ g < W0.heap.size) ∨ S1 ≤ g := by
  obtain ⟨h0, h1, h2, h3, h4, hkp, ht, h5, h6, h7, h8, hp, hz, h9⟩ := F
  have hs : base ≤ W.heap.size := Nat.le_trans D.base (Nat.le_of_lt h1.lt)
  have hb : Below W.heap.size W (W.alloc o) := (Below.refl _ _).alloc (Nat.le_refl _) o
  have hup := D.up
  have k32 : K32 W w3 := (K32.alloc W o).trans (by
    rcases hor with ⟨_, hg⟩ | ⟨_, hg⟩
    · exact K32.own hT (World.ownsRow.alloc h8 o) hg
    · exact K32.none hg)
  obtain ⟨row, hrow, hr1, hr2⟩ : ∃ row, (W.alloc o).grownBy w3 row ∧ (row = none ∨ row = u.ownBlock) ∧ ∀ g, row = some g → (Value.slice (A i) (L i) (C i)).ownBlock = some g ∨ S1 ≤ g := by
    rcases hor with ⟨_, hg⟩ | ⟨_, hg⟩
    · exact ⟨_, hg, .inr rfl, fun g e => h9 g e⟩
    · exact ⟨none, hg, .inl rfl, fun g e => by cases e⟩
  have hlow : ∀ g, row = some g → (g ≠ B ∧ g ≠ h ∧ g < W0.heap.size) ∨ S1 ≤ g := fun g e => by
    rcases hr2 g e with h | h
    · exact .inl (D.blk i g hi h)
    · exact .inr h
  have hV : ∀ j, j < N → j ≠ i → (Value.slice (A j) (L j) (C j)).ownBlock = none ∨ (Value.slice (A j) (L j) (C j)).ownBlock ≠ row := by
    intro j hj hji
    cases hv : (Value.slice (A j) (L j) (C j)).ownBlock with
    | none => exact .inl rfl
    | some g =>
      refine .inr (fun e => ?_)
      have hgB := D.blk j g hj hv
      rcases hr2 g e.symm with h | h
      · rcases D.dis j i hj hi hji with h' | h'
        · rw [hv] at h'; cases h'
        · exact h' (hv.trans h.symm)
      · omega
  have hbB : some B ≠ row := fun e => by rcases hlow B e.symm with h | h <;> omega
  have hhB : some h ≠ row := fun e => by rcases hlow h e.symm with h | h <;> omega
  refine ⟨⟨h0, (h1.alloc o).kept hrow hbB, (h2.kept (World.grownBy_alloc W o none) (by simp)).kept hrow hhB, (h3.alloc hs o).grown hrow (by simp; omega) (fun g e => ?_), ?_, (hkp.alloc o).grown hrow (fun g e => ?_), (ht.kept (World.grownBy_alloc W o none) (by simp)).kept hrow hhB, fun j hj => ⟨?_, K.keep (h5 j hj).2 k32⟩, fun j hj hji => ?_, fun j hj hji => ?_, by rw [show L i + (k + 1) = L i + k + 1 by omega]; exact hown, by rw [show L i + (k + 1) = L i + k + 1 by omega]; exact K.keep (K.snoc hp hcs) k32, ?_, fun g e => ?_⟩, row, hrow, hlow⟩
  · rcases hr1 with h | h
    · rw [h] at e; cases e
    · rw [h] at e; exact (World.ownsRow.lt h8 g e).1
  · have := hrow.size; simp at this; omega
  · rcases hr2 g e with h | h
    · exact .inl (.inr ⟨i, hi, h⟩)
    · exact .inr (by omega)
  · by_cases hji : j = i
    · subst hji
      obtain ⟨Z, rfl⟩ := hz
      rw [List.append_assoc] at hown
      exact rdw_append (hf j hj) (K.len (h5 j hj).2) ((h5 j hj).1.below hb) (by omega) hown hor
    · exact ((h5 j hj).1.below hb).keptr hrow (hV j hj hji)
  · exact World.ownsRow.kept (World.ownsRow.alloc (h6 j hj hji) o) hrow (hV j hj (by omega))
  · obtain ⟨f, p, c, l⟩ := h7 j hj hji
    refine ⟨World.ownsRow.kept (World.ownsRow.alloc f o) hrow ?_, K.keep p k32, c, l⟩
    cases hg : (G j).ownBlock with
    | none => exact .inl rfl
    | some g =>
      refine .inr (fun e => ?_)
      have hl := l g hg
      rcases hr2 g e.symm with h | h
      · rcases c g hg with h' | h'
        · rcases D.dis j i hj hi (by omega) with h'' | h''
          · rw [h'] at h''; cases h''
          · exact h'' (h'.trans h.symm)
        · have := D.blk i g hi h; omega
      · omega
  · obtain ⟨Z, rfl⟩ := hz
    exact ⟨Z ++ cs, List.append_assoc ..⟩
  · rcases hor with ⟨e1, _⟩ | ⟨e1, _⟩
    · rw [e1] at e; exact h9 g e
    · rw [e1] at e
      simp only [World.size_alloc, Option.some.injEq] at e
      exact .inr (by omega)
theorem WGrowI.next (K : PMarks sz PM) (hHT : HT ≠ 58) (D : WLies W0 base B h N A L C M) (hi : i < N) (hhS : h < S0) (hSS : S0 ≤ S1) (F : WGrowI W0 w T HT sz PM base B h n N f A L C M S0 S1 G X Y i 40 u U W) :
    WGrowO W0 w T HT sz PM base B h n N f A L C M S0 (i + 1) (W.setCell ⟨h, i * 3 + 1, none⟩ u) := by
  obtain ⟨h0, h1, h2, h3, h4, hkp, ht, h5, h6, h7, h8, hp, hz, h9⟩ := F
  have hup := D.up
  have hbb := D.base
  have hg : W.grownBy (W.setCell ⟨h, i * 3 + 1, none⟩ u) (some h) := kp_set W h (i * 3 + 1) u
  obtain ⟨cur, hcur⟩ := ht
  have k32 : K32 W (W.setCell ⟨h, i * 3 + 1, none⟩ u) := K32.grown hg (fun g e => by cases e; exact ⟨cur, HT, _, hcur, hHT⟩)
  have off : ∀ j, j < N → (Value.slice (A j) (L j) (C j)).ownBlock = none ∨ (Value.slice (A j) (L j) (C j)).ownBlock ≠ some h := fun j hj => .inr (fun e => by have := D.blk j h hj e; omega)
  refine ⟨fun j => if j = i then u else G j, X, fun j => if j = i then U else Y j, fun j hj => by show (if j = i then u else G j) = _; rw [if_neg (by omega)]; exact h0 j (by omega), h1.other (by omega) _, h2.put hi u, h3.setCell (p := ⟨h, i * 3 + 1, none⟩) (show base ≤ h by omega) _, by simp; omega, hkp.grown hg (fun g e => .inl (.inl (by simpa using e.symm))), ⟨_, heap_setCell_same W h (i * 3 + 1) cur HT u hcur⟩, fun j hj => ⟨(h5 j hj).1.keptr hg (off j hj), K.keep (h5 j hj).2 k32⟩, fun j hj hji => World.ownsRow.kept (h6 j hj (by omega)) hg (off j hj), fun j hj hji => ?_⟩
  by_cases e : j = i
  · subst e
    simp only [if_true]
    refine ⟨World.ownsRow.kept h8 hg (.inr fun e => ?_), K.keep hp k32, fun g e => ?_⟩
    · rcases h9 h e with h' | h'
      · have := D.blk j h hj h'; omega
      · omega
    · rcases h9 g e with h' | h'
      · exact .inl h'
      · exact .inr (by omega)
  · simp only [if_neg e]
    obtain ⟨f, p, c, l⟩ := h7 j hj (by omega)
    refine ⟨World.ownsRow.kept f hg (.inr fun e => ?_), K.keep p k32, c⟩
    rcases c h e with h' | h'
    · have := D.blk j h hj h'; omega
    · omega
theorem WLook.of (D : WLies W0 base B h N A L C M) (F : WGrowO W0 w T HT sz PM base B h n N f A L C M S0 N W) : ∃ G X Y, WLook W0 w PM base B h n N f A L C M G X Y W := by
  obtain ⟨G, X, Y, _, h1, h2, h3, h4, hkp, _, h5, _, h7⟩ := F
  have hs : base ≤ W.heap.size := Nat.le_trans D.base (Nat.le_of_lt h1.lt)
  exact ⟨G, X, Y, h1, h2, h3, hs, hkp, fun j hj => ⟨h5 j hj, own_rdc (h7 j hj hj).1, (h7 j hj hj).2.1⟩⟩
theorem WLook.on (K : PMarks sz PM) (F : WLook W0 w PM base B h n N f A L C M G X Y W) (hg : W.grownBy W' none) : WLook W0 w PM base B h n N f A L C M G X Y W' := by
  obtain ⟨h1, h2, h3, h4, hkp, h5⟩ := F
  have k32 := K32.none hg
  exact ⟨h1.kept hg (by simp), h2.kept hg (by simp), h3.grown hg h4 (fun _ e => by cases e), Nat.le_trans h4 hg.size, hkp.grown hg (fun _ e => by cases e), fun j hj => ⟨⟨(h5 j hj).1.1.keptr hg own_none, K.keep (h5 j hj).1.2 k32⟩, (h5 j hj).2.1.keptr hg own_none, K.keep (h5 j hj).2.2 k32⟩⟩
/-- what another kind's calls did leaves these lists alone; their marks too, if these say so -/
theorem WFill.far {R : Nat → Prop} (F : WFill W0 w T HT sz PM base B h n N f A L C M i k W) (hk : Kp W W' R) (hB : QBook W' B n f) (hw : Below base w W') (hh : ¬ R h) (hA : ∀ j g, j < N → (Value.slice (A j) (L j) (C j)).ownBlock = some g → ¬ R g) (hP : ∀ m n xs, PM W m n xs → PM W' m n xs) : WFill W' w T HT sz PM base B h n N f A L C M i k W' := by
  obtain ⟨_, h2, _, _, ⟨cur, ht⟩, h4⟩ := F
  refine ⟨hB, kp_at hk h2 hh, hw, Kp.refl, ⟨cur, (hk.2 h (Array.getElem?_eq_some_iff.1 ht).1 hh).trans ht⟩, fun j hj => ?_⟩
  obtain ⟨xs, e, g1, g2⟩ := h4 j hj
  exact ⟨xs, kp_row hk e (fun g e => hA j g hj e), fun x => hP _ _ _ (g1 x), fun x => hP _ _ _ (g2 x)⟩
theorem WLook.far {R : Nat → Prop} (F : WLook W0 w PM base B h n N f A L C M G X Y W) (hk : Kp W W' R) (hB : QBook W' B n f) (hw : Below base w W') (hh : ¬ R h) (hA : ∀ j g, j < N → (Value.slice (A j) (L j) (C j)).ownBlock = some g → ¬ R g) (hG : ∀ j g, j < N → (G j).ownBlock = some g → ¬ R g) (hP : ∀ m n xs, PM W m n xs → PM W' m n xs) : WLook W' w PM base B h n N f A L C M G X Y W' := by
  obtain ⟨_, h2, _, h4, _, h5⟩ := F
  exact ⟨hB, kp_at hk h2 hh, hw, Nat.le_trans h4 hk.1, Kp.refl, fun j hj => ⟨⟨kp_rdc hk (h5 j hj).1.1 (fun g e => hA j g hj e), hP _ _ _ (h5 j hj).1.2⟩, kp_rdc hk (h5 j hj).2.1 (fun g e => hG j g hj e), hP _ _ _ (h5 j hj).2.2⟩⟩
end
/-- the marks of a row of fractions: each has a block of its own, from S on, that holds one number -/
def rmark (b : Nat) : List Value := [.bool false, .slice none 0 0, .slice (some ⟨b, 0, none⟩) 1 1]
def PRat (S : Nat) (W : World) (m n : Nat) (xs : List Value) : Prop := ∃ bs : List Nat, bs.length = n ∧ xs = bs.flatMap rmark ∧ ∀ b ∈ bs, S ≤ b ∧ W.heap[b]? = some (.cells #[.int .u32 (1000 + (m : Int))] 58 (0, 0))
theorem rmarks_len : ∀ bs : List Nat, (bs.flatMap rmark).length = bs.length * 3
  | [] => rfl
  | b :: t => by rw [List.flatMap_cons, List.length_append, rmarks_len t, List.length_cons, Nat.succ_mul]; show 3 + _ = _; omega
theorem marksRat (S : Nat) : PMarks 3 (PRat S) where
  pos := by decide
  len := fun h => by obtain ⟨bs, h1, rfl, _⟩ := h; rw [rmarks_len, h1]
  nil := ⟨[], rfl, rfl, by simp⟩
  snoc := fun h k => by
    obtain ⟨bs, h1, rfl, h2⟩ := h
    obtain ⟨cs, k1, rfl, k2⟩ := k
    exact ⟨bs ++ cs, by rw [List.length_append, h1, k1], by rw [List.flatMap_append], fun b hb => by
      rcases List.mem_append.1 hb with hb | hb
      · exact h2 b hb
      · exact k2 b hb⟩
  keep := fun h k => by
    obtain ⟨bs, h1, e, h2⟩ := h
    exact ⟨bs, h1, e, fun b hb => ⟨(h2 b hb).1, k b _ _ (h2 b hb).2⟩⟩
theorem PRat.kp {S : Nat} {W W' : World} {R : Nat → Prop} {m n : Nat} {xs : List Value} (h : PRat S W m n xs) (hk : Kp W W' R) (hR : ∀ b, S ≤ b → b < W.heap.size → ¬ R b) : PRat S W' m n xs := by
  obtain ⟨bs, h1, e, h2⟩ := h
  refine ⟨bs, h1, e, fun b hb => ⟨(h2 b hb).1, ?_⟩⟩
  have hlt := (Array.getElem?_eq_some_iff.1 (h2 b hb).2).1
  exact (hk.2 b hlt (hR b (h2 b hb).1 hlt)).trans (h2 b hb).2
theorem PRat.one {S : Nat} {W : World} {m b : Nat} (hb : S ≤ b) (h : W.heap[b]? = some (.cells #[.int .u32 (1000 + (m : Int))] 58 (0, 0))) : PRat S W m 1 (rmark b) := ⟨[b], rfl, by simp, fun c hc => by obtain rfl := List.mem_singleton.1 hc; exact ⟨hb, h⟩⟩
/-- one of them -/
theorem PRat.at {S : Nat} {W : World} {m n : Nat} {xs : List Value} (h : PRat S W m n xs) {j : Nat} (hj : j < n) : ∃ b, b < W.heap.size ∧ xs[j * 3]? = some (.bool false) ∧ xs[j * 3 + 1]? = some (.slice none 0 0) ∧ xs[j * 3 + 2]? = some (.slice (some ⟨b, 0, none⟩) 1 1) ∧ W.cell? ⟨b, 0, none⟩ = some (.int .u32 (1000 + (m : Int))) := by
  obtain ⟨bs, h1, rfl, h2⟩ := h
  have key : ∀ (l : List Nat) (j : Nat) (b : Nat), l[j]? = some b → ∀ i, i < 3 → (l.flatMap rmark)[j * 3 + i]? = (rmark b)[i]? := by
    intro l
    induction l with
    | nil => intro j b h; simp at h
    | cons y t ih =>
      intro j b h i hi
      rw [List.flatMap_cons]
      cases j with
      | zero =>
        simp at h; subst h
        rw [Nat.zero_mul, Nat.zero_add, List.getElem?_append_left (by exact hi)]
      | succ j =>
        rw [List.getElem?_append_right (by show 3 ≤ _; omega)]
        have e : (j + 1) * 3 + i - (rmark y).length = j * 3 + i := by show (j + 1) * 3 + i - 3 = _; omega
        rw [e]
        exact ih j b (by simpa using h) i hi
  have hb : bs[j]? = some (bs[j]'(by omega)) := List.getElem?_eq_getElem _
  have hm := h2 _ (List.getElem_mem (l := bs) (n := j) (by omega))
  refine ⟨bs[j]'(by omega), (Array.getElem?_eq_some_iff.1 hm.2).1, key bs j _ hb 0 (by omega), key bs j _ hb 1 (by omega), key bs j _ hb 2 (by omega), ?_⟩
  unfold World.cell?
  rw [hm.2]
  rfl
end Go.Proofs.YtkkahghhheameaaDoor
