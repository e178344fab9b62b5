/- A book's lists of parts are filled with marks. -/
import Derived.Test.YtmbnojkciikobaaGreatDoorBookD
import Derived.Deep.LoopGhost
namespace Go.Proofs.YtmbnojkciikobaaGreatDoor
open Go Go.Proofs Go.RowKit Go.Shelf Nu

attribute [local go_sem] Oper.semAt_some

/-- a list in a box of its own -/
def HBox (W : World) (b : Nat) (v u : Value) (m : Nat) : Prop := W.heap[b]? = some (.cells #[v, u, .int .i64 (m : Int)] 125 (0, 0))
section
variable {W W' : World} {b m : Nat} {v u : Value}
theorem HBox.lt (h : HBox W b v u m) : b < W.heap.size := (Array.getElem?_eq_some_iff.1 h).1
theorem HBox.c0 (h : HBox W b v u m) : W.cell? ⟨b, 0, none⟩ = some v := by rw [cell_of_row W b 0 _ _ _ h]; rfl
theorem HBox.c1 (h : HBox W b v u m) : W.cell? ⟨b, 1, none⟩ = some u := by rw [cell_of_row W b 1 _ _ _ h]; rfl
theorem HBox.c2 (h : HBox W b v u m) : W.cell? ⟨b, 2, none⟩ = some (.int .i64 (m : Int)) := by rw [cell_of_row W b 2 _ _ _ h]; rfl
theorem HBox.other (h : HBox W b v u m) {g o : Nat} (hne : b ≠ g) (x : Value) : HBox (W.setCell ⟨g, o, none⟩ x) b v u m := (Below.heap_setCell W ⟨g, o, none⟩ x b hne).trans h
theorem HBox.kept {row : Option Nat} (h : HBox W b v u m) (hg : W.grownBy W' row) (hne : some b ≠ row) : HBox W' b v u m := (hg.block b h.lt hne).trans h
theorem HBox.alloc (h : HBox W b v u m) (o : Obj) : HBox (W.alloc o) b v u m := (Below.heap_alloc W o b h.lt).trans h
theorem HBox.new (W : World) (v u : Value) (m : Nat) : HBox (W.alloc (.cells #[v, u, .int .i64 (m : Int)] 125)) W.heap.size v u m := World.alloc_heap_new W _
end

section
variable (w : World) (base B h n N cap : Nat) (A : Nat → Option Addr) (L C M : Nat → Nat)
/-- the lists lie apart -/
structure Lies : Prop where
  base : base ≤ B
  up : B < h
  blk : ∀ j g, j < N → (Value.slice (A j) (L j) (C j)).ownBlock = some g → g < B
  dis : ∀ j k, j < N → k < N → j ≠ k → (Value.slice (A j) (L j) (C j)).ownBlock = none ∨ (Value.slice (A j) (L j) (C j)).ownBlock ≠ (Value.slice (A k) (L k) (C k)).ownBlock
  len : ∀ j, j < N → L j ≤ 100000
  num : ∀ j, j < N → M j ≤ 1000000
  few : N ≤ 100000
/-- i of them are filled, and the next one up to k -/
def FillK (i k : Nat) (W : World) : Prop :=
  BookAt W B n (.slice (some ⟨h, 0, none⟩) N cap) ∧ HAt W h N (fun j => .slice (A j) (L j) (C j)) (fun _ => .slice none 0 0) M ∧ Below base w W ∧
  ∀ j, j < N → ∃ l, l.length = L j ∧ Fresh W base (.slice (A j) (L j) (C j)) l ∧ (j < i → l = List.replicate (L j) (1000 + M j)) ∧ (j = i → l.take k = List.replicate k (1000 + M j))
end
section
variable {w W : World} {base B h n N cap i k : Nat} {A : Nat → Option Addr} {L C M : Nat → Nat}
theorem FillK.alloc (D : Lies base B h N A L C M) (F : FillK w base B h n N cap A L C M i k W) (o : Obj) : FillK w base B h n N cap A L C M i k (W.alloc o) := by
  obtain ⟨h1, h2, h3, h4⟩ := F
  have hs : base ≤ W.heap.size := Nat.le_trans D.base (Nat.le_of_lt h1.lt)
  refine ⟨h1.alloc o, h2.kept (World.grownBy_alloc W o none) (by simp), h3.alloc hs o, fun j hj => ?_⟩
  obtain ⟨l, e, f, g⟩ := h4 j hj
  exact ⟨l, e, f.alloc o, g⟩
theorem FillK.drew (F : FillK w base B h n N cap A L C M i k W) : FillK w base B h n N cap A L C M i k W.drew := ⟨F.1, F.2.1, F.2.2.1.drew, F.2.2.2⟩
theorem FillK.next (F : FillK w base B h n N cap A L C M i (L i) W) : FillK w base B h n N cap A L C M (i + 1) 0 W := by
  refine ⟨F.1, F.2.1, F.2.2.1, fun j hj => ?_⟩
  obtain ⟨l, e, f, g1, g2⟩ := F.2.2.2 j hj
  refine ⟨l, e, f, fun hji => ?_, fun _ => rfl⟩
  by_cases hj' : j = i
  · have := g2 hj'
    subst hj'
    rwa [List.take_of_length_le (by omega)] at this
  · exact g1 (by omega)
theorem FillK.put (D : Lies base B h N A L C M) {g : Nat} (hA : A i = some ⟨g, 0, none⟩) (hi : i < N) (hk : k < L i) (F : FillK w base B h n N cap A L C M i k W) : FillK w base B h n N cap A L C M i (k + 1) (W.setCell ⟨g, k, none⟩ (.int .u32 ((1000 + M i : Nat) : Int))) := by
  obtain ⟨h1, h2, h3, h4⟩ := F
  have eo : (Value.slice (A i) (L i) (C i)).ownBlock = some g := by rw [hA]; rfl
  have hgB := D.blk i g hi eo
  have hup := D.up
  have hb : base ≤ g := by obtain ⟨l, e, f, _⟩ := h4 i hi; exact (f.lt' eo).1
  refine ⟨h1.other (by omega) _, h2.other (by omega) _, h3.setCell (p := ⟨g, k, none⟩) hb _, fun j hj => ?_⟩
  obtain ⟨l, e, f, g1, g2⟩ := h4 j hj
  by_cases hji : j = i
  · subst hji
    rw [hA] at f ⊢
    refine ⟨l.set k (1000 + M j), by rw [List.length_set, e], (f.put e.symm k (1000 + M j)).1, fun hlt => absurd hlt (Nat.lt_irrefl _), fun _ => ?_⟩
    rw [set_take l k _ (by omega), g2 rfl, List.replicate_succ']
  · refine ⟨l, e, ownsRow_setCell_other f (fun e2 => ?_) _, g1, fun e2 => absurd e2 hji⟩
    rcases D.dis j i hj hi hji with h5 | h5
    · rw [h5] at e2; cases e2
    · rw [eo] at h5; exact h5 e2
theorem FillK.form (F : FillK w base B h n N cap A L C M i k W) (j : Nat) (hj : j < N) (h0 : 0 < L j) : ∃ g, A j = some ⟨g, 0, none⟩ ∧ g < W.heap.size ∧ L j ≤ C j ∧ (∀ o, o < L j → ∃ x : Nat, W.cell? ⟨g, o, none⟩ = some (.int .u32 (x : Int))) ∧ ∀ o, W.frozen? ⟨g, o, none⟩ = false := by
  obtain ⟨l, e, f, _⟩ := F.2.2.2 j hj
  have f0 := f
  rcases f.form with ⟨e1, _⟩ | ⟨g, c, e1, _, hg, hn, hc⟩
  · simp only [Value.slice.injEq] at e1
    omega
  · simp only [Value.slice.injEq] at e1
    obtain ⟨e1, e2, e3⟩ := e1
    refine ⟨g, e1, hg, by omega, fun o ho => ⟨_, by have := hc o (by omega); rwa [Nat.zero_add] at this⟩, fun o => ?_⟩
    rw [e1] at f0
    unfold Fresh at f0
    rw [e] at f0
    exact World.ownsRow.frozenAt f0 o
end

set_option maxRecDepth 100000 in
set_option maxHeartbeats 2000000 in
theorem fill_any {w W : World} {base B h n N cap : Nat} {A : Nat → Option Addr} {L C M : Nat → Nat} (D : Lies base B h N A L C M) (hN : N ≤ cap) (F : FillK w base B h n N cap A L C M 0 0 W) :
    Calls Tryz.prog 78 #[.pointer (some ⟨B, 0, none⟩)] W fun e w' => e = .returned (.tuple #[]) ∧ FillK w base B h n N cap A L C M N 0 w' := by
  have hD := Lib.hid D
  have hF := Lib.hid F
  have hfew := D.few
  clear D F
  go_enter Tryz.func78, Tryz.ntmps78
  go_wp2
  go_loopg [2] N (fun g s wr => ∃ i : Nat, i + g = N ∧ s = .int .i64 (i : Int) ∧ Hid (FillK w base B h n N cap A L C M i 0 wr))
  case atStart => exact ⟨0, by omega, rfl, hF⟩
  case round =>
    obtain ⟨i, hi, rfl, HK⟩ := hrel
    have r1 := HK.out.1.c2
    by_cases hlt : i < N
    · obtain ⟨c0, c1, c2⟩ := HK.out.2.1.2 i hlt
      have hbs := HK.out.1.lt
      dsimp only at c0
      have hLi := (hD.out).len i hlt
      have hMi := (hD.out).num i hlt
      have hHB := Lib.hid (HBox.new wr (.slice (A i) (L i) (C i)) (.slice none 0 0) (M i))
      have hFA := Lib.hid (HK.out.alloc hD.out (.cells #[.slice (A i) (L i) (C i), .slice none 0 0, .int .i64 (M i : Int)] 125))
      go_wp2
      obtain ⟨hb, hhb⟩ : ∃ hb, hb = wr.heap.size := ⟨_, rfl⟩
      rw [← hhb] at hHB hbs ⊢
      obtain ⟨wo, hwo⟩ : ∃ wo, wo = wr.alloc (.cells #[.slice (A i) (L i) (C i), .slice none 0 0, .int .i64 (M i : Int)] 125) := ⟨_, rfl⟩
      rw [← hwo] at hHB hFA ⊢
      clear hwo hhb HK r1 c0 c1 c2
      go_loopg [4] (L i) (fun g s wy => ∃ k : Nat, k + g = L i ∧ s = .int .i64 (k : Int) ∧ Hid (FillK w base B h n N cap A L C M i k wy) ∧ Hid (HBox wy hb (.slice (A i) (L i) (C i)) (.slice none 0 0) (M i)))
      case atStart => exact ⟨0, by omega, rfl, hFA, hHB⟩
      case round =>
        obtain ⟨k, hk, rfl, HF, HB⟩ := hrel
        have r1 := HB.out.c0
        have r2 := HB.out.c2
        by_cases hkl : k < L i
        · obtain ⟨g, ea, hg, hcap, hcell, hfr⟩ := HF.out.form i hlt (by omega)
          obtain ⟨x, r3⟩ := hcell k hkl
          have r4 := hfr k
          have hp := HF.out.put hD.out ea hlt hkl
          have kM := mark_any (M i) hMi
          obtain ⟨mk, hmk⟩ : ∃ mk, mk = 1000 + M i := ⟨_, rfl⟩
          rw [← hmk] at hp kM
          have HP := Lib.hid hp
          clear hmk hp
          have hgb : hb ≠ g := by
            have := hD.out.blk i g hlt (by rw [ea]; rfl)
            omega
          have hB0 := HB.out
          have HB2 := Lib.hid (hB0.other hgb (o := k) (.int .u32 (mk : Int)))
          have q1 := HB2.out.c0
          have q2 := HB2.out.c2
          rw [ea] at q1
          clear hB0
          rw [ea] at r1
          clear hcell hfr ea
          go_wp2
          go_region_held3 (fun w' => w'.cell? ⟨hb, 0, none⟩ = some (.slice (some ⟨g, 0, none⟩) (L i) (C i)) ∧ w'.cell? ⟨hb, 2, none⟩ = some (.int .i64 (M i : Int)))
            (first
              | go_keep
              | (exact ⟨r1, r2⟩)
              | (exact ⟨q1, q2⟩))
            ((first
              | (go_at_call 144; (with_reducible refine (kM _).mono ?_); rintro e w5 ⟨rfl, rfl⟩)))
          go_wp2
          go_roundg (L i - (k + 1))
          case measure => omega
          case rel => exact ⟨k + 1, by omega, by simp, Lib.hid HP.out.drew, Lib.hid (show HBox _ _ _ _ _ from HB2.out)⟩
        · obtain rfl : k = L i := by omega
          have HN := Lib.hid HF.out.next
          obtain ⟨z, hz⟩ : ∃ z, z = L i := ⟨_, rfl⟩
          rw [← hz] at r1 ⊢
          clear hz HF HB
          go_wp2
          go_roundg (N - (i + 1))
          case measure => omega
          case rel => exact ⟨i + 1, by omega, by simp, HN⟩
    · obtain rfl : i = N := by omega
      go_wp2
      go_end0
      exact ⟨rfl, HK.out⟩

end Go.Proofs.YtmbnojkciikobaaGreatDoor
