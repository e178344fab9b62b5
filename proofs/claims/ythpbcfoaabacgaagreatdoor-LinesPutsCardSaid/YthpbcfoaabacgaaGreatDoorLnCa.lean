/- Lines: the program's reader: its small functions. -/
import Derived.Test.YthpbcfoaabacgaaGreatDoorLnB
import Derived.Test.YthpbcfoaabacgaaGreatDoorLnM
import Derived.Test.YthpbcfoaabacgaaGreatDoorLayL
import Derived.Lib.SliceRun
import Derived.Laws.AppendOwnNone
import Derived.Laws.Strings
import Derived.Laws.Concat
import Derived.Deep.Quiet
namespace Go.Proofs.YthpbcfoaabacgaaGreatDoor
open Go Go.Proofs Go.RowKit Go.Shelf
set_option linter.unusedVariables false
set_option linter.unusedSimpArgs false
set_option linter.unnecessarySimpa false

attribute [local go_sem] Oper.semAt_some
set_option maxRecDepth 100000
theorem info_u8L : (Tryz.prog.info? 5).map (fun i => (i.zero, i.size, i.bytes)) = some (some (.int .u8 0), 1, 1) := by kernel_rfl
/-- the program's reader at P: what came behind the last byte 10, as much as there is room for -/
structure PR (W : World) (P base : Nat) (kb : Value) (cur : List UInt8) : Prop where
  box : W.heap[P]? = some (.cells #[.bool true, kb] 56 (0, 0))
  row : W.ownsRow base 5 1 kb (cur.take 70002).length (bcells (cur.take 70002))
  ne : kb.ownBlock ≠ some P
/-- what a call of the reader's turns: its own two blocks, and new ones -/
structure Chg (W W' : World) (P : Nat) (kb kb' : Value) : Prop where
  os : W'.os = W.os
  tape : W'.tape = W.tape
  output : W'.output = W.output
  size : W.heap.size ≤ W'.heap.size
  block : ∀ b, b < W.heap.size → b ≠ P → kb.ownBlock ≠ some b → W'.heap[b]? = W.heap[b]?
  own : ∀ g, kb'.ownBlock = some g → kb.ownBlock = some g ∨ W.heap.size ≤ g
theorem PR.lt {W : World} {P base : Nat} {kb : Value} {cur : List UInt8} (h : PR W P base kb cur) : P < W.heap.size := (Array.getElem?_eq_some_iff.1 h.box).1
theorem PR.c1 {W : World} {P base : Nat} {kb : Value} {cur : List UInt8} (h : PR W P base kb cur) : W.cell? ⟨P, 1, none⟩ = some kb := by rw [cell_of_row W P 1 _ _ _ h.box]; rfl
theorem PR.f1 {W : World} {P base : Nat} {kb : Value} {cur : List UInt8} (h : PR W P base kb cur) : W.frozen? ⟨P, 1, none⟩ = false := frozen_of_row W P 1 _ _ h.box
theorem lform_row {W : World} {base e size n : Nat} {v : Value} {xs : List Value} (h : W.ownsRow base e size v n xs) : ∃ a c, v = .slice a n c := by
  obtain ⟨a, c, e, _, _⟩ := own_rdc h
  exact ⟨a, c, e⟩
/-- bytes as a text -/
theorem lconv_of {W : World} {v : Value} {l : List UInt8} (h : RdC W v l.length (bcells l)) : (convert 42 9 v).run Tryz.prog W = .ok (.string ⟨l.toArray⟩) W := by
  obtain ⟨a, c, rfl, hc, h⟩ := h
  cases l with
  | nil =>
    cases a with
    | none => exact run_convert_bytes_nil W 42 5 (by kernel_rfl) (by kernel_rfl) 0 c 9 (by kernel_rfl)
    | some a => exact run_convert_bytes_back (P := Tryz.prog) W 42 9 5 a c [] (by kernel_rfl) (by kernel_rfl) (by kernel_rfl) (fun j hj => absurd hj (Nat.not_lt_zero j))
  | cons x t =>
    obtain ⟨b, off, rfl, hb, hc⟩ := h (by simp)
    refine run_convert_bytes_back (P := Tryz.prog) W 42 9 5 ⟨b, off, none⟩ c (x :: t) (by kernel_rfl) (by kernel_rfl) (by kernel_rfl) fun j hj => ?_
    rw [Go.WideShapes.add_plain]
    exact hc j (bcell (x :: t)[j]) (bcells_get (List.getElem?_eq_getElem hj))
/-- the first m of a slice of bytes -/
theorem lrdc_cut {W : World} {a : Option Addr} {c : Nat} {l : List UInt8} (h : RdC W (.slice a l.length c) l.length (bcells l)) (m : Nat) (hm : m ≤ l.length) : RdC W (.slice a m c) (l.take m).length (bcells (l.take m)) := by
  obtain ⟨a', c', e, hc, h⟩ := h
  cases e
  have hl : (l.take m).length = m := by rw [List.length_take]; omega
  refine ⟨a, c, by rw [hl], by rw [hl]; omega, fun h0 => ?_⟩
  rw [hl] at h0
  obtain ⟨b, off, rfl, hb, hg⟩ := h (by omega)
  refine ⟨b, off, rfl, hb, fun o u ho => hg o u ?_⟩
  unfold bcells at *
  rw [List.getElem?_map, List.getElem?_take] at ho
  rw [List.getElem?_map]
  by_cases h1 : o < m
  · rwa [if_pos h1] at ho
  · rw [if_neg h1] at ho; cases ho
/-- may a byte not stand in a line? -/
theorem strange_any (c : UInt8) (W : World) : Calls Tryz.prog 88 #[bcell c] W fun e w' => e = .returned (.bool (Ln.ill c)) ∧ w' = W := by
  obtain ⟨X, hX⟩ : ∃ X : Int, X = (c.toNat : Int) := ⟨_, rfl⟩
  have h9 : (c == 9) = decide (X = 9) := by
    rw [hX]
    by_cases h : c = 9
    · subst h; rfl
    · rw [beq_eq_false_iff_ne.2 h, eq_comm, decide_eq_false_iff_not]
      intro e
      exact h (UInt8.toNat_inj.1 (by show c.toNat = 9; omega))
  have hill : Ln.ill c = ((decide (X < 32) && !(decide (X = 9))) || decide (126 < X)) := by
    unfold Ln.ill
    rw [h9, hX]
    congr 1
    · congr 1
      rw [decide_eq_decide]; omega
    · rw [decide_eq_decide]; omega
  unfold bcell
  rw [hill, ← hX]
  clear hill h9 hX
  by_cases h32 : X < 32
  · by_cases h9 : X = 9
    · rw [decide_eq_true h32, decide_eq_true h9, decide_eq_false (show ¬ 126 < X by omega)]
      subst h9
      go_enter Tryz.func88, Tryz.ntmps88
      go_wp2
      go_ret
      exact ⟨rfl, rfl⟩
    · rw [decide_eq_true h32, decide_eq_false h9, decide_eq_false (show ¬ 126 < X by omega)]
      have y9 : (X != 9) = true := bne_iff_ne.2 h9
      go_enter Tryz.func88, Tryz.ntmps88
      go_wp2
      go_ret
      exact ⟨rfl, rfl⟩
  · by_cases h126 : 126 < X
    · rw [decide_eq_false h32, decide_eq_true h126]
      go_enter Tryz.func88, Tryz.ntmps88
      go_wp2
      go_ret
      exact ⟨rfl, rfl⟩
    · rw [decide_eq_false h32, decide_eq_false h126]
      go_enter Tryz.func88, Tryz.ntmps88
      go_wp2
      go_ret
      exact ⟨rfl, rfl⟩
theorem strange_pred (w : World) : PredAt Tryz.prog 88 #[] bcell Ln.ill w := fun W x _ => (strange_any x W).mono fun _ _ h => ⟨h.1, 0, h.2⟩
theorem enters_strange : ∀ args w, (callFunc 88 args).run Tryz.prog w = .ok (.enter 88 args) w := enters_of Tryz.func88 (by kernel_rfl) rfl
/-- slices.ContainsFunc, of these bytes -/
theorem anyill_any {W : World} {v : Value} {l : List UInt8} (hv : RdC W v l.length (bcells l)) (hl : l.length ≤ 100000000) :
    Calls Tryz.prog 87 #[v, .func (.func 88) #[] #[]] W fun e w' => e = .returned (.bool (l.any Ln.ill)) ∧ ∃ q, w' = W.drewN q := by
  obtain ⟨a, c, rfl, hac, ha⟩ := hv
  cases l with
  | nil =>
    refine (AnyE.slices_ContainsFunc_empty YthpbcfoaabacgaaGreatDoor.cfL a c _ W).mono fun _ _ h => ⟨h.1, 0, h.2⟩
  | cons x t =>
    obtain ⟨b, off, rfl, hb, hg⟩ := ha (by simp)
    have := AnyE.slices_ContainsFunc YthpbcfoaabacgaaGreatDoor.cfL bcell Ln.ill 88 #[] enters_strange b off (x :: t).length c (x :: t) W (strange_pred W) (Nat.le_refl _) (by omega) (fun j hj => hg j _ (by
      rw [bcells_get (List.getElem?_eq_getElem hj)]
      rw [getElem!_pos (x :: t) j hj]))
    rw [List.take_length] at this
    exact this
set_option maxHeartbeats 4000000 in
theorem maybe_any {W : World} {v : Value} {l : List UInt8} (hv : RdC W v l.length (bcells l)) (hl : l.length ≤ 100000000) :
    Calls Tryz.prog 61 #[v] W fun e w' => e = .returned (.bool (Ln.may l)) ∧ ∃ q, w' = W.drewN q := by
  have hm : Ln.may l = (decide (l.length ≤ 70000) && !l.any Ln.ill) := by
    unfold Ln.may
    rw [Bool.and_comm, List.not_any_eq_all_not]
  have hc := anyill_any hv hl
  obtain ⟨a, c, rfl, hac, ha⟩ := hv
  obtain ⟨B, hB⟩ : ∃ B, B = l.any Ln.ill := ⟨_, rfl⟩
  obtain ⟨N, hN⟩ : ∃ N, N = l.length := ⟨_, rfl⟩
  rw [hm]
  rw [← hB, ← hN] at hc
  rw [← hB, ← hN]
  rw [← hN] at hac hl
  clear hm hB hN ha
  have HC := Lib.hid hc
  clear hc
  by_cases h : N ≤ 70000
  · have h1 : (N : Int) ≤ 70000 := by omega
    have h2 : decide ((N : Int) ≤ 70000) = true := decide_eq_true h1
    go_enter Tryz.func61, Tryz.ntmps61
    go_wp2_with (go_at_call 87; (refine HC.out.mono ?_; rintro e w' ⟨rfl, q, rfl⟩))
    go_ret
    exact ⟨by simp [h], q, rfl⟩
  · have h1 : ¬ (N : Int) ≤ 70000 := by omega
    have h2 : decide ((N : Int) ≤ 70000) = false := decide_eq_false h1
    go_enter Tryz.func61, Tryz.ntmps61
    go_wp2
    go_ret
    exact ⟨by simp, 0, rfl⟩
end Go.Proofs.YthpbcfoaabacgaaGreatDoor
