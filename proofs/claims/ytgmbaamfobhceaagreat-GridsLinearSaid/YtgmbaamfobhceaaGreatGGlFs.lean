/- What a pair of rows of fractions that is handed over reads as. -/
import Derived.Test.YtgmbaamfobhceaaGreatGGlFr
set_option linter.unusedSimpArgs false
set_option linter.unusedVariables false
set_option maxRecDepth 100000
namespace Go.Proofs.YtgmbaamfobhceaaGreat
open Go Go.Proofs Go.RowKit Go.Shelf Nu
open Go.ChangeShapes Go.WideShapes Go.ChangeAt
section
variable {H : Type} {enc : TypeId × Value → H} {W : World}
theorem open_rt {base : Nat} {v : Value} {d : DataW H} {p : List MemPlace} (ho : Value.okWide Tryz.prog W .any base 44 v) (h : DataW.Trod enc Tryz.prog W 0 (fun _ => true) true 44 v d p) (hw : ∀ k ∈ d.weights Tryz.prog 44, k ≤ reachBytes) :
  ∃ (q : Qr) (a a' : Option Addr) (c c' : Nat), v = .agg #[.bool q.1, .slice a q.2.1.length c, .slice a' q.2.2.length c'] ∧ Reads W (.slice a q.2.1.length c) q.2.1 ∧ Reads W (.slice a' q.2.2.length c') q.2.2 ∧ Big q := by
 obtain ⟨cs, rfl, hsz⟩ := okWide_struct Tryz.underlying44 ho
 have h3 : Tryz.prog.cellsOf 44 = 3 := by kernel_rfl
 rw [h3] at hsz
 obtain ⟨c0, c1, c2, rfl⟩ := Go.Joins.array3 hsz
 obtain ⟨fuel, hf⟩ := h
 obtain ⟨q, a, a', c, c', rfl, rfl, rfl, r1, r2, hq⟩ := f_cells hf hw
 exact ⟨q, a, a', c, c', rfl, r1, r2, hq⟩
theorem open_rats2 {base : Nat} {v : Value} {d : DataW H} {p : List MemPlace} (ho : Value.okWide Tryz.prog W .any base 38 v) (h : DataW.Trod enc Tryz.prog W 0 (fun _ => true) true 38 v d p) (hw : ∀ k ∈ d.weights Tryz.prog 38, k ≤ reachBytes) :
  ∃ (a1 : Option Addr) (n1 c1 : Nat) (l1 : List Qr) (a2 : Option Addr) (n2 c2 : Nat) (l2 : List Qr), v = .agg #[.slice a1 n1 c1, .slice a2 n2 c2] ∧ (VReads W (.slice a1 n1 c1) l1 ∧ n1 ≤ 70368744177664 ∧ ∀ q ∈ l1, Big q) ∧ VReads W (.slice a2 n2 c2) l2 ∧ n2 ≤ 70368744177664 ∧ ∀ q ∈ l2, Big q := by
 simp only [Value.okWide, Tryz.underlying38] at ho
 obtain ⟨cs, rfl, hsz, _⟩ := ho
 obtain ⟨l⟩ := cs
 match l, hsz.trans (show Tryz.prog.cellsOf 38 = 2 by kernel_rfl) with
 | [c0, c1], _ =>
  obtain ⟨fuel, hf⟩ := h
  obtain ⟨xs, n, _, hx, _, hlen, hg⟩ := DataW.trod_array Tryz.underlying38 hf
  match xs, hlen with
  | [y0, y1], _ =>
   cases hx
   have hc : Tryz.prog.cellsOf 30 = 1 := by kernel_rfl
   have g0 := hg 0 (by decide)
   have g1 := hg 1 (by decide)
   rw [hc] at g0 g1
   have e0 : DataW.trod enc Tryz.prog W 0 (fun _ => true) true n 30 [c0] = some y0 := g0
   have e1 : DataW.trod enc Tryz.prog W 0 (fun _ => true) true n 30 [c1] = some y1 := g1
   have wt : ∀ (i : Nat) (y : DataW H × List MemPlace), [y0, y1][i]? = some y → ∀ k ∈ y.1.weights Tryz.prog 30, k ≤ reachBytes := fun i y hy k hk => hw k (by
    simp only [DataW.weights, Tryz.underlying38]
    exact weights_in (l := [y0, y1]) hy hk)
   obtain ⟨a1, n1, d1, l1, rfl, r1⟩ := f_rats (d := y0.1) (p := y0.2) e0 (wt 0 y0 rfl)
   obtain ⟨a2, n2, d2, l2, rfl, r2⟩ := f_rats (d := y1.1) (p := y1.2) e1 (wt 1 y1 rfl)
   exact ⟨a1, n1, d1, l1, a2, n2, d2, l2, rfl, r1, r2⟩
end
end Go.Proofs.YtgmbaamfobhceaaGreat
