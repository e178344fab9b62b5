/- What models, and fractions by value, that are handed over read as. -/
import Derived.Test.YtbndmpdaloadjaaGreatGNtFr
import Derived.Test.YtbndmpdaloadjaaGreatGNmM
set_option linter.unusedSimpArgs false
set_option linter.unusedVariables false
namespace Go.Proofs.YtbndmpdaloadjaaGreat
open Go Go.Proofs Go.RowKit Go.Shelf Nu
open Go.ChangeShapes Go.WideShapes Go.ChangeAt
set_option linter.unusedVariables false
set_option linter.unusedSimpArgs false
set_option maxRecDepth 100000

section
variable {H : Type} {enc : TypeId × Value → H} {W : World}
/-- a var's ten cells -/
theorem f_var {n : Nat} {cs : List Value} {y : DataW H × List MemPlace} (hf : DataW.trod enc Tryz.prog W 0 (fun _ => true) true n 77 cs = some y) (hl : cs.length = 10) (hw : ∀ k ∈ y.1.weights Tryz.prog 77, k ≤ reachBytes) :
    ∃ x : Vr, Vr.Big x ∧ ∀ b o, (∀ (i : Nat) (c : Value), cs[i]? = some c → W.cell? ⟨b, o + i, none⟩ = some c) → VarAt W b o x := by
  match cs, hl with
  | [c0, c1, c2, c3, c4, c5, c6, c7, c8, c9], _ =>
  obtain ⟨xs, n1, _, hx, _, hlen, hg⟩ := DataW.trod_struct Tryz.underlying77 hf
  match xs, hlen with
  | [y0, y1, y2, y3, y4, y5], _ =>
    have g0 : DataW.trod enc Tryz.prog W 0 (fun _ => true) true n1 9 [c0] = some y0 := hg 0 _ rfl
    have g1 : DataW.trod enc Tryz.prog W 0 (fun _ => true) true n1 4 [c1] = some y1 := hg 1 _ rfl
    have g2 : DataW.trod enc Tryz.prog W 0 (fun _ => true) true n1 4 [c2] = some y2 := hg 2 _ rfl
    have g3 : DataW.trod enc Tryz.prog W 0 (fun _ => true) true n1 32 [c3, c4, c5] = some y3 := hg 3 _ rfl
    have g4 : DataW.trod enc Tryz.prog W 0 (fun _ => true) true n1 4 [c6] = some y4 := hg 4 _ rfl
    have g5 : DataW.trod enc Tryz.prog W 0 (fun _ => true) true n1 32 [c7, c8, c9] = some y5 := hg 5 _ rfl
    subst hx
    have wt : ∀ k, k ∈ y0.1.weights Tryz.prog 9 ∨ k ∈ y3.1.weights Tryz.prog 32 ∨ k ∈ y5.1.weights Tryz.prog 32 → k ≤ reachBytes := fun k hk => hw k (by
      simp only [DataW.weights, Tryz.underlying77, List.map_cons, List.map_nil, DataW.weightsEach, List.mem_append]
      rcases hk with hk | hk | hk
      · exact .inl hk
      · exact .inr (.inr (.inr (.inl hk)))
      · exact .inr (.inr (.inr (.inr (.inr (.inl hk))))))
    obtain ⟨nm, e0, z0, _⟩ := DataW.trod_string Tryz.underlying9 g0
    obtain ⟨b1, e1, _⟩ := DataW.trod_bool Tryz.underlying4 g1
    obtain ⟨b2, e2, _⟩ := DataW.trod_bool Tryz.underlying4 g2
    obtain ⟨q3, a3, a3', d3, d3', f3, f4, f5, r3, r3', u3⟩ := f_cells g3 (fun k hk => wt k (.inr (.inl hk)))
    obtain ⟨b4, e4, _⟩ := DataW.trod_bool Tryz.underlying4 g4
    obtain ⟨q5, a5, a5', d5, d5', f7, f8, f9, r5, r5', u5⟩ := f_cells g5 (fun k hk => wt k (.inr (.inr hk)))
    obtain rfl : c0 = .string nm := by simpa using e0
    obtain rfl : c1 = .bool b1 := by simpa using e1
    obtain rfl : c2 = .bool b2 := by simpa using e2
    obtain rfl : c6 = .bool b4 := by simpa using e4
    subst f3; subst f4; subst f5; subst f7; subst f8; subst f9
    have hn : nm.size ≤ 281474976710656 := by
      have h := wt nm.data.toList.length (.inl (by rw [z0]; simp [DataW.weights]))
      have h2 := reachBytes_lt
      have h3 : nm.data.toList.length = nm.size := Array.length_toList ..
      omega
    refine ⟨⟨nm, b1, b2, q3, b4, q5⟩, ⟨hn, u3, u5⟩, fun b o h => ⟨h 0 _ rfl, h 1 _ rfl, h 2 _ rfl, ⟨a3, d3, a3', d3', h 3 _ rfl, h 4 _ rfl, h 5 _ rfl, r3, r3'⟩, h 6 _ rfl, ⟨a5, d5, a5', d5', h 7 _ rfl, h 8 _ rfl, h 9 _ rfl, r5, r5'⟩⟩⟩
/-- a row's five cells -/
theorem f_row {n : Nat} {cs : List Value} {y : DataW H × List MemPlace} (hf : DataW.trod enc Tryz.prog W 0 (fun _ => true) true n 81 cs = some y) (hl : cs.length = 5) (hw : ∀ k ∈ y.1.weights Tryz.prog 81, k ≤ reachBytes) :
    ∃ x : Rw, Rw.Big x ∧ ∀ b o, (∀ (i : Nat) (c : Value), cs[i]? = some c → W.cell? ⟨b, o + i, none⟩ = some c) → RowAt W b o x := by
  match cs, hl with
  | [c0, c1, c2, c3, c4], _ =>
  obtain ⟨xs, n1, _, hx, _, hlen, hg⟩ := DataW.trod_struct Tryz.underlying81 hf
  match xs, hlen with
  | [y0, y1, y2], _ =>
    have g0 : DataW.trod enc Tryz.prog W 0 (fun _ => true) true n1 23 [c0] = some y0 := hg 0 _ rfl
    have g1 : DataW.trod enc Tryz.prog W 0 (fun _ => true) true n1 79 [c1] = some y1 := hg 1 _ rfl
    have g2 : DataW.trod enc Tryz.prog W 0 (fun _ => true) true n1 32 [c2, c3, c4] = some y2 := hg 2 _ rfl
    subst hx
    have wt : ∀ k, k ∈ y0.1.weights Tryz.prog 23 ∨ k ∈ y2.1.weights Tryz.prog 32 → k ≤ reachBytes := fun k hk => hw k (by
      simp only [DataW.weights, Tryz.underlying81, List.map_cons, List.map_nil, DataW.weightsEach, List.mem_append]
      rcases hk with hk | hk
      · exact .inl hk
      · exact .inr (.inr (.inl hk)))
    obtain ⟨a0, n0, d0, qs, rfl, v0, l0, u0⟩ := f_rats (d := y0.1) (p := y0.2) g0 (fun k hk => wt k (.inl hk))
    obtain ⟨kd, e1, _, w1⟩ := DataW.trod_int Tryz.underlying79 g1
    obtain ⟨q2, a2, a2', d2, d2', f2, f3, f4, r2, r2', u2⟩ := f_cells g2 (fun k hk => wt k (.inr hk))
    obtain rfl : c1 = .int .u8 kd := by simpa using e1
    subst f2; subst f3; subst f4
    simp [Lit.wf, IntKind.min, IntKind.max, IntKind.signed, IntKind.bits] at w1
    refine ⟨⟨qs, kd, q2⟩, ⟨⟨by rw [← v0.addr.1]; exact l0, u0⟩, u2, by show (0 : Int) ≤ kd; omega, by show kd ≤ (255 : Int); omega⟩, fun b o h => ⟨⟨_, h 0 _ rfl, v0⟩, h 1 _ rfl, ⟨a2, d2, a2', d2', h 2 _ rfl, h 3 _ rfl, h 4 _ rfl, r2, r2'⟩⟩⟩
theorem f_vars {v : Value} {d : DataW H} {p : List MemPlace} {fuel : Nat} (hf : DataW.trod enc Tryz.prog W 0 (fun _ => true) true fuel 22 [v] = some (d, p)) (hw : ∀ k ∈ d.weights Tryz.prog 22, k ≤ reachBytes) :
    ∃ (a : Option Addr) (n c : Nat) (l : List Vr), v = .slice a n c ∧ VarsR W (.slice a n c) l ∧ l.length ≤ 70368744177664 ∧ ∀ x ∈ l, Vr.Big x := by
  obtain ⟨a, n, c, l, rfl, hL, hQ, hn⟩ := f_list (α := Vr) (El := VarAt) (Q := Vr.Big) Tryz.underlying22 (show Tryz.prog.cellsOf 77 = 10 by kernel_rfl) (by omega) (fun n cs y ht hl hw => f_var ht hl hw) hf hw
  have hb : Tryz.prog.bytesOf 77 = 144 := by kernel_rfl
  rw [hb] at hn
  exact ⟨a, n, c, l, rfl, hL, by rw [← hL.addr.1]; exact reach_le hn (by omega), hQ⟩
theorem f_rws {v : Value} {d : DataW H} {p : List MemPlace} {fuel : Nat} (hf : DataW.trod enc Tryz.prog W 0 (fun _ => true) true fuel 24 [v] = some (d, p)) (hw : ∀ k ∈ d.weights Tryz.prog 24, k ≤ reachBytes) :
    ∃ (a : Option Addr) (n c : Nat) (l : List Rw), v = .slice a n c ∧ RowsR W (.slice a n c) l ∧ l.length ≤ 70368744177664 ∧ ∀ x ∈ l, Rw.Big x := by
  obtain ⟨a, n, c, l, rfl, hL, hQ, hn⟩ := f_list (α := Rw) (El := RowAt) (Q := Rw.Big) Tryz.underlying24 (show Tryz.prog.cellsOf 81 = 5 by kernel_rfl) (by omega) (fun n cs y ht hl hw => f_row ht hl hw) hf hw
  have hb : Tryz.prog.bytesOf 81 = 88 := by kernel_rfl
  rw [hb] at hn
  exact ⟨a, n, c, l, rfl, hL, by rw [← hL.addr.1]; exact reach_le hn (by omega), hQ⟩
/-- where a model's lists lie -/
structure MA where
  a1 : Option Addr
  n1 : Nat
  c1 : Nat
  a2 : Option Addr
  n2 : Nat
  c2 : Nat
  a3 : Option Addr
  n3 : Nat
  c3 : Nat
def MOK (W : World) (A : MA) (x : MV) : Prop := VarsR W (.slice A.a1 A.n1 A.c1) x.vars ∧ VReads W (.slice A.a2 A.n2 A.c2) x.goal ∧ RowsR W (.slice A.a3 A.n3 A.c3) x.rows ∧ x.Big
/-- a model by value -/
theorem open_model {base : Nat} {v : Value} {d : DataW H} {p : List MemPlace} (ho : Value.okWide Tryz.prog W .any base 26 v) (h : DataW.Trod enc Tryz.prog W 0 (fun _ => true) true 26 v d p) (hw : ∀ k ∈ d.weights Tryz.prog 26, k ≤ reachBytes) :
    ∃ (A : MA) (x : MV), v = .agg #[.bool x.most, .slice A.a1 A.n1 A.c1, .slice A.a2 A.n2 A.c2, .slice A.a3 A.n3 A.c3] ∧ MOK W A x := by
  obtain ⟨v0, v1, v2, v3, y0, y1, y2, y3, n, rfl, rfl, _, h0, h1, h2, h3⟩ := Go.Joins.open_agg4 Tryz.underlying26 (by kernel_rfl) (by kernel_rfl) ho h
  have wt : ∀ k, k ∈ y1.1.weights Tryz.prog 22 ∨ k ∈ y2.1.weights Tryz.prog 23 ∨ k ∈ y3.1.weights Tryz.prog 24 → k ≤ reachBytes := fun k hk => hw k (by
    simp only [DataW.weights, Tryz.underlying26, List.map_cons, List.map_nil, DataW.weightsEach, List.mem_append]
    rcases hk with hk | hk | hk
    · exact .inr (.inl hk)
    · exact .inr (.inr (.inl hk))
    · exact .inr (.inr (.inr (.inl hk))))
  obtain ⟨mo, hmo, _⟩ := DataW.trod_bool Tryz.underlying4 h0
  obtain rfl : v0 = .bool mo := by simpa using hmo
  obtain ⟨a1, n1, c1, vars, rfl, g1, b1⟩ := f_vars (d := y1.1) (p := y1.2) h1 (fun k hk => wt k (.inl hk))
  obtain ⟨a2, n2, c2, goal, rfl, g2, b2, b2'⟩ := f_rats (d := y2.1) (p := y2.2) h2 (fun k hk => wt k (.inr (.inl hk)))
  obtain ⟨a3, n3, c3, rows, rfl, g3, b3⟩ := f_rws (d := y3.1) (p := y3.2) h3 (fun k hk => wt k (.inr (.inr hk)))
  exact ⟨⟨a1, n1, c1, a2, n2, c2, a3, n3, c3⟩, ⟨mo, vars, goal, rows⟩, rfl, g1, g2, g3, b1, ⟨by rw [← g2.addr.1]; exact b2, b2'⟩, b3⟩
/-- a fraction by value -/
theorem open_rt {base : Nat} {v : Value} {d : DataW H} {p : List MemPlace} (ho : Value.okWide Tryz.prog W .any base 32 v) (h : DataW.Trod enc Tryz.prog W 0 (fun _ => true) true 32 v d p) (hw : ∀ k ∈ d.weights Tryz.prog 32, k ≤ reachBytes) :
    ∃ (q : Qr) (a a' : Option Addr) (c c' : Nat), v = .agg #[.bool q.1, .slice a q.2.1.length c, .slice a' q.2.2.length c'] ∧ Reads W (.slice a q.2.1.length c) q.2.1 ∧ Reads W (.slice a' q.2.2.length c') q.2.2 ∧ Big q := by
  obtain ⟨cs, rfl, hsz⟩ := okWide_struct Tryz.underlying32 ho
  have h3 : Tryz.prog.cellsOf 32 = 3 := by kernel_rfl
  rw [h3] at hsz
  obtain ⟨c0, c1, c2, rfl⟩ := Go.Joins.array3 hsz
  obtain ⟨fuel, hf⟩ := h
  obtain ⟨q, a, a', c, c', rfl, rfl, rfl, r1, r2, hq⟩ := f_cells hf hw
  exact ⟨q, a, a', c, c', rfl, r1, r2, hq⟩
end
end Go.Proofs.YtbndmpdaloadjaaGreat
