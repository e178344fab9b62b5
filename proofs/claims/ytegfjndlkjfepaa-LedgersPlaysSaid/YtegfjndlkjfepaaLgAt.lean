/- Ledgers: what a list of acts that is handed over reads as. -/
import Derived.Test.YtegfjndlkjfepaaLgP
import Derived.ProofKit
import Derived.OpenShut
import Derived.ChangeOld
import Derived.Below
import Derived.Lib.SmallJoins
namespace Go.Proofs.Ytegfjndlkjfepaa
open Go Go.Proofs Go.RowKit Go.Shelf
open Go.ChangeShapes Go.WideShapes Go.ChangeAt
set_option linter.unusedVariables false
set_option linter.unusedSimpArgs false
set_option maxRecDepth 100000

/-- an act: its kind, a place, a number, a name -/
structure Ac where
  d : Nat
  t : Int
  n : Int
  s : ByteArray
def Ac.ok (x : Ac) : Prop := x.d < 256 ∧ kOK x.t ∧ x.s.size ≤ maxLen
def AcAt (W : World) (b o : Nat) (x : Ac) : Prop := W.cell? ⟨b, o, none⟩ = some (.int .u8 (x.d : Int)) ∧ W.cell? ⟨b, o + 1, none⟩ = some (.int .i64 x.t) ∧ W.cell? ⟨b, o + 2, none⟩ = some (.int .i64 x.n) ∧ W.cell? ⟨b, o + 3, none⟩ = some (.string x.s)
def Acts (W : World) (v : Value) (l : List Ac) : Prop :=
  ∃ a cap, v = .slice a l.length cap ∧ l.length ≤ cap ∧ (0 < l.length → ∃ b off, a = some ⟨b, off, none⟩ ∧ b < W.heap.size ∧ ∀ (j : Nat) (x : Ac), l[j]? = some x → AcAt W b (off + j * 4) x ∧ x.ok)
theorem AcAt.below {w W : World} {b o : Nat} {x : Ac} (h : AcAt w b o x) (hb : b < w.heap.size) (q : Below w.heap.size w W) : AcAt W b o x :=
  ⟨(q.cell (p := ⟨b, o, none⟩) hb).trans h.1, (q.cell (p := ⟨b, o + 1, none⟩) hb).trans h.2.1, (q.cell (p := ⟨b, o + 2, none⟩) hb).trans h.2.2.1, (q.cell (p := ⟨b, o + 3, none⟩) hb).trans h.2.2.2⟩
theorem acts_cells4 {W : World} {a : Addr} {r : List Value} (h : W.cells? 0 a 4 = some r) : ∃ c0 c1 c2 c3, r = [c0, c1, c2, c3] ∧ W.cell? a = some c0 ∧ W.cell? (a.add 1) = some c1 ∧ W.cell? (a.add 2) = some c2 ∧ W.cell? (a.add 3) = some c3 := by
  unfold World.cells? at h
  rw [if_pos (Nat.zero_le _)] at h
  have e : List.range 4 = [0, 1, 2, 3] := rfl
  rw [e] at h
  simp only [List.mapM_cons, List.mapM_nil, Option.bind_eq_bind, Option.bind_eq_some_iff, Option.pure_def] at h
  obtain ⟨c0, h0, s1, ⟨c1, h1, s2, ⟨c2, h2, s3, ⟨c3, h3, s4, h4, h5⟩, h6⟩, h7⟩, h8⟩ := h
  cases h4; cases h5; cases h6; cases h7; cases h8
  rw [tens_zero] at h0
  exact ⟨c0, c1, c2, c3, rfl, h0, h1, h2, h3⟩
section
variable {H : Type} {enc : TypeId × Value → H} {W : World}
theorem f_ac {n : Nat} {c0 c1 c2 c3 : Value} {y : DataW H × List MemPlace} (h : DataW.trod enc Try.prog W 0 (fun _ => true) true n 51 [c0, c1, c2, c3] = some y) :
    ∃ x : Ac, c0 = .int .u8 (x.d : Int) ∧ c1 = .int .i64 x.t ∧ c2 = .int .i64 x.n ∧ c3 = .string x.s ∧ x.ok := by
  have k0 : Try.prog.cellsOf 5 = 1 := by kernel_rfl
  have k1 : Try.prog.cellsOf 3 = 1 := by kernel_rfl
  have k2 : Try.prog.cellsOf 9 = 1 := by kernel_rfl
  obtain ⟨y0, y1, y2, y3, m, _, _, h0, h1, h2, h3⟩ := Go.Joins.trod_struct4 Try.underlying51 h
  simp only [k0, k1, k2] at h0 h1 h2 h3
  obtain ⟨a, e0, _, w0⟩ := DataW.trod_int Try.underlying5 h0
  obtain ⟨b, e1, _, w1⟩ := DataW.trod_int Try.underlying3 h1
  obtain ⟨d, e2, _, w2⟩ := DataW.trod_int Try.underlying3 h2
  obtain ⟨s, e3, _, s3⟩ := DataW.trod_string Try.underlying9 h3
  simp at e0 e1 e2 e3
  simp [Lit.wf, IntKind.min, IntKind.max, IntKind.signed, IntKind.bits] at w0
  refine ⟨⟨a.toNat, b, d, s⟩, ?_, e1, e2, e3, ?_, w1, s3⟩
  · rw [e0]
    show Value.int .u8 a = .int .u8 (a.toNat : Int)
    rw [Int.toNat_of_nonneg (by omega)]
  · show a.toNat < 256
    omega
theorem f_acts {v : Value} {d : DataW H} {p : List MemPlace} {fuel : Nat} (hf : DataW.trod enc Try.prog W 0 (fun _ => true) true fuel 44 [v] = some (d, p)) :
    ∃ (a : Option Addr) (n c : Nat) (ts : List Ac), v = .slice a n c ∧ Acts W (.slice a n c) ts := by
  rcases DataW.trod_slice Try.underlying44 hf with ⟨hcs, _⟩ | ⟨x, len, cap, elems, rest, n, _, hcs, hx, _, hl, hm, hlen, hel, hsp, _⟩
  · obtain rfl : v = .slice none 0 0 := by simpa using hcs
    exact ⟨none, 0, 0, [], rfl, none, 0, rfl, Nat.le_refl _, fun h => by simp at h⟩
  · obtain rfl : v = .slice (some x) len cap := by simpa using hcs
    have h3 : Try.prog.cellsOf 51 = 4 := by kernel_rfl
    rw [h3] at hel hsp
    by_cases h0 : len = 0
    · subst h0
      exact ⟨some x, 0, cap, [], rfl, some x, cap, rfl, Nat.zero_le _, fun h => by simp at h⟩
    · have hat : ∀ i, i < len → ∃ y c0 c1 c2 c3, W.cell? (x.add (i * 4)) = some c0 ∧ W.cell? ((x.add (i * 4)).add 1) = some c1 ∧ W.cell? ((x.add (i * 4)).add 2) = some c2 ∧ W.cell? ((x.add (i * 4)).add 3) = some c3 ∧ DataW.trod enc Try.prog W 0 (fun _ => true) true n 51 [c0, c1, c2, c3] = some y := by
        intro i hi
        have h := hel i hi
        obtain ⟨y, hy⟩ : ∃ y, elems[i]? = some y := ⟨_, List.getElem?_eq_getElem (by omega)⟩
        rw [hy, Option.bind_eq_some_iff] at h
        obtain ⟨r, hr, ht⟩ := h
        obtain ⟨c0, c1, c2, c3, rfl, k0, k1, k2, k3⟩ := acts_cells4 hr
        exact ⟨y, c0, c1, c2, c3, k0, k1, k2, k3, ht⟩
      have hspot : x.spot = none ∧ x.block < W.heap.size := by
        obtain ⟨_, _, _, _, _, k0, _⟩ := hat 0 (by omega)
        rw [show 0 * 4 = 0 from rfl, tens_zero] at k0
        exact tens_spot k0
      obtain ⟨b, off, spot⟩ := x
      obtain ⟨hs, hb⟩ := hspot
      obtain rfl : spot = none := hs
      have key : ∀ i, ∃ t : Ac, i < len → AcAt W b (off + i * 4) t ∧ t.ok := by
        intro i
        by_cases hi : i < len
        · obtain ⟨y, c0, c1, c2, c3, k0, k1, k2, k3, ht⟩ := hat i hi
          obtain ⟨t, rfl, rfl, rfl, rfl, ho⟩ := f_ac ht
          rw [Go.WideShapes.add_plain] at k0 k1 k2 k3
          rw [Go.WideShapes.add_plain] at k1 k2 k3
          exact ⟨t, fun _ => ⟨⟨k0, k1, k2, k3⟩, ho⟩⟩
        · exact ⟨⟨0, 0, 0, ByteArray.empty⟩, fun h => absurd h hi⟩
      have hll : ((List.range len).map fun i => Classical.choose (key i)).length = len := by simp
      refine ⟨some ⟨b, off, none⟩, len, cap, (List.range len).map fun i => Classical.choose (key i), rfl, some ⟨b, off, none⟩, cap, by rw [hll], by rw [hll]; exact hl, fun _ => ⟨b, off, rfl, hb, fun j l hj => ?_⟩⟩
      rw [List.getElem?_map] at hj
      by_cases hlt : j < len
      · rw [List.getElem?_range hlt] at hj
        have := Classical.choose_spec (key j) hlt
        simp at hj
        subst hj
        exact this
      · rw [List.getElem?_eq_none (by simp; omega)] at hj
        cases hj
end
end Go.Proofs.Ytegfjndlkjfepaa
