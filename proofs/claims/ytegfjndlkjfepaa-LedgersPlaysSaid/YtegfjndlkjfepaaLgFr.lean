/- Ledgers: what a list of tenants that is handed over reads as. -/
import Derived.Test.YtegfjndlkjfepaaBkM
import Derived.ProofKit
import Derived.OpenShut
import Derived.ChangeOld
import Derived.Below
import Derived.Lib.SmallJoins
namespace Go.Proofs.Ytegfjndlkjfepaa
open Go Go.Proofs Go.RowKit Go.Shelf
open Go.ChangeShapes Go.WideShapes Go.ChangeAt
set_option linter.unusedVariables false
set_option maxRecDepth 100000

/-- a tenant: its name, its key, its rate -/
structure Ten where
  n : ByteArray
  k : ByteArray
  r : Int
def Ten.ok (t : Ten) : Prop := t.n.size ≤ maxLen ∧ t.k.size ≤ maxLen ∧ -9223372036854775808 ≤ t.r ∧ t.r ≤ 9223372036854775807
def tcells (t : Ten) : List Value := [.string t.n, .string t.k, .int .i64 t.r]
def wcells (l : List UInt32) : List Value := l.map fun x => .int .u32 (x.toNat : Int)
/-- one in memory -/
def TenAt (W : World) (b o : Nat) (t : Ten) : Prop := W.cell? ⟨b, o, none⟩ = some (.string t.n) ∧ W.cell? ⟨b, o + 1, none⟩ = some (.string t.k) ∧ W.cell? ⟨b, o + 2, none⟩ = some (.int .i64 t.r)
/-- a list of them -/
def Tens (W : World) (v : Value) (ts : List Ten) : Prop :=
  ∃ a cap, v = .slice a ts.length cap ∧ ts.length ≤ cap ∧ (0 < ts.length → ∃ b off, a = some ⟨b, off, none⟩ ∧ b < W.heap.size ∧ ∀ (j : Nat) (t : Ten), ts[j]? = some t → TenAt W b (off + j * 3) t ∧ t.ok)
theorem TenAt.below {w W : World} {b o : Nat} {t : Ten} (h : TenAt w b o t) (hb : b < w.heap.size) (q : Below w.heap.size w W) : TenAt W b o t :=
  ⟨(q.cell (p := ⟨b, o, none⟩) hb).trans h.1, (q.cell (p := ⟨b, o + 1, none⟩) hb).trans h.2.1, (q.cell (p := ⟨b, o + 2, none⟩) hb).trans h.2.2⟩
theorem Tens.below {w W : World} {v : Value} {ts : List Ten} (h : Tens w v ts) (q : Below w.heap.size w W) : Tens W v ts := by
  obtain ⟨a, cap, rfl, hc, h⟩ := h
  refine ⟨a, cap, rfl, hc, fun h0 => ?_⟩
  obtain ⟨b, off, rfl, hb, hj⟩ := h h0
  exact ⟨b, off, rfl, Nat.lt_of_lt_of_le hb q.size, fun j t ht => ⟨(hj j t ht).1.below hb q, (hj j t ht).2⟩⟩
theorem tens_spot {W : World} {x : Addr} {v : Value} (h : W.cell? x = some v) : x.spot = none ∧ x.block < W.heap.size := by
  unfold World.cell? at h
  split at h
  · rename_i he
    split at h
    · cases h
    · rename_i hs
      exact ⟨by cases hx : x.spot with
        | none => rfl
        | some s => rw [hx] at hs; simp at hs, (Array.getElem?_eq_some_iff.1 he).1⟩
  · cases h
theorem tens_zero (x : Addr) : x.add 0 = x := by unfold Addr.add; simp
theorem tens_cells3 {W : World} {a : Addr} {r : List Value} (h : W.cells? 0 a 3 = some r) : ∃ c0 c1 c2, r = [c0, c1, c2] ∧ W.cell? a = some c0 ∧ W.cell? (a.add 1) = some c1 ∧ W.cell? (a.add 2) = some c2 := by
  unfold World.cells? at h
  rw [if_pos (Nat.zero_le _)] at h
  have e : List.range 3 = [0, 1, 2] := rfl
  rw [e] at h
  simp only [List.mapM_cons, List.mapM_nil, Option.bind_eq_bind, Option.bind_eq_some_iff, Option.pure_def] at h
  obtain ⟨c0, h0, s1, ⟨c1, h1, s2, ⟨c2, h2, s3, h3, h4⟩, h5⟩, h6⟩ := h
  cases h3; cases h4; cases h5; cases h6
  rw [tens_zero] at h0
  exact ⟨c0, c1, c2, rfl, h0, h1, h2⟩
section
variable {H : Type} {enc : TypeId × Value → H} {W : World}
theorem f_ten {n : Nat} {c0 c1 c2 : Value} {y : DataW H × List MemPlace} (h : DataW.trod enc Try.prog W 0 (fun _ => true) true n 32 [c0, c1, c2] = some y) :
    ∃ t : Ten, c0 = .string t.n ∧ c1 = .string t.k ∧ c2 = .int .i64 t.r ∧ t.ok := by
  have k0 : Try.prog.cellsOf 9 = 1 := by kernel_rfl
  have k2 : Try.prog.cellsOf 3 = 1 := by kernel_rfl
  obtain ⟨y0, y1, y2, m, _, _, h0, h1, h2⟩ := Go.Deep.trod_struct3 Try.underlying32 h
  simp only [k0, k2] at h0 h1 h2
  obtain ⟨a, e0, _, s0⟩ := DataW.trod_string Try.underlying9 h0
  obtain ⟨b, e1, _, s1⟩ := DataW.trod_string Try.underlying9 h1
  obtain ⟨u, e2, _, w2⟩ := DataW.trod_int Try.underlying3 h2
  simp at e0 e1 e2
  simp [Lit.wf, IntKind.min, IntKind.max, IntKind.signed, IntKind.bits] at w2
  exact ⟨⟨a, b, u⟩, e0, e1, e2, s0, s1, by show (_ : Int) ≤ u; omega, by show u ≤ (_ : Int); omega⟩
/-- a tenant by value -/
theorem open_ten {base : Nat} {v : Value} {d : DataW H} {p : List MemPlace} (ho : Value.okWide Try.prog W .any base 32 v) (h : DataW.Trod enc Try.prog W 0 (fun _ => true) true 32 v d p) : ∃ t : Ten, v = .agg #[.string t.n, .string t.k, .int .i64 t.r] ∧ t.ok := by
  obtain ⟨v0, v1, v2, y0, y1, y2, n, rfl, _, _, h0, h1, h2⟩ := Go.Joins.open_agg3 Try.underlying32 (by kernel_rfl) (by kernel_rfl) ho h
  obtain ⟨a, e0, _, s0⟩ := DataW.trod_string Try.underlying9 h0
  obtain ⟨b, e1, _, s1⟩ := DataW.trod_string Try.underlying9 h1
  obtain ⟨u, e2, _, w2⟩ := DataW.trod_int Try.underlying3 h2
  simp only [List.cons.injEq, and_true] at e0 e1 e2
  simp [Lit.wf, IntKind.min, IntKind.max, IntKind.signed, IntKind.bits] at w2
  exact ⟨⟨a, b, u⟩, by rw [e0, e1, e2], s0, s1, by show (_ : Int) ≤ u; omega, by show u ≤ (_ : Int); omega⟩
theorem f_tens {v : Value} {d : DataW H} {p : List MemPlace} {fuel : Nat} (hf : DataW.trod enc Try.prog W 0 (fun _ => true) true fuel 22 [v] = some (d, p)) :
    ∃ (a : Option Addr) (n c : Nat) (ts : List Ten), v = .slice a n c ∧ Tens W (.slice a n c) ts := by
  rcases DataW.trod_slice Try.underlying22 hf with ⟨hcs, _⟩ | ⟨x, len, cap, elems, rest, n, _, hcs, hx, _, hl, hm, hlen, hel, hsp, _⟩
  · obtain rfl : v = .slice none 0 0 := by simpa using hcs
    exact ⟨none, 0, 0, [], rfl, none, 0, rfl, Nat.le_refl _, fun h => by simp at h⟩
  · obtain rfl : v = .slice (some x) len cap := by simpa using hcs
    have h3 : Try.prog.cellsOf 32 = 3 := by kernel_rfl
    rw [h3] at hel hsp
    by_cases h0 : len = 0
    · subst h0
      exact ⟨some x, 0, cap, [], rfl, some x, cap, rfl, Nat.zero_le _, fun h => by simp at h⟩
    · have hat : ∀ i, i < len → ∃ y c0 c1 c2, W.cell? (x.add (i * 3)) = some c0 ∧ W.cell? ((x.add (i * 3)).add 1) = some c1 ∧ W.cell? ((x.add (i * 3)).add 2) = some c2 ∧ DataW.trod enc Try.prog W 0 (fun _ => true) true n 32 [c0, c1, c2] = some y := by
        intro i hi
        have h := hel i hi
        obtain ⟨y, hy⟩ : ∃ y, elems[i]? = some y := ⟨_, List.getElem?_eq_getElem (by omega)⟩
        rw [hy, Option.bind_eq_some_iff] at h
        obtain ⟨r, hr, ht⟩ := h
        obtain ⟨c0, c1, c2, rfl, k0, k1, k2⟩ := tens_cells3 hr
        exact ⟨y, c0, c1, c2, k0, k1, k2, ht⟩
      have hspot : x.spot = none ∧ x.block < W.heap.size := by
        obtain ⟨_, _, _, _, k0, _⟩ := hat 0 (by omega)
        rw [show 0 * 3 = 0 from rfl, tens_zero] at k0
        exact tens_spot k0
      obtain ⟨b, off, spot⟩ := x
      obtain ⟨hs, hb⟩ := hspot
      obtain rfl : spot = none := hs
      have key : ∀ i, ∃ t : Ten, i < len → TenAt W b (off + i * 3) t ∧ t.ok := by
        intro i
        by_cases hi : i < len
        · obtain ⟨y, c0, c1, c2, k0, k1, k2, ht⟩ := hat i hi
          obtain ⟨t, rfl, rfl, rfl, ho⟩ := f_ten ht
          rw [Go.WideShapes.add_plain] at k0 k1 k2
          rw [Go.WideShapes.add_plain] at k1 k2
          exact ⟨t, fun _ => ⟨⟨k0, k1, k2⟩, ho⟩⟩
        · exact ⟨⟨ByteArray.empty, ByteArray.empty, 0⟩, fun h => absurd h hi⟩
      have hll : ((List.range len).map fun i => Classical.choose (key i)).length = len := by simp
      refine ⟨some ⟨b, off, none⟩, len, cap, (List.range len).map fun i => Classical.choose (key i), rfl, some ⟨b, off, none⟩, cap, by rw [hll], by rw [hll]; exact hl, fun _ => ⟨b, off, rfl, hb, fun j l hj => ?_⟩⟩
      rw [List.getElem?_map] at hj
      by_cases hlt : j < len
      · rw [List.getElem?_range hlt] at hj
        have := Classical.choose_spec (key j) hlt
        simp at hj
        subst hj
        exact this
      · rw [List.getElem?_eq_none (by simp; omega)] at hj
        cases hj
/-- numbers of 32 bits -/
theorem f_u32s {n : Nat} {c : Value} {y : DataW H × List MemPlace} (h : DataW.trod enc Try.prog W 0 (fun _ => true) true n 23 [c] = some y) :
    ∃ l : List UInt32, RdC W c l.length (wcells l) := by
  rcases open_ints Try.underlying23 Try.underlying28 (by kernel_rfl) h with ⟨hcs, _⟩ | ⟨x, len, cap, zs, hcs, _, hl, hm, hz, hx, hcell, hwz⟩
  · obtain rfl : c = .slice none 0 0 := by simpa using hcs
    exact ⟨[], none, 0, rfl, Nat.le_refl _, fun h => by simp at h⟩
  · obtain rfl : c = .slice (some x) len cap := by simpa using hcs
    have hz' : zs.length = cap := by simpa using hz
    have hlen : ((zs.take len).map fun z => UInt32.ofNat z.toNat).length = len := by rw [List.length_map, List.length_take]; omega
    refine ⟨(zs.take len).map fun z => UInt32.ofNat z.toNat, some x, cap, by rw [hlen], by rw [hlen]; exact hl, fun h0 => ?_⟩
    rw [hlen] at h0
    have h1 := hcell 0 (by omega)
    rw [tens_zero] at h1
    obtain ⟨hs, hb⟩ := tens_spot h1
    obtain ⟨b, off, spot⟩ := x
    obtain rfl : spot = none := hs
    refine ⟨b, off, rfl, hb, fun j u hu => ?_⟩
    unfold wcells at hu
    rw [List.getElem?_map, List.getElem?_map, List.getElem?_take] at hu
    by_cases hj : j < len
    · rw [if_pos hj, List.getElem?_eq_getElem (show j < zs.length by omega)] at hu
      simp only [Option.map_some, Option.some.injEq] at hu
      have e := hcell j (by omega)
      have hwf := hwz zs[j] (List.getElem_mem (by omega))
      simp [Lit.wf, IntKind.min, IntKind.max, IntKind.signed, IntKind.bits] at hwf
      rw [← Go.WideShapes.add_plain, e, ← hu]
      simp only [List.getD_eq_getElem?_getD, List.getElem?_eq_getElem (show j < zs.length by omega), Option.getD_some]
      congr 2
      rw [UInt32.toNat_ofNat']
      omega
    · rw [if_neg hj] at hu; cases hu
end
end Go.Proofs.Ytegfjndlkjfepaa
