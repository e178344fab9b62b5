/- LinesPuts: what a list of lists of bytes that is handed over reads as. -/
import Derived.Test.YthpbcfoaabacgaaGreatDoorLnT
import Derived.ProofKit
import Derived.OpenShut
import Derived.ChangeOld
import Derived.Below
import Derived.Lib.SmallJoins
namespace Go.Proofs.YthpbcfoaabacgaaGreatDoor
open Go Go.Proofs Go.RowKit Go.Shelf
open Go.ChangeShapes Go.WideShapes Go.ChangeAt

theorem cell_spot {W : World} {x : Addr} {v : Value} (h : W.cell? x = some v) : x.spot = none ∧ x.block < W.heap.size := by
  unfold World.cell? at h
  split at h
  · rename_i he
    split at h
    · cases h
    · rename_i hs
      exact ⟨by cases hx : x.spot with
        | none => rfl
        | some s => rw [hx] at hs; simp at hs, (Array.getElem?_eq_some_iff.1 he).1⟩
  · cases h
theorem add_zero (x : Addr) : x.add 0 = x := by unfold Addr.add; simp
/-- bytes out of whole numbers -/
theorem bytes_reads {W : World} {x : Addr} {len cap : Nat} {zs : List Int} (hl : len ≤ cap) (hz : zs.length = cap) (hc : ∀ i, i < zs.length → W.cell? (x.add i) = some (.int .u8 (zs.getD i 0))) (hw : ∀ n ∈ zs, (Lit.int .u8 n).wf = true) :
    ∃ l : List UInt8, l.length = len ∧ RdC W (.slice (some x) len cap) l.length (bcells l) := by
  have hlen : ((zs.take len).map fun z => UInt8.ofNat z.toNat).length = len := by rw [List.length_map, List.length_take]; omega
  refine ⟨(zs.take len).map fun z => UInt8.ofNat z.toNat, hlen, some x, cap, by rw [hlen], by rw [hlen]; exact hl, fun h0 => ?_⟩
  rw [hlen] at h0
  have h1 := hc 0 (by omega)
  rw [add_zero] at h1
  obtain ⟨hs, hb⟩ := cell_spot h1
  obtain ⟨b, off, spot⟩ := x
  obtain rfl : spot = none := hs
  refine ⟨b, off, rfl, hb, fun j u hu => ?_⟩
  unfold bcells at hu
  rw [List.getElem?_map, List.getElem?_map, List.getElem?_take] at hu
  by_cases hj : j < len
  · rw [if_pos hj, List.getElem?_eq_getElem (show j < zs.length by omega)] at hu
    simp only [Option.map_some, Option.some.injEq] at hu
    have e := hc j (by omega)
    have hwf := hw zs[j] (List.getElem_mem (by omega))
    simp [Lit.wf, IntKind.min, IntKind.max, IntKind.signed, IntKind.bits] at hwf
    rw [← Go.WideShapes.add_plain, e, ← hu]
    simp only [List.getD_eq_getElem?_getD, List.getElem?_eq_getElem (show j < zs.length by omega), Option.getD_some, bcell]
    congr 2
    rw [UInt8.toNat_ofNat']
    omega
  · rw [if_neg hj] at hu; cases hu
section
variable {H : Type} {enc : TypeId × Value → H} {W : World}
theorem f_bytes {n : Nat} {c : Value} {y : DataW H × List MemPlace} (h : DataW.trod enc Tryz.prog W 0 (fun _ => true) true n 42 [c] = some y) (hw : ∀ k ∈ y.1.weights Tryz.prog 42, k ≤ reachBytes) :
    ∃ l : List UInt8, RdC W c l.length (bcells l) ∧ l.length ≤ 140737488355328 := by
  rcases open_ints Tryz.underlying42 Tryz.underlying5 (by kernel_rfl) h with ⟨hcs, _⟩ | ⟨x, len, cap, zs, hcs, _, hl, hm, hz, hx, hcell, hwz⟩
  · obtain rfl : c = .slice none 0 0 := by simpa using hcs
    exact ⟨[], ⟨none, 0, rfl, Nat.le_refl _, fun h => by simp at h⟩, by simp⟩
  · obtain rfl : c = .slice (some x) len cap := by simpa using hcs
    have hz' : zs.length = cap := by simpa using hz
    obtain ⟨l, rfl, hr⟩ := bytes_reads hl hz' hcell hwz
    refine ⟨l, hr, ?_⟩
    have hb : Tryz.prog.bytesOf 5 = 1 := by kernel_rfl
    have := hw (((lits .u8 (zs.take l.length) : List (DataW H)).length + (lits .u8 (zs.drop l.length) : List (DataW H)).length) * Tryz.prog.bytesOf 5) (by rw [hx]; simp [DataW.weights, Tryz.underlying42])
    rw [hb] at this
    simp [lits] at this
    have := reachBytes_lt
    omega
theorem weights_in {P : Program} {e : TypeId} {l : List (DataW H × List MemPlace)} {i : Nat} {y : DataW H × List MemPlace} (h : l[i]? = some y) {k : Nat} (hk : k ∈ y.1.weights P e) : k ∈ DataW.weightsAll P e (l.map (·.1)) := by
  induction l generalizing i with
  | nil => simp at h
  | cons x t ih =>
    simp only [List.map_cons, DataW.weightsAll, List.mem_append]
    cases i with
    | zero => simp at h; subst h; exact .inl hk
    | succ i => exact .inr (ih (by simpa using h))
theorem cells1 {a : Addr} {r : List Value} (h : W.cells? 0 a 1 = some r) : ∃ c0, r = [c0] ∧ W.cell? a = some c0 := by
  unfold World.cells? at h
  rw [if_pos (Nat.zero_le _)] at h
  have e : List.range 1 = [0] := rfl
  rw [e] at h
  simp only [List.mapM_cons, List.mapM_nil, Option.bind_eq_bind, Option.bind_eq_some_iff, Option.pure_def] at h
  obtain ⟨c0, h0, s1, h5, h6⟩ := h
  cases h5; cases h6
  rw [add_zero] at h0
  exact ⟨c0, rfl, h0⟩
theorem f_rows {v : Value} {d : DataW H} {p : List MemPlace} {fuel : Nat} (hf : DataW.trod enc Tryz.prog W 0 (fun _ => true) true fuel 22 [v] = some (d, p)) (hw : ∀ k ∈ d.weights Tryz.prog 22, k ≤ reachBytes) :
    ∃ (a : Option Addr) (n c : Nat) (ls : List (List UInt8)), v = .slice a n c ∧ RowB W (.slice a n c) ls := by
  rcases DataW.trod_slice Tryz.underlying22 hf with ⟨hcs, _⟩ | ⟨x, len, cap, elems, rest, n, _, hcs, hx, _, hl, hm, hlen, hel, hsp, _⟩
  · obtain rfl : v = .slice none 0 0 := by simpa using hcs
    exact ⟨none, 0, 0, [], rfl, none, 0, rfl, Nat.le_refl _, fun h => by simp at h⟩
  · obtain rfl : v = .slice (some x) len cap := by simpa using hcs
    have h3 : Tryz.prog.cellsOf 42 = 1 := by kernel_rfl
    rw [h3] at hel hsp
    by_cases h0 : len = 0
    · subst h0
      exact ⟨some x, 0, cap, [], rfl, some x, cap, rfl, Nat.zero_le _, fun h => by simp at h⟩
    · have hat : ∀ i, i < len → ∃ y c0, elems[i]? = some y ∧ W.cell? (x.add i) = some c0 ∧ DataW.trod enc Tryz.prog W 0 (fun _ => true) true n 42 [c0] = some y := by
        intro i hi
        have h := hel i hi
        rw [Nat.mul_one] at h
        obtain ⟨y, hy⟩ : ∃ y, elems[i]? = some y := ⟨_, List.getElem?_eq_getElem (by omega)⟩
        rw [hy, Option.bind_eq_some_iff] at h
        obtain ⟨r, hr, ht⟩ := h
        obtain ⟨c0, rfl, k0⟩ := cells1 hr
        exact ⟨y, c0, hy, k0, ht⟩
      have hspot : x.spot = none ∧ x.block < W.heap.size := by
        obtain ⟨_, _, _, k0, _⟩ := hat 0 (by omega)
        rw [add_zero] at k0
        exact cell_spot k0
      obtain ⟨b, off, spot⟩ := x
      obtain ⟨hs, hb⟩ := hspot
      obtain rfl : spot = none := hs
      have key : ∀ i, ∃ l : List UInt8, i < len → ∃ u, W.cell? ⟨b, off + i, none⟩ = some u ∧ RdC W u l.length (bcells l) ∧ l.length ≤ 140737488355328 := by
        intro i
        by_cases hi : i < len
        · obtain ⟨y, c0, hy, k0, ht⟩ := hat i hi
          obtain ⟨l, r1, r2⟩ := f_bytes ht (fun k hk => hw k (by
            obtain ⟨rfl, _⟩ := Prod.mk.injEq .. ▸ hx
            simp only [DataW.weights, Tryz.underlying22, List.mem_cons, List.mem_append]
            exact .inr (.inl (weights_in hy hk))))
          rw [Go.WideShapes.add_plain] at k0
          exact ⟨l, fun _ => ⟨c0, k0, r1, r2⟩⟩
        · exact ⟨[], fun h => absurd h hi⟩
      have hll : ((List.range len).map fun i => Classical.choose (key i)).length = len := by simp
      refine ⟨some ⟨b, off, none⟩, len, cap, (List.range len).map fun i => Classical.choose (key i), rfl, some ⟨b, off, none⟩, cap, by rw [hll], by rw [hll]; exact hl, fun _ => ⟨b, off, rfl, hb, fun j l hj => ?_⟩⟩
      rw [List.getElem?_map] at hj
      by_cases hlt : j < len
      · rw [List.getElem?_range hlt] at hj
        have := Classical.choose_spec (key j) hlt
        simp at hj
        subst hj
        exact this
      · rw [List.getElem?_eq_none (by simp; omega)] at hj
        cases hj
end
end Go.Proofs.YthpbcfoaabacgaaGreatDoor
