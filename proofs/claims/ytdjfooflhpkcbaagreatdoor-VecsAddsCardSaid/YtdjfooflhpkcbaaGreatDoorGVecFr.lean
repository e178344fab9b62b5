/- What a row of fractions that is handed over reads as. -/
import Derived.ProofKit
import Derived.OpenShut
import Derived.ChangeOld
import Derived.Below
import Derived.Lib.SmallJoins
import Derived.Test.YtdjfooflhpkcbaaGreatDoorGVecO
set_option maxRecDepth 100000
set_option linter.unusedSimpArgs false
set_option linter.unusedVariables false
namespace Go.Proofs.YtdjfooflhpkcbaaGreatDoor
open Go Go.Proofs Go.RowKit Go.Shelf Nu
open Go.ChangeShapes Go.WideShapes Go.ChangeAt
theorem cell_spot {W : World} {x : Addr} {v : Value} (h : W.cell? x = some v) : x.spot = none ∧ x.block < W.heap.size := by
 unfold World.cell? at h
 split at h
 · rename_i he
   split at h
   · cases h
   · rename_i hs
     exact ⟨by cases hx : x.spot with
      | none => rfl
      | some s => rw [hx] at hs; simp at hs, (Array.getElem?_eq_some_iff.1 he).1⟩
 · cases h
theorem add_zero (x : Addr) : x.add 0 = x := by unfold Addr.add; simp
theorem row_reads {W : World} {x : Addr} {len cap : Nat} {zs : List Int} (hl : len ≤ cap) (hz : zs.length = cap) (hc : ∀ i, i < zs.length → W.cell? (x.add i) = some (.int .u32 (zs.getD i 0))) (hw : ∀ n ∈ zs, (Lit.int .u32 n).wf = true) :
   ∃ l : List Nat, l.length = len ∧ Sm l ∧ Reads W (.slice (some x) l.length cap) l := by
 by_cases h0 : cap = 0
 · subst h0
   obtain rfl : len = 0 := by omega
   exact ⟨[], rfl, Sm.nil, .inr (.inr ⟨x, rfl, rfl⟩)⟩
 · have h1 := hc 0 (by omega)
   rw [add_zero] at h1
   obtain ⟨hs, hb⟩ := cell_spot h1
   obtain ⟨b, off, spot⟩ := x
   obtain rfl : spot = none := hs
   have hlen : ((zs.take len).map Int.toNat).length = len := by rw [List.length_map, List.length_take]; omega
   have hb' : ∀ z ∈ zs, 0 ≤ z ∧ z < 4294967296 := fun z hz' => by
     have := Go.bounds_u32 (hw z hz'); omega
   refine ⟨(zs.take len).map Int.toNat, hlen, ?_, .inr (.inl ⟨b, off, cap, rfl, hb, by rw [hlen]; exact hl, fun j hj => ?_⟩)⟩
   · intro y hy
     obtain ⟨z, hz1, rfl⟩ := List.mem_map.1 hy
     have := hb' z (List.mem_of_mem_take hz1)
     omega
   · rw [hlen] at hj
     have e := hc j (by omega)
     rw [← Go.WideShapes.add_plain, e]
     have hz2 := hb' zs[j] (List.getElem_mem (by omega))
     simp only [List.getD_eq_getElem?_getD, List.getElem?_map, List.getElem?_take, if_pos hj, List.getElem?_eq_getElem (show j < zs.length by omega), Option.map_some, Option.getD_some]
     congr 2
     omega
section
variable {H : Type} {enc : TypeId × Value → H} {W : World}
theorem f_nat {n : Nat} {c : Value} {y : DataW H × List MemPlace} (h : DataW.trod enc Tryz.prog W 0 (fun _ => true) true n 26 [c] = some y) (hw : ∀ k ∈ y.1.weights Tryz.prog 26, k ≤ reachBytes) :
   ∃ (a : Option Addr) (cap : Nat) (l : List Nat), c = .slice a l.length cap ∧ Sm l ∧ Reads W (.slice a l.length cap) l ∧ l.length ≤ 70368744177664 := by
 rcases open_ints Tryz.underlying26 Tryz.underlying71 (by kernel_rfl) h with ⟨hcs, _⟩ | ⟨x, len, cap, zs, hcs, _, hl, hm, hz, hx, hcell, hwz⟩
 · obtain rfl : c = .slice none 0 0 := by simpa using hcs
   exact ⟨none, 0, [], rfl, Sm.nil, Reads.nil W, by simp⟩
 · obtain rfl : c = .slice (some x) len cap := by simpa using hcs
   have hz' : zs.length = cap := by simpa using hz
   obtain ⟨l, rfl, hs, hr⟩ := row_reads hl hz' hcell hwz
   refine ⟨some x, cap, l, rfl, hs, hr, ?_⟩
   have hb : Tryz.prog.bytesOf 71 = 4 := by kernel_rfl
   have := hw (((lits .u32 (zs.take l.length) : List (DataW H)).length + (lits .u32 (zs.drop l.length) : List (DataW H)).length) * Tryz.prog.bytesOf 71) (by rw [hx]; simp [DataW.weights, Tryz.underlying26])
   rw [hb] at this
   simp [lits] at this
   have := reachBytes_lt
   omega
theorem f_cells {n : Nat} {c0 c1 c2 : Value} {y : DataW H × List MemPlace} (hf : DataW.trod enc Tryz.prog W 0 (fun _ => true) true n 30 [c0, c1, c2] = some y) (hw : ∀ k ∈ y.1.weights Tryz.prog 30, k ≤ reachBytes) :
  ∃ (q : Qr) (a a' : Option Addr) (c c' : Nat), c0 = .bool q.1 ∧ c1 = .slice a q.2.1.length c ∧ c2 = .slice a' q.2.2.length c' ∧ Reads W (.slice a q.2.1.length c) q.2.1 ∧ Reads W (.slice a' q.2.2.length c') q.2.2 ∧ Big q := by
 obtain ⟨xs, n1, _, hx, _, hlen, hg⟩ := DataW.trod_struct Tryz.underlying30 hf
 match xs, hlen with
 | [y0, y1], _ =>
  have g0 := hg 0 _ rfl
  have g1 := hg 1 _ rfl
  have e0 : DataW.trod enc Tryz.prog W 0 (fun _ => true) true n1 28 [c0, c1] = some y0 := g0
  have e1 : DataW.trod enc Tryz.prog W 0 (fun _ => true) true n1 26 [c2] = some y1 := g1
  obtain ⟨us, n', _, hx', _, hlen', hg'⟩ := DataW.trod_struct Tryz.underlying28 e0
  match us, hlen' with
  | [u0, u1], _ =>
   have f0 : DataW.trod enc Tryz.prog W 0 (fun _ => true) true n' 4 [c0] = some u0 := hg' 0 _ rfl
   have f1 : DataW.trod enc Tryz.prog W 0 (fun _ => true) true n' 26 [c1] = some u1 := hg' 1 _ rfl
   subst hx
   simp only [List.map_cons, List.map_nil] at hx'
   obtain ⟨s, hs, _⟩ := DataW.trod_bool Tryz.underlying4 f0
   obtain rfl : c0 = .bool s := by simpa using hs
   have w1 : ∀ k ∈ u1.1.weights Tryz.prog 26, k ≤ reachBytes := fun k hk => hw k (by
    simp only [DataW.weights, Tryz.underlying30, List.map_cons, List.map_nil, DataW.weightsEach, List.mem_append]
    left
    rw [hx']; simp only [DataW.weights, Tryz.underlying28, List.map_cons, List.map_nil, DataW.weightsEach, List.mem_append]
    right; left; exact hk)
   have w2 : ∀ k ∈ y1.1.weights Tryz.prog 26, k ≤ reachBytes := fun k hk => hw k (by
    simp only [DataW.weights, Tryz.underlying30, List.map_cons, List.map_nil, DataW.weightsEach, List.mem_append]
    right; left; exact hk)
   obtain ⟨a1, cp1, l1, rfl, s1, r1, b1⟩ := f_nat f1 w1
   obtain ⟨a2, cp2, l2, rfl, s2, r2, b2⟩ := f_nat e1 w2
   exact ⟨(s, l1, l2), a1, a2, cp1, cp2, rfl, rfl, rfl, r1, r2, ⟨s1, s2⟩, b1, b2⟩
theorem weights_in {P : Program} {e : TypeId} {l : List (DataW H × List MemPlace)} {i : Nat} {y : DataW H × List MemPlace} (h : l[i]? = some y) {k : Nat} (hk : k ∈ y.1.weights P e) : k ∈ DataW.weightsAll P e (l.map (·.1)) := by
 induction l generalizing i with
 | nil => simp at h
 | cons x t ih =>
  simp only [List.map_cons, DataW.weightsAll, List.mem_append]
  cases i with
  | zero => simp at h; subst h; exact .inl hk
  | succ i => exact .inr (ih (by simpa using h))
theorem cells3 {a : Addr} {r : List Value} (h : W.cells? 0 a 3 = some r) : ∃ c0 c1 c2, r = [c0, c1, c2] ∧ W.cell? a = some c0 ∧ W.cell? (a.add 1) = some c1 ∧ W.cell? (a.add 2) = some c2 := by
 unfold World.cells? at h
 rw [if_pos (Nat.zero_le _)] at h
 have e : List.range 3 = [0, 1, 2] := rfl
 rw [e] at h
 simp only [List.mapM_cons, List.mapM_nil, Option.bind_eq_bind, Option.bind_eq_some_iff, Option.pure_def] at h
 obtain ⟨c0, h0, s1, ⟨c1, h1, s2, ⟨c2, h2, s3, h3, h4⟩, h5⟩, h6⟩ := h
 cases h3; cases h4; cases h5; cases h6
 rw [add_zero] at h0
 exact ⟨c0, c1, c2, rfl, h0, h1, h2⟩
theorem f_rats {v : Value} {d : DataW H} {p : List MemPlace} {fuel : Nat} (hf : DataW.trod enc Tryz.prog W 0 (fun _ => true) true fuel 22 [v] = some (d, p)) (hw : ∀ k ∈ d.weights Tryz.prog 22, k ≤ reachBytes) :
   ∃ (a : Option Addr) (n c : Nat) (qs : List Qr), v = .slice a n c ∧ GOK W (a, n, c, qs) := by
 rcases DataW.trod_slice Tryz.underlying22 hf with ⟨hcs, _⟩ | ⟨x, len, cap, elems, rest, n, _, hcs, hx, _, hl, hm, hlen, hel, hsp, _⟩
 · obtain rfl : v = .slice none 0 0 := by simpa using hcs
   exact ⟨none, 0, 0, [], rfl, VReads.nil W, by simp⟩
 · obtain rfl : v = .slice (some x) len cap := by simpa using hcs
   have h3 : Tryz.prog.cellsOf 30 = 3 := by kernel_rfl
   rw [h3] at hel hsp
   by_cases h0 : cap = 0
   · subst h0
     obtain rfl : len = 0 := by omega
     exact ⟨some x, 0, 0, [], rfl, .inr (.inr ⟨x, rfl, rfl⟩), by simp⟩
   · have hat : ∀ i, i < len → ∃ y c0 c1 c2, elems[i]? = some y ∧ W.cell? (x.add (i * 3)) = some c0 ∧ W.cell? ((x.add (i * 3)).add 1) = some c1 ∧ W.cell? ((x.add (i * 3)).add 2) = some c2 ∧ DataW.trod enc Tryz.prog W 0 (fun _ => true) true n 30 [c0, c1, c2] = some y := by
       intro i hi
       have h := hel i hi
       obtain ⟨y, hy⟩ : ∃ y, elems[i]? = some y := ⟨_, List.getElem?_eq_getElem (by omega)⟩
       rw [hy, Option.bind_eq_some_iff] at h
       obtain ⟨r, hr, ht⟩ := h
       obtain ⟨c0, c1, c2, rfl, k0, k1, k2⟩ := cells3 hr
       exact ⟨y, c0, c1, c2, hy, k0, k1, k2, ht⟩
     have hspot : x.spot = none ∧ x.block < W.heap.size := by
       by_cases hl0 : len = 0
       · obtain ⟨hr, hj⟩ := hsp rfl
         have h := hj 0 (by omega)
         obtain ⟨y, hy⟩ : ∃ y, rest[0]? = some y := ⟨_, List.getElem?_eq_getElem (by omega)⟩
         rw [hy, Option.bind_eq_some_iff] at h
         obtain ⟨r, hr, _⟩ := h
         obtain ⟨c0, c1, c2, rfl, k0, _, _⟩ := cells3 hr
         rw [hl0, show (0 + 0) * 3 = 0 from rfl, add_zero] at k0
         exact cell_spot k0
       · obtain ⟨_, _, _, _, _, k0, _⟩ := hat 0 (by omega)
         rw [show 0 * 3 = 0 from rfl, add_zero] at k0
         exact cell_spot k0
     obtain ⟨b, off, spot⟩ := x
     obtain ⟨hs, hb⟩ := hspot
     obtain rfl : spot = none := hs
     have key : ∀ i, ∃ q : Qr, i < len → QrAt W b (off + i * 3) q ∧ Big q := by
       intro i
       by_cases hi : i < len
       · obtain ⟨y, c0, c1, c2, hy, k0, k1, k2, ht⟩ := hat i hi
         obtain ⟨q, a, a', c, c', rfl, rfl, rfl, r1, r2, hq⟩ := f_cells ht (fun k hk => hw k (by
          obtain ⟨rfl, _⟩ := Prod.mk.injEq .. ▸ hx
          simp only [DataW.weights, Tryz.underlying22, List.mem_cons, List.mem_append]
          exact .inr (.inl (weights_in hy hk))))
         rw [Go.WideShapes.add_plain] at k0 k1 k2
         rw [Go.WideShapes.add_plain] at k1 k2
         exact ⟨q, fun _ => ⟨⟨a, c, a', c', k0, k1, k2, r1, r2⟩, hq⟩⟩
       · exact ⟨default, fun h => absurd h hi⟩
     refine ⟨some ⟨b, off, none⟩, len, cap, (List.range len).map fun i => Classical.choose (key i), rfl, .inr (.inl ⟨b, off, cap, by simp [gival], hb, by simpa using hl, fun j q hq => ?_⟩), fun q hq => ?_⟩
     · simp only [List.getElem?_map] at hq
       by_cases hj : j < len
       · rw [List.getElem?_range hj] at hq
         have := Classical.choose_spec (key j) hj
         simp at hq
         subst hq
         exact this.1
       · rw [List.getElem?_eq_none (by simp; omega)] at hq
         cases hq
     · obtain ⟨j, hj, rfl⟩ := List.mem_map.1 hq
       exact (Classical.choose_spec (key j) (by simpa using hj)).2
end
end Go.Proofs.YtdjfooflhpkcbaaGreatDoor
