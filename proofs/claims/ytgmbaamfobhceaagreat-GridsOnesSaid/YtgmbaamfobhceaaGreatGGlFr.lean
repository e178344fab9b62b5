/- What rows of fractions, and grids, that are handed over read as. -/
import Derived.ProofKit
import Derived.OpenShut
import Derived.ChangeOld
import Derived.Below
import Derived.Lib.SmallJoins
import Derived.Test.YtgmbaamfobhceaaGreatGNtG
set_option linter.unusedSimpArgs false
set_option linter.unusedVariables false
set_option maxRecDepth 100000
namespace Go.Proofs.YtgmbaamfobhceaaGreat
open Go Go.Proofs Go.RowKit Go.Shelf Nu
open Go.ChangeShapes Go.WideShapes Go.ChangeAt
theorem cell_spot {W : World} {x : Addr} {v : Value} (h : W.cell? x = some v) : x.spot = none ∧ x.block < W.heap.size := by
 unfold World.cell? at h
 split at h
 · rename_i he
   split at h
   · cases h
   · rename_i hs
     exact ⟨by cases hx : x.spot with
      | none => rfl
      | some s => rw [hx] at hs; simp at hs, (Array.getElem?_eq_some_iff.1 he).1⟩
 · cases h
theorem add_zero (x : Addr) : x.add 0 = x := by unfold Addr.add; simp
theorem row_reads {W : World} {x : Addr} {len cap : Nat} {zs : List Int} (hl : len ≤ cap) (hz : zs.length = cap) (hc : ∀ i, i < zs.length → W.cell? (x.add i) = some (.int .u32 (zs.getD i 0))) (hw : ∀ n ∈ zs, (Lit.int .u32 n).wf = true) :
   ∃ l : List Nat, l.length = len ∧ Sm l ∧ Reads W (.slice (some x) l.length cap) l := by
 by_cases h0 : cap = 0
 · subst h0
   obtain rfl : len = 0 := by omega
   exact ⟨[], rfl, Sm.nil, .inr (.inr ⟨x, rfl, rfl⟩)⟩
 · have h1 := hc 0 (by omega)
   rw [add_zero] at h1
   obtain ⟨hs, hb⟩ := cell_spot h1
   obtain ⟨b, off, spot⟩ := x
   obtain rfl : spot = none := hs
   have hlen : ((zs.take len).map Int.toNat).length = len := by rw [List.length_map, List.length_take]; omega
   have hb' : ∀ z ∈ zs, 0 ≤ z ∧ z < 4294967296 := fun z hz' => by
     have := Go.bounds_u32 (hw z hz'); omega
   refine ⟨(zs.take len).map Int.toNat, hlen, ?_, .inr (.inl ⟨b, off, cap, rfl, hb, by rw [hlen]; exact hl, fun j hj => ?_⟩)⟩
   · intro y hy
     obtain ⟨z, hz1, rfl⟩ := List.mem_map.1 hy
     have := hb' z (List.mem_of_mem_take hz1)
     omega
   · rw [hlen] at hj
     have e := hc j (by omega)
     rw [← Go.WideShapes.add_plain, e]
     have hz2 := hb' zs[j] (List.getElem_mem (by omega))
     simp only [List.getD_eq_getElem?_getD, List.getElem?_map, List.getElem?_take, if_pos hj, List.getElem?_eq_getElem (show j < zs.length by omega), Option.map_some, Option.getD_some]
     congr 2
     omega
section
variable {H : Type} {enc : TypeId × Value → H} {W : World}
theorem f_nat {n : Nat} {c : Value} {y : DataW H × List MemPlace} (h : DataW.trod enc Tryz.prog W 0 (fun _ => true) true n 40 [c] = some y) (hw : ∀ k ∈ y.1.weights Tryz.prog 40, k ≤ reachBytes) :
   ∃ (a : Option Addr) (cap : Nat) (l : List Nat), c = .slice a l.length cap ∧ Sm l ∧ Reads W (.slice a l.length cap) l ∧ l.length ≤ 70368744177664 := by
 rcases open_ints Tryz.underlying40 Tryz.underlying127 (by kernel_rfl) h with ⟨hcs, _⟩ | ⟨x, len, cap, zs, hcs, _, hl, hm, hz, hx, hcell, hwz⟩
 · obtain rfl : c = .slice none 0 0 := by simpa using hcs
   exact ⟨none, 0, [], rfl, Sm.nil, Reads.nil W, by simp⟩
 · obtain rfl : c = .slice (some x) len cap := by simpa using hcs
   have hz' : zs.length = cap := by simpa using hz
   obtain ⟨l, rfl, hs, hr⟩ := row_reads hl hz' hcell hwz
   refine ⟨some x, cap, l, rfl, hs, hr, ?_⟩
   have hb : Tryz.prog.bytesOf 127 = 4 := by kernel_rfl
   have := hw (((lits .u32 (zs.take l.length) : List (DataW H)).length + (lits .u32 (zs.drop l.length) : List (DataW H)).length) * Tryz.prog.bytesOf 127) (by rw [hx]; simp [DataW.weights, Tryz.underlying40])
   rw [hb] at this
   simp [lits] at this
   have := reachBytes_lt
   omega
theorem f_cells {n : Nat} {c0 c1 c2 : Value} {y : DataW H × List MemPlace} (hf : DataW.trod enc Tryz.prog W 0 (fun _ => true) true n 44 [c0, c1, c2] = some y) (hw : ∀ k ∈ y.1.weights Tryz.prog 44, k ≤ reachBytes) :
  ∃ (q : Qr) (a a' : Option Addr) (c c' : Nat), c0 = .bool q.1 ∧ c1 = .slice a q.2.1.length c ∧ c2 = .slice a' q.2.2.length c' ∧ Reads W (.slice a q.2.1.length c) q.2.1 ∧ Reads W (.slice a' q.2.2.length c') q.2.2 ∧ Big q := by
 obtain ⟨xs, n1, _, hx, _, hlen, hg⟩ := DataW.trod_struct Tryz.underlying44 hf
 match xs, hlen with
 | [y0, y1], _ =>
  have g0 := hg 0 _ rfl
  have g1 := hg 1 _ rfl
  have e0 : DataW.trod enc Tryz.prog W 0 (fun _ => true) true n1 42 [c0, c1] = some y0 := g0
  have e1 : DataW.trod enc Tryz.prog W 0 (fun _ => true) true n1 40 [c2] = some y1 := g1
  obtain ⟨us, n', _, hx', _, hlen', hg'⟩ := DataW.trod_struct Tryz.underlying42 e0
  match us, hlen' with
  | [u0, u1], _ =>
   have f0 : DataW.trod enc Tryz.prog W 0 (fun _ => true) true n' 4 [c0] = some u0 := hg' 0 _ rfl
   have f1 : DataW.trod enc Tryz.prog W 0 (fun _ => true) true n' 40 [c1] = some u1 := hg' 1 _ rfl
   subst hx
   simp only [List.map_cons, List.map_nil] at hx'
   obtain ⟨s, hs, _⟩ := DataW.trod_bool Tryz.underlying4 f0
   obtain rfl : c0 = .bool s := by simpa using hs
   have w1 : ∀ k ∈ u1.1.weights Tryz.prog 40, k ≤ reachBytes := fun k hk => hw k (by
    simp only [DataW.weights, Tryz.underlying44, List.map_cons, List.map_nil, DataW.weightsEach, List.mem_append]
    left
    rw [hx']; simp only [DataW.weights, Tryz.underlying42, List.map_cons, List.map_nil, DataW.weightsEach, List.mem_append]
    right; left; exact hk)
   have w2 : ∀ k ∈ y1.1.weights Tryz.prog 40, k ≤ reachBytes := fun k hk => hw k (by
    simp only [DataW.weights, Tryz.underlying44, List.map_cons, List.map_nil, DataW.weightsEach, List.mem_append]
    right; left; exact hk)
   obtain ⟨a1, cp1, l1, rfl, s1, r1, b1⟩ := f_nat f1 w1
   obtain ⟨a2, cp2, l2, rfl, s2, r2, b2⟩ := f_nat e1 w2
   exact ⟨(s, l1, l2), a1, a2, cp1, cp2, rfl, rfl, rfl, r1, r2, ⟨s1, s2⟩, b1, b2⟩
theorem weights_in {P : Program} {e : TypeId} {l : List (DataW H × List MemPlace)} {i : Nat} {y : DataW H × List MemPlace} (h : l[i]? = some y) {k : Nat} (hk : k ∈ y.1.weights P e) : k ∈ DataW.weightsAll P e (l.map (·.1)) := by
 induction l generalizing i with
 | nil => simp at h
 | cons x t ih =>
  simp only [List.map_cons, DataW.weightsAll, List.mem_append]
  cases i with
  | zero => simp at h; subst h; exact .inl hk
  | succ i => exact .inr (ih (by simpa using h))
theorem mapM_all {α β : Type} {f : α → Option β} : ∀ {l : List α} {r : List β}, l.mapM f = some r → r.length = l.length ∧ ∀ (i : Nat) (x : α), l[i]? = some x → ∃ c, r[i]? = some c ∧ f x = some c
 | [], r, h => by
  simp at h; subst h
  exact ⟨rfl, fun i x h => by simp at h⟩
 | y :: t, r, h => by
  simp only [List.mapM_cons, Option.bind_eq_bind, Option.bind_eq_some_iff, Option.pure_def] at h
  obtain ⟨c, h0, s, h1, h2⟩ := h
  cases h2
  obtain ⟨k1, k2⟩ := mapM_all h1
  refine ⟨by simp [k1], fun i x hx => ?_⟩
  cases i with
  | zero => simp at hx; subst hx; exact ⟨c, rfl, h0⟩
  | succ i => exact k2 i x (by simpa using hx)
theorem cells_all {a : Addr} {k : Nat} {r : List Value} (h : W.cells? 0 a k = some r) : r.length = k ∧ ∀ (i : Nat) (c : Value), r[i]? = some c → W.cell? (a.add i) = some c := by
 unfold World.cells? at h
 rw [if_pos (Nat.zero_le _)] at h
 obtain ⟨h1, h2⟩ := mapM_all h
 rw [List.length_range] at h1
 refine ⟨h1, fun i c hc => ?_⟩
 have hi := (List.getElem?_eq_some_iff.1 hc).1
 obtain ⟨c', e1, e2⟩ := h2 i i (List.getElem?_range (by omega))
 rw [hc] at e1
 cases e1
 exact e2
theorem f_list {α : Type} [Inhabited α] {st et : TypeId} {k : Nat} {El : World → Nat → Nat → α → Prop} {Q : α → Prop} (hs : Tryz.prog.underlying st = some (.slice et)) (hk : Tryz.prog.cellsOf et = k) (k0 : 0 < k)
   (hel : ∀ (n : Nat) (cs : List Value) (y : DataW H × List MemPlace), DataW.trod enc Tryz.prog W 0 (fun _ => true) true n et cs = some y → cs.length = k → (∀ m ∈ y.1.weights Tryz.prog et, m ≤ reachBytes) → ∃ x : α, Q x ∧ ∀ b o, (∀ (i : Nat) (c : Value), cs[i]? = some c → W.cell? ⟨b, o + i, none⟩ = some c) → El W b o x)
   {v : Value} {d : DataW H} {p : List MemPlace} {fuel : Nat} (hf : DataW.trod enc Tryz.prog W 0 (fun _ => true) true fuel st [v] = some (d, p)) (hw : ∀ m ∈ d.weights Tryz.prog st, m ≤ reachBytes) :
   ∃ (a : Option Addr) (n c : Nat) (l : List α), v = .slice a n c ∧ LRd k El W (.slice a n c) l ∧ (∀ x ∈ l, Q x) ∧ n * Tryz.prog.bytesOf et ≤ reachBytes := by
 rcases DataW.trod_slice hs hf with ⟨hcs, _⟩ | ⟨x, len, cap, elems, rest, n, _, hcs, hx, _, hl, hm, hlen, hel', hsp, _⟩
 · obtain rfl : v = .slice none 0 0 := by simpa using hcs
   exact ⟨none, 0, 0, [], rfl, ⟨none, 0, rfl, Nat.le_refl _, fun h => by simp at h⟩, by simp, by simp⟩
 · obtain rfl : v = .slice (some x) len cap := by simpa using hcs
   obtain ⟨rfl, _⟩ := Prod.mk.injEq .. ▸ hx
   rw [hk] at hel' hsp
   have hwn : len * Tryz.prog.bytesOf et ≤ reachBytes := by
     have h1 := hw ((elems.length + rest.length) * Tryz.prog.bytesOf et) (by simp [DataW.weights, hs])
     have h2 : len * Tryz.prog.bytesOf et ≤ (elems.length + rest.length) * Tryz.prog.bytesOf et := Nat.mul_le_mul_right _ (by omega)
     exact Nat.le_trans h2 h1
   by_cases h0 : len = 0
   · subst h0
     exact ⟨some x, 0, cap, [], rfl, ⟨some x, cap, rfl, Nat.zero_le _, fun h => by simp at h⟩, by simp, by simp⟩
   · have hat : ∀ i, i < len → ∃ y cs, elems[i]? = some y ∧ cs.length = k ∧ (∀ j c, cs[j]? = some c → W.cell? ((x.add (i * k)).add j) = some c) ∧ DataW.trod enc Tryz.prog W 0 (fun _ => true) true n et cs = some y := by
       intro i hi
       have h := hel' i hi
       obtain ⟨y, hy⟩ : ∃ y, elems[i]? = some y := ⟨_, List.getElem?_eq_getElem (by omega)⟩
       rw [hy, Option.bind_eq_some_iff] at h
       obtain ⟨r, hr, ht⟩ := h
       obtain ⟨k1, k2⟩ := cells_all hr
       exact ⟨y, r, hy, k1, k2, ht⟩
     have hspot : x.spot = none ∧ x.block < W.heap.size := by
       obtain ⟨_, cs, _, k1, k2, _⟩ := hat 0 (by omega)
       have h := k2 0 _ (List.getElem?_eq_getElem (by omega))
       rw [add_zero, Nat.zero_mul, add_zero] at h
       exact cell_spot h
     obtain ⟨b, off, spot⟩ := x
     obtain ⟨hs', hb⟩ := hspot
     obtain rfl : spot = none := hs'
     have key : ∀ i, ∃ x : α, i < len → Q x ∧ El W b (off + i * k) x := by
       intro i
       by_cases hi : i < len
       · obtain ⟨y, cs, hy, k1, k2, ht⟩ := hat i hi
         obtain ⟨x, hq, hx⟩ := hel n cs y ht k1 (fun m hm => hw m (by
          simp only [DataW.weights, hs, List.mem_cons, List.mem_append]
          exact .inr (.inl (weights_in hy hm))))
         refine ⟨x, fun _ => ⟨hq, hx b (off + i * k) fun j c hc => ?_⟩⟩
         have h := k2 j c hc
         rw [Go.WideShapes.add_plain, Go.WideShapes.add_plain] at h
         exact h
       · exact ⟨default, fun h => absurd h hi⟩
     have hll : ((List.range len).map fun i => Classical.choose (key i)).length = len := by simp
     refine ⟨some ⟨b, off, none⟩, len, cap, (List.range len).map fun i => Classical.choose (key i), rfl, ⟨some ⟨b, off, none⟩, cap, by rw [hll], by rw [hll]; exact hl, fun _ => ⟨b, off, rfl, hb, fun j x hj => ?_⟩⟩, fun x hx => ?_, hwn⟩
     · rw [List.getElem?_map] at hj
       by_cases hlt : j < len
       · rw [List.getElem?_range hlt] at hj
         have := Classical.choose_spec (key j) hlt
         simp at hj
         subst hj
         exact this.2
       · rw [List.getElem?_eq_none (by simp; omega)] at hj
         cases hj
     · obtain ⟨j, hj, rfl⟩ := List.mem_map.1 hx
       exact (Classical.choose_spec (key j) (by simpa using hj)).1
theorem reach_le {n b : Nat} (h : n * b ≤ reachBytes) (hb : 8 ≤ b) : n ≤ 70368744177664 := by
 have h1 := reachBytes_lt
 have h2 : n * 8 ≤ n * b := Nat.mul_le_mul_left _ hb
 omega
theorem f_rats {v : Value} {d : DataW H} {p : List MemPlace} {fuel : Nat} (hf : DataW.trod enc Tryz.prog W 0 (fun _ => true) true fuel 30 [v] = some (d, p)) (hw : ∀ k ∈ d.weights Tryz.prog 30, k ≤ reachBytes) :
   ∃ (a : Option Addr) (n c : Nat) (qs : List Qr), v = .slice a n c ∧ VReads W (.slice a n c) qs ∧ n ≤ 70368744177664 ∧ ∀ q ∈ qs, Big q := by
 obtain ⟨a, n, c, qs, rfl, hL, hQ, hn⟩ := f_list (α := Qr) (El := fun W b o q => QrAt W b o q) (Q := Big) Tryz.underlying30 (show Tryz.prog.cellsOf 44 = 3 by kernel_rfl) (by omega) (fun n cs y ht hl hw => by
   match cs, hl with
   | [c0, c1, c2], _ =>
    obtain ⟨q, a, a', c, c', rfl, rfl, rfl, r1, r2, hq⟩ := f_cells ht hw
    exact ⟨q, hq, fun b o h => ⟨a, c, a', c', h 0 _ rfl, h 1 _ rfl, h 2 _ rfl, r1, r2⟩⟩) hf hw
 have hb : Tryz.prog.bytesOf 44 = 56 := by kernel_rfl
 rw [hb] at hn
 refine ⟨a, n, c, qs, rfl, ?_, reach_le hn (by omega), hQ⟩
 obtain ⟨e, hc, h⟩ := hL.addr
 by_cases h0 : 0 < n
 · obtain ⟨b, off, rfl, hb, hj⟩ := h h0
   exact .inr (.inl ⟨b, off, c, by rw [e], hb, by omega, hj⟩)
 · obtain rfl : n = 0 := by omega
   obtain rfl : qs = [] := List.eq_nil_of_length_eq_zero e.symm
   cases a with
   | none =>
    rcases DataW.trod_slice Tryz.underlying30 hf with ⟨hcs, _⟩ | ⟨x, len, cap, elems, rest, n, _, hcs, _⟩
    · obtain ⟨rfl⟩ : c = 0 := by simpa using hcs
      exact VReads.nil W
    · simp at hcs
   | some x =>
    rcases DataW.trod_slice Tryz.underlying30 hf with ⟨hcs, _⟩ | ⟨x', len, cap, elems, rest, n, _, hcs, hx, _, hl, hm, hlen, hel', hsp, _⟩
    · simp at hcs
    · by_cases h1 : c = 0
      · subst h1; exact .inr (.inr ⟨x, rfl, rfl⟩)
      · obtain ⟨rfl, rfl, rfl⟩ : x = x' ∧ 0 = len ∧ c = cap := by simpa using hcs
        rw [show Tryz.prog.cellsOf 44 = 3 by kernel_rfl] at hsp
        obtain ⟨hr, hj⟩ := hsp rfl
        have h := hj 0 (by omega)
        obtain ⟨y, hy⟩ : ∃ y, rest[0]? = some y := ⟨_, List.getElem?_eq_getElem (by omega)⟩
        rw [hy, Option.bind_eq_some_iff] at h
        obtain ⟨r, hr, _⟩ := h
        obtain ⟨k1, k2⟩ := cells_all hr
        have h := k2 0 _ (List.getElem?_eq_getElem (by omega))
        rw [add_zero, show (0 + 0) * 3 = 0 from rfl, add_zero] at h
        obtain ⟨hs, hb⟩ := cell_spot h
        obtain ⟨b, off, spot⟩ := x
        obtain rfl : spot = none := hs
        exact .inr (.inl ⟨b, off, c, rfl, hb, by simp, fun j q hq => by simp at hq⟩)
theorem f_grid {v : Value} {d : DataW H} {p : List MemPlace} {fuel : Nat} (hf : DataW.trod enc Tryz.prog W 0 (fun _ => true) true fuel 22 [v] = some (d, p)) (hw : ∀ k ∈ d.weights Tryz.prog 22, k ≤ reachBytes) :
  ∃ (a : Option Addr) (n c : Nat) (rows : List (List Qr)), v = .slice a n c ∧ GridR W (.slice a n c) rows ∧ GBig rows := by
 obtain ⟨a, n, c, rows, rfl, hL, hQ, hn⟩ := f_list (α := List Qr) (El := GEl) (Q := fun qs => qs.length ≤ 70368744177664 ∧ ∀ q ∈ qs, Big q) Tryz.underlying22 (show Tryz.prog.cellsOf 30 = 1 by kernel_rfl) (by omega) (fun n cs y ht hl hw => by
  match cs, hl with
  | [c0], _ =>
   obtain ⟨a, n, c, qs, rfl, hv, hn, hq⟩ := f_rats (d := y.1) (p := y.2) ht hw
   exact ⟨qs, ⟨by rw [← hv.addr.1]; exact hn, hq⟩, fun b o h => ⟨_, h 0 _ rfl, hv⟩⟩) hf hw
 have hb : Tryz.prog.bytesOf 30 = 24 := by kernel_rfl
 rw [hb] at hn
 exact ⟨a, n, c, rows, rfl, hL, by rw [← hL.addr.1]; exact reach_le hn (by omega), hQ⟩
end
end Go.Proofs.YtgmbaamfobhceaaGreat
