/- Copies of rows of fractions: what they are, and what changes of other kinds of blocks leave. The law package's copy of a row of fractions, and .. -/
import Derived.Deep.QuietTactic
import Derived.Test.YtdjfooflhpkcbaaGreatDoorGRTv
import Derived.Test.YtdjfooflhpkcbaaGreatDoorGVecO
set_option maxHeartbeats 8000000
set_option linter.unusedSimpArgs false
set_option linter.unusedVariables false
namespace Go.Proofs.YtdjfooflhpkcbaaGreatDoor
open Go Go.Proofs Go.RowKit Go.Shelf Nu
def Off (t : TypeId) (W W' : World) : Prop := W.heap.size ≤ W'.heap.size ∧ ∀ (g : Nat) (cur : Array Value) (u : TypeId) (fr : Nat × Nat), u ≠ t → W.heap[g]? = some (.cells cur u fr) → W'.heap[g]? = some (.cells cur u fr)
section
variable {t u : TypeId} {W W' V : World} {B n k : Nat} {v : Value} {xs : List Value}
theorem Off.refl (t : TypeId) (W : World) : Off t W W := ⟨Nat.le_refl _, fun _ _ _ _ _ e => e⟩
theorem Off.trans (h : Off t W W') (h' : Off t W' V) : Off t W V := ⟨Nat.le_trans h.1 h'.1, fun g cur u fr hu e => h'.2 g cur u fr hu (h.2 g cur u fr hu e)⟩
theorem Off.of_below (h : Below W.heap.size W W') : Off t W W' := ⟨h.size, fun g _ _ _ _ e => (h.block g (Array.getElem?_eq_some_iff.1 e).1).trans e⟩
theorem Off.alloc (W : World) (o : Obj) : Off t W (W.alloc o) := Off.of_below ((Below.refl _ _).alloc (Nat.le_refl _) o)
theorem Off.of_grown (ho : W.ownsRow B t k v n xs) (hg : W.grownBy W' v.ownBlock) : Off t W W' := by
 refine ⟨hg.size, fun g cur u fr hu e => ?_⟩
 refine (hg.block g (Array.getElem?_eq_some_iff.1 e).1 fun e1 => ?_).trans e
 rcases ho.2 with ⟨rfl, _⟩ | ⟨g', cap, cur', rfl, _, hgb, _⟩
 · cases e1
 · have e2 : g = g' := by simpa [Value.ownBlock] using e1
   subst e2
   rw [hgb] at e
   cases e
   exact hu rfl
theorem Off.put {b : Nat} {cs : Array Value} (h : BoxN W b t cs) (o : Nat) (x : Value) : Off t W (W.setCell ⟨b, o, none⟩ x) := by
 refine ⟨by simp, fun g cur u fr hu e => ?_⟩
 have hne : g ≠ b := by
  rintro rfl
  have h1 := (show W.heap[g]? = _ from h).symm.trans e
  cases h1
  exact hu rfl
 exact (Below.heap_setCell W ⟨b, o, none⟩ x g hne).trans e
theorem own_off (h : W.ownsRow B u k v n xs) (ho : Off t W W') (hu : u ≠ t) : W'.ownsRow B u k v n xs := by
 refine ⟨h.1, ?_⟩
 rcases h.2 with h | ⟨g, cap, cur, e, hB, hg, r⟩
 · exact .inl h
 · exact .inr ⟨g, cap, cur, e, hB, ho.2 g _ _ _ hu hg, r⟩
theorem own_le (h : W.ownsRow B u k v n xs) {B' : Nat} (hb : B' ≤ B) : W.ownsRow B' u k v n xs := by
 refine ⟨h.1, ?_⟩
 rcases h.2 with h | ⟨g, cap, cur, e, hB, r⟩
 · exact .inl h
 · exact .inr ⟨g, cap, cur, e, Nat.le_trans hb hB, r⟩
end
section
variable {W W' : World} {B g c : Nat}
theorem Tw.off {l : List Nat} {t : TypeId} (h : Tw W B g c l) (ho : Off t W W') (ht : 71 ≠ t) : Tw W' B g c l := own_off h ho ht
def ZTw (W : World) (B : Nat) (z : Zr) : Prop := ∃ g1 c1 g2 c2, z.2.1 = (some ⟨g1, 0, none⟩, c1) ∧ z.2.2 = (some ⟨g2, 0, none⟩, c2) ∧ Tw W B g1 c1 z.1.2.1 ∧ Tw W B g2 c2 z.1.2.2
theorem ZTw.off {z : Zr} {t : TypeId} (h : ZTw W B z) (ho : Off t W W') (ht : 71 ≠ t) : ZTw W' B z := by
 obtain ⟨g1, c1, g2, c2, e1, e2, h1, h2⟩ := h
 exact ⟨g1, c1, g2, c2, e1, e2, h1.off ho ht, h2.off ho ht⟩
theorem ZTw.below {z : Zr} (h : ZTw W B z) (hb : Below W.heap.size W W') : ZTw W' B z := by
 obtain ⟨g1, c1, g2, c2, e1, e2, h1, h2⟩ := h
 exact ⟨g1, c1, g2, c2, e1, e2, h1.below hb, h2.below hb⟩
theorem ZTw.mono {z : Zr} {B' : Nat} (h : ZTw W B z) (hb : B' ≤ B) : ZTw W B' z := by
 obtain ⟨g1, c1, g2, c2, e1, e2, h1, h2⟩ := h
 exact ⟨g1, c1, g2, c2, e1, e2, h1.mono hb, h2.mono hb⟩
theorem ZTw.zin {z : Zr} (h : ZTw W B z) : ZIn W z := by
 obtain ⟨g1, c1, g2, c2, e1, e2, h1, h2⟩ := h
 obtain ⟨q, a, b⟩ := z
 simp only at e1 e2 h1 h2
 subst e1; subst e2
 exact ⟨h1.fresh.reads, h2.fresh.reads⟩
def zmark (y : Sl) : Zr := ((false, [], [77]), (none, 0), y)
def TwR (W : World) (B g c : Nat) (qs : List Qr) : Prop := ∃ (zs : List Zr) (y : Sl), zs.map (·.1) = qs ∧ W.ownsRow B 30 3 (.slice (some ⟨g, 0, none⟩) (qs.length + 1) c) (qs.length + 1) (zcells (zs ++ [zmark y])) ∧ (∀ z ∈ zs, ZTw W B z) ∧ Fresh W B (.slice y.1 1 y.2) [77]
theorem TwR.off {qs : List Qr} {t : TypeId} (h : TwR W B g c qs) (ho : Off t W W') (ht : 71 ≠ t ∧ 30 ≠ t) : TwR W' B g c qs := by
 obtain ⟨zs, y, h1, h2, h3, h4⟩ := h
 exact ⟨zs, y, h1, own_off h2 ho ht.2, fun z hz => (h3 z hz).off ho ht.1, own_off h4 ho ht.1⟩
theorem TwR.below {qs : List Qr} (h : TwR W B g c qs) (hb : Below W.heap.size W W') : TwR W' B g c qs := by
 obtain ⟨zs, y, h1, h2, h3, h4⟩ := h
 exact ⟨zs, y, h1, own_below h2 hb, fun z hz => (h3 z hz).below hb, Fresh.below h4 hb⟩
theorem TwR.mono {qs : List Qr} {B' : Nat} (h : TwR W B g c qs) (hb : B' ≤ B) : TwR W B' g c qs := by
 obtain ⟨zs, y, h1, h2, h3, h4⟩ := h
 exact ⟨zs, y, h1, own_le h2 hb, fun z hz => (h3 z hz).mono hb, Fresh.mono h4 hb⟩
theorem TwR.cap {qs : List Qr} (h : TwR W B g c qs) : qs.length + 1 ≤ c ∧ B ≤ g ∧ g < W.heap.size := by
 obtain ⟨zs, y, h1, h2, h3, h4⟩ := h
 rcases h2.2 with ⟨e, _⟩ | ⟨g', cap, cur, e, hB, hg, hn, _⟩
 · cases e
 · cases e
   exact ⟨hn, hB, (Array.getElem?_eq_some_iff.1 hg).1⟩
theorem TwR.at {qs : List Qr} (h : TwR W B g c qs) {j : Nat} {q : Qr} (hq : qs[j]? = some q) : ∃ g1 c1 g2 c2, W.cell? ⟨g, j * 3, none⟩ = some (.bool q.1) ∧ W.cell? ⟨g, j * 3 + 1, none⟩ = some (.slice (some ⟨g1, 0, none⟩) q.2.1.length c1) ∧ W.cell? ⟨g, j * 3 + 2, none⟩ = some (.slice (some ⟨g2, 0, none⟩) q.2.2.length c2) ∧ Tw W B g1 c1 q.2.1 ∧ Tw W B g2 c2 q.2.2 := by
 obtain ⟨zs, y, h1, h2, h3, h4⟩ := h
 have hj := (List.getElem?_eq_some_iff.1 hq).1
 have hl : zs.length = qs.length := by rw [← h1, List.length_map]
 obtain ⟨z, hz, e⟩ : ∃ z, zs[j]? = some z ∧ z.1 = q := by rw [← h1] at hq; simpa [List.getElem?_map] using hq
 have key : ∀ i, i < 3 → W.cell? ⟨g, j * 3 + i, none⟩ = (zcell z)[i]? := fun i hi => by
  rw [World.ownsRow.cellAt h2 (j * 3 + i) (by omega), zcells_at _ j z (by rw [List.getElem?_append_left (by omega)]; exact hz) i hi]
 obtain ⟨g1, c1, g2, c2, e1, e2, k1, k2⟩ := h3 z (List.mem_of_getElem? hz)
 obtain ⟨q', a, b⟩ := z
 simp only at e e1 e2 k1 k2
 subst e; subst e1; subst e2
 exact ⟨g1, c1, g2, c2, key 0 (by omega), key 1 (by omega), key 2 (by omega), k1, k2⟩
theorem TwR.mark {qs : List Qr} (h : TwR W B g c qs) : ∃ y : Sl, W.cell? ⟨g, qs.length * 3, none⟩ = some (.bool false) ∧ W.cell? ⟨g, qs.length * 3 + 1, none⟩ = some (.slice none 0 0) ∧ W.cell? ⟨g, qs.length * 3 + 2, none⟩ = some (.slice y.1 1 y.2) ∧ Reads W (.slice y.1 1 y.2) [77] := by
 obtain ⟨zs, y, h1, h2, h3, h4⟩ := h
 have hl : zs.length = qs.length := by rw [← h1, List.length_map]
 have key : ∀ i, i < 3 → W.cell? ⟨g, qs.length * 3 + i, none⟩ = (zcell (zmark y))[i]? := fun i hi => by
  rw [World.ownsRow.cellAt h2 (qs.length * 3 + i) (by omega), zcells_at _ qs.length (zmark y) (by rw [List.getElem?_append_right (by omega), hl]; simp) i hi]
 exact ⟨y, key 0 (by omega), key 1 (by omega), key 2 (by omega), h4.reads⟩
theorem TwR.vreads {qs : List Qr} (h : TwR W B g c qs) : VReads W (.slice (some ⟨g, 0, none⟩) qs.length c) qs := by
 have hc := h.cap
 refine .inr (.inl ⟨g, 0, c, rfl, hc.2.2, by omega, fun j q hq => ?_⟩)
 obtain ⟨g1, c1, g2, c2, k0, k1, k2, t1, t2⟩ := h.at hq
 rw [Nat.zero_add]
 exact ⟨_, c1, _, c2, k0, k1, k2, t1.fresh.reads, t2.fresh.reads⟩
end
theorem fresh_lit (W : World) (x : Nat) : Fresh (W.alloc (.cells #[.int .u32 (x : Int)] 71)) W.heap.size (.slice (some ⟨W.heap.size, 0, none⟩) 1 1) [x] :=
 ⟨rfl, .inr ⟨W.heap.size, 1, _, rfl, Nat.le_refl _, World.alloc_heap_new W _, Nat.le_refl _, small_max (by decide), rfl, rfl⟩⟩
end Go.Proofs.YtdjfooflhpkcbaaGreatDoor
namespace Go.Proofs.YtdjfooflhpkcbaaGreatDoor
open Go Go.Proofs Go.RowKit Go.Shelf Nu
set_option linter.unusedVariables false
set_option linter.unusedSimpArgs false
set_option maxRecDepth 100000
attribute [local go_sem] Oper.semAt_some
theorem map_take_snoc {qs : List Qr} {ys : List Zr} {k : Nat} {z : Zr} {q : Qr} (h : ys.map (·.1) = qs.take k) (hq : qs[k]? = some q) (hz : z.1 = q) : (ys ++ [z]).map (·.1) = qs.take (k + 1) := by
 rw [List.map_append, h, List.take_add_one, hq]; simp [hz]
theorem lens_of {ys : List Zr} {qs : List Qr} {k : Nat} (h : ys.map (·.1) = qs.take k) (hk : k ≤ qs.length) : ys.length = k := by
 have := congrArg List.length h
 rw [List.length_map, List.length_take] at this
 omega
theorem VF.slice {W : World} {B n : Nat} {v : Value} {zs : List Zr} (h : VF W B v zs) (hn : zs.length = n + 1) : ∃ g c, v = .slice (some ⟨g, 0, none⟩) (n + 1) c ∧ n + 1 ≤ c ∧ (n : Int) ≤ (c : Int) := by
 rcases h.1.1.2 with ⟨_, h0⟩ | ⟨g, cap, cur, rfl, hb, hg, hc, _⟩
 · omega
 · exact ⟨g, cap, by rw [hn], by omega, by omega⟩
theorem region_bl {P : Program} {ops : Array Oper} {Q : Exit → Act → World → Prop} {S : World → Prop} {id : Nat} {a : Act} {w : World} (hm : P.follows .mixedOrders = true)
  (h : ∀ V, Below w.heap.size w V → wpAnyH P .any ops Q S ops.size (Array.replicate ops.size false) a V) : (Code.region id ops true).wp P Q a w :=
 wp_region_held hm (h w.drew ⟨rfl, rfl, rfl, Nat.le_refl _, fun _ _ => rfl⟩)
theorem leftR_any {W : World} {B g c : Nat} {v : Value} {qs : List Qr} (T : TwR W B g c qs) (h : VReads W v qs) (hl : qs.length ≤ 65536) (hb : ∀ q ∈ qs, q.2.1.length ≤ 100000 ∧ q.2.2.length ≤ 100000) :
  Calls Tryz.prog 16 #[.slice (some ⟨g, 0, none⟩) qs.length c, v] W fun e w' => e = .returned (.bool true) ∧ Below W.heap.size W w' := by
 obtain ⟨a, cap, rfl⟩ := h.form
 obtain ⟨hn', hcap, bb, off, ha, hc⟩ := h.addr
 obtain ⟨n, hn⟩ : ∃ n, n = qs.length := ⟨_, rfl⟩
 obtain ⟨N, hN⟩ : ∃ N, N = n + 1 := ⟨_, rfl⟩
 have w1 : IntKind.i64.wrap ((n : Int) + 1) = (N : Int) := by rw [hN]; exact IntWalk.i64_in _ (by omega)
 rw [← hn]
 rw [← hn] at ha
 have HN := Lib.hid (show n = qs.length ∧ N = n + 1 ∧ n ≤ 65536 from ⟨hn, hN, by omega⟩)
 have HC := Lib.hid hc
 have HA := Lib.hid ha
 have HS := Lib.hid hb
 have HT := Lib.hid T
 have hc1 := T.cap
 have hgs : g < W.heap.size := hc1.2.2
 have hn1 : n ≤ 65536 := by omega
 have hN1 : N ≤ 65537 := by omega
 have e0 : ¬ (c : Int) ≤ (n : Int) := by omega
 have e1 : (N : Int) ≤ (c : Int) := by omega
 have e2 : (n : Int) < (N : Int) := by omega
 have e3 : (0 : Int) ≤ (N : Int) := by omega
 have e4 : (0 : Int) ≤ (n : Int) := by omega
 have enn : ((n : Int) != (n : Int)) = false := by simp
 clear h hn hN hn' hcap ha hc hb hl T hc1
 have k0 : ((0 : Nat) : Int) = 0 := rfl
 go_enter Tryz.func16, Tryz.ntmps16
 go_wp2
 go_loopg [5] n (fun gg s5 wr => ∃ k : Nat, k + gg = n ∧ s5 = .int .i64 (k : Int) ∧ Hid (Below W.heap.size W wr))
 case atStart => exact ⟨0, by omega, rfl, Lib.hid (Below.refl _ _)⟩
 case round =>
  clear k0
  obtain ⟨k, hk, rfl, HW⟩ := hrel
  have HTW := Lib.hid (HT.out.below HW.out)
  by_cases hlt : k < n
  · have n0 : (0 : Int) ≤ (k : Int) := by omega
    have l0 : (k : Int) < (n : Int) := by omega
    have w0 : IntKind.i64.wrap ((k : Int) + 1) = ((k + 1 : Nat) : Int) := IntWalk.i64_in _ (by omega)
    obtain ⟨rfl, hbl⟩ := HA.out (by omega)
    obtain ⟨q, hq⟩ : ∃ q, qs[k]? = some q := ⟨_, List.getElem?_eq_getElem (by have := HN.out; omega)⟩
    have hqat := (HC.out k q hq).below hbl HW.out
    have hsz := HS.out q (List.mem_of_getElem? hq)
    obtain ⟨g1, e1', g2, e2', d0, d1', d2, t1, t2⟩ := HTW.out.at hq
    have hbs : bb < wr.heap.size := Nat.lt_of_lt_of_le hbl HW.out.size
    have hgr : g < wr.heap.size := Nat.lt_of_lt_of_le hgs HW.out.size
    obtain ⟨s, l1, dd⟩ := q
    obtain ⟨p, c', p', c'', h0, h1, h2, r1, r2⟩ := hqat
    dsimp only at h0 h1 h2 r1 r2 hsz d0 d1' d2 t1 t2
    have kc := Lib.hid (fun (V : World) (r : Below wr.heap.size wr V) => rleft_any (n := s) hsz.1 hsz.2 (t1.below r) (t2.below r) (r1.below r) (r2.below r))
    clear r1 r2 t1 t2 hq hsz HC HA HS HT HTW
    go_wp2
    refine region_bl (S := fun W => Below wr.heap.size wr W) (by kernel_rfl) ?_
    intro V0 hS0
    refine wtk 0 (.slice (some ⟨g, 0, none⟩) n c) rfl (fun _ _ _ h => h) (Or.inl ⟨by rfl, fun W3 hS => by go_simp⟩) hS0 ?_
    try simp only [Act.put, List.setIfInBounds_toArray, List.set_cons_zero, List.set_cons_succ]
    refine wtk 1 (.int .i64 (k : Int)) rfl (fun _ _ _ h => h) (Or.inl ⟨by rfl, fun W3 hS => by go_simp⟩) hS0 ?_
    try simp only [Act.put, List.setIfInBounds_toArray, List.set_cons_zero, List.set_cons_succ]
    refine wtk 2 (.pointer (some ⟨g, k * 3, none⟩)) rfl (fun _ _ _ h => h) (Or.inl ⟨by rfl, fun W3 hS => by go_simp⟩) hS0 ?_
    try simp only [Act.put, List.setIfInBounds_toArray, List.set_cons_zero, List.set_cons_succ]
    refine wtk 3 (.agg #[.bool s, .slice (some ⟨g1, 0, none⟩) l1.length e1', .slice (some ⟨g2, 0, none⟩) dd.length e2']) rfl (fun _ _ _ h => h) (Or.inl ⟨by rfl, fun W3 hS => by have c0 := hS.cell (p := ⟨g, k * 3, none⟩) hgr; have c1 := hS.cell (p := ⟨g, k * 3 + 1, none⟩) hgr; have c2 := hS.cell (p := ⟨g, k * 3 + 2, none⟩) hgr; rw [d0] at c0; rw [d1'] at c1; rw [d2] at c2; go_simp⟩) hS0 ?_
    try simp only [Act.put, List.setIfInBounds_toArray, List.set_cons_zero, List.set_cons_succ]
    refine wtk 4 (.slice (some ⟨bb, off, none⟩) n cap) rfl (fun _ _ _ h => h) (Or.inl ⟨by rfl, fun W3 hS => by go_simp⟩) hS0 ?_
    try simp only [Act.put, List.setIfInBounds_toArray, List.set_cons_zero, List.set_cons_succ]
    refine wtk 5 (.int .i64 (k : Int)) rfl (fun _ _ _ h => h) (Or.inl ⟨by rfl, fun W3 hS => by go_simp⟩) hS0 ?_
    try simp only [Act.put, List.setIfInBounds_toArray, List.set_cons_zero, List.set_cons_succ]
    refine wtk 6 (.pointer (some ⟨bb, off + k * 3, none⟩)) rfl (fun _ _ _ h => h) (Or.inl ⟨by rfl, fun W3 hS => by go_simp⟩) hS0 ?_
    try simp only [Act.put, List.setIfInBounds_toArray, List.set_cons_zero, List.set_cons_succ]
    refine wtk 7 (.agg #[.bool s, .slice p l1.length c', .slice p' dd.length c'']) rfl (fun _ _ _ h => h) (Or.inl ⟨by rfl, fun W3 hS => by have c0 := hS.cell (p := ⟨bb, off + k * 3, none⟩) hbs; have c1 := hS.cell (p := ⟨bb, off + k * 3 + 1, none⟩) hbs; have c2 := hS.cell (p := ⟨bb, off + k * 3 + 2, none⟩) hbs; rw [h0] at c0; rw [h1] at c1; rw [h2] at c2; go_simp⟩) hS0 ?_
    try simp only [Act.put, List.setIfInBounds_toArray, List.set_cons_zero, List.set_cons_succ]
    have HV0 := Lib.hid hS0
    clear hS0
    refine one_op 8 rfl (fun K1 hK => ?_)
    go_simp
    refine (kc.out _ HV0.out).mono ?_
    rintro e V1 ⟨rfl, rr⟩
    have hS1 := then_below HV0.out rr
    clear rr
    refine hK _ _ ⟨hS1, ?_⟩
    clear hK K1
    have hS0 := hS1
    refine wtk 9 (.bool false) rfl (fun _ _ _ h => h) (Or.inl ⟨by rfl, fun W3 hS => by go_simp⟩) hS0 ?_
    try simp only [Act.put, List.setIfInBounds_toArray, List.set_cons_zero, List.set_cons_succ]
    clear hS0
    have HW2 := Lib.hid (then_below HW.out hS1)
    clear hS1 HV0
    refine wdn ?_
    go_wp2
    go_roundg (n - (k + 1))
    case measure => omega
    case rel => exact ⟨k + 1, by omega, by first | rfl | simp, HW2⟩
  · obtain rfl : k = n := by omega
    have l0 : ¬ (k : Int) < (k : Int) := by omega
    obtain ⟨y, d0, d1', d2, r⟩ := HTW.out.mark
    obtain ⟨bm, om, hm, hmc⟩ := r.addr
    obtain ⟨ya, yc⟩ := y
    obtain ⟨rfl, hms⟩ := hm (by simp)
    have m0 := hmc 0 (by simp)
    simp only [Nat.add_zero, List.getD_cons_zero] at m0
    rw [← HN.out.1] at d0 d1' d2
    clear HC HA HS HT HTW r hm hmc
    go_wp2
    go_ret
    exact ⟨by first | rfl | exact ret_bool (by decide +kernel), HW.out.alloc HW.out.size _⟩
end Go.Proofs.YtdjfooflhpkcbaaGreatDoor
