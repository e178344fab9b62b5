/- The stairs of a grid of fractions, in memory: rows that lie anywhere, listed in a block of the call's own. The stairs of a grid: a leading column .. -/
import Derived.Test.YtgmbaamfobhceaaGreatGGrC
import Derived.Test.YtgmbaamfobhceaaGreatGNtG
set_option linter.unusedSimpArgs false
set_option linter.unusedVariables false
set_option maxHeartbeats 2000000
namespace Go.Proofs.YtgmbaamfobhceaaGreat
open Go Go.Proofs Go.RowKit Go.Shelf Nu
set_option linter.unusedVariables false
set_option linter.unusedSimpArgs false
set_option maxRecDepth 100000
def noQ : Value → Bool
 | .bool _ => false
 | .int .u32 _ => false
 | _ => true
theorem noQ_no32 : ∀ {u : Value}, noQ u = true → no32 u = true := by
 intro u h
 unfold no32
 split
 · simp [noQ] at h
 · rfl
def RowQ (W : World) (v : Value) : Prop := ∀ g, v.ownBlock = some g → ∃ cur e, W.heap[g]? = some (.cells cur e (0, 0)) ∧ ∀ u ∈ cur.toList, noQ u = true
section
variable {W W' : World} {v v0 : Value} {base : Nat} {b o n k : Nat} {q : Qr} {qs : List Qr} {t u : TypeId} {xs : List Value}
theorem RowQ.row32 (h : RowQ W v) : Row32 W v := fun g e => by
 obtain ⟨cur, t, h1, h2⟩ := h g e
 exact ⟨cur, t, h1, fun u hu => noQ_no32 (h2 u hu)⟩
theorem RowQ.below (h : RowQ W v) (hb : Below W.heap.size W W') : RowQ W' v := by
 intro g e
 obtain ⟨cur, t, h1, h2⟩ := h g e
 exact ⟨cur, t, (hb.block g (Array.getElem?_eq_some_iff.1 h1).1).trans h1, h2⟩
theorem RowQ.off (h : RowQ W v) (ho : W.ownsRow base u k v n xs) (hf : Off t W W') (hu : u ≠ t) : RowQ W' v := by
 intro g e
 obtain ⟨cur, ty, h1, h2⟩ := h g e
 rcases ho.2 with ⟨rfl, _⟩ | ⟨g', cap, cur', rfl, _, hg', _⟩
 · cases e
 · obtain rfl : g' = g := by simpa [Value.ownBlock] using e
   rw [hg'] at h1
   cases h1
   exact ⟨_, _, hf.2 _ _ _ _ hu hg', h2⟩
theorem RowQ.set {g cap j : Nat} {x : Value} (h : RowQ W (.slice (some ⟨g, 0, none⟩) n cap)) (hx : noQ x = true) : RowQ (W.setCell ⟨g, j, none⟩ x) (.slice (some ⟨g, 0, none⟩) n cap) := by
 intro g' e
 obtain ⟨cur, t, h1, h2⟩ := h g' e
 obtain rfl : g = g' := by simpa [Value.ownBlock] using e
 refine ⟨cur.setIfInBounds j x, t, heap_setCell_same W g j cur t x h1, fun y hy => ?_⟩
 rw [Array.toList_setIfInBounds] at hy
 rcases List.mem_or_eq_of_mem_set hy with hy | rfl
 · exact h2 y hy
 · exact hx
theorem QrAt.neQ (h : QrAt W b o q) (hq : RowQ W v0) : v0.ownBlock ≠ some b := by
 intro hb
 obtain ⟨cur, t, h1, h2⟩ := hq b hb
 obtain ⟨p, c, p', c', h0, _⟩ := h
 unfold World.cell? at h0
 rw [h1] at h0
 have h3 : cur[o]? = some (.bool q.1) := by simpa using h0
 have h4 := h2 _ (List.mem_of_getElem? (l := cur.toList) (by simpa using h3))
 simp [noQ] at h4
theorem QrAt.grownQ (h : QrAt W b o q) (hg : W.grownBy W' v0.ownBlock) (hq : RowQ W v0) : QrAt W' b o q := by
 have hne := h.neQ hq
 obtain ⟨p, c, p', c', h0, h1, h2, h3, h4⟩ := h
 have cc : ∀ k u, W.cell? ⟨b, k, none⟩ = some u → W'.cell? ⟨b, k, none⟩ = some u := fun k u e => hg.cell e (fun e' => hne e'.symm)
 exact ⟨p, c, p', c', cc _ _ h0, cc _ _ h1, cc _ _ h2, h3.grown32 hg hq.row32, h4.grown32 hg hq.row32⟩
theorem VReads.grownQ (h : VReads W v qs) (hg : W.grownBy W' v0.ownBlock) (hq : RowQ W v0) : VReads W' v qs := by
 rcases h with h | ⟨b, off, cap, rfl, hb, hc, hl⟩ | h
 · exact .inl h
 · exact .inr (.inl ⟨b, off, cap, rfl, Nat.lt_of_lt_of_le hb hg.size, hc, fun j q hj => (hl j q hj).grownQ hg hq⟩)
 · exact .inr (.inr h)
theorem BoxN.off {B : Nat} {cs : Array Value} (h : BoxN W B u cs) (hf : Off t W W') (hu : u ≠ t) : BoxN W' B u cs := hf.2 _ _ _ _ hu h
theorem put_grown (W : World) (B j n cap : Nat) (x : Value) : W.grownBy (W.setCell ⟨B, j, none⟩ x) (Value.slice (some ⟨B, 0, none⟩) n cap).ownBlock := ⟨rfl, rfl, rfl, by simp, fun k _ hk => heap_setCell_other W ⟨B, j, none⟩ k x (fun e => hk (by simp [Value.ownBlock, e]))⟩
end
structure GR (W : World) (base g n cap : Nat) (vs : List Value) (R : List (List Rat)) : Prop where
 own : W.ownsRow base 30 1 (.slice (some ⟨g, 0, none⟩) n cap) n vs
 q : RowQ W (.slice (some ⟨g, 0, none⟩) n cap)
 len : R.length = n
 rd : ∀ (k : Nat) (v : Value) (r : List Rat), vs[k]? = some v → R[k]? = some r → VReads W v (r.map qr)
structure LD (W : World) (base : Nat) (v : Value) (ld : List Nat) : Prop where
 own : W.ownsRow base 3 1 v ld.length (ld.map fun (k : Nat) => Value.int .i64 (k : Int))
 q : RowQ W v
section
variable {W W' : World} {base g n cap : Nat} {vs : List Value} {R : List (List Rat)} {lv : Value} {ld : List Nat}
theorem GR.vlen (h : GR W base g n cap vs R) : vs.length = n := by have := h.own.1; omega
theorem GR.below (h : GR W base g n cap vs R) (hb : Below W.heap.size W W') : GR W' base g n cap vs R := ⟨own_below h.own hb, h.q.below hb, h.len, fun k v r e1 e2 => (h.rd k v r e1 e2).below hb⟩
theorem LD.below (h : LD W base lv ld) (hb : Below W.heap.size W W') : LD W' base lv ld := ⟨own_below h.own hb, h.q.below hb⟩
theorem GR.lead (h : GR W base g n cap vs R) (hl : LD W base lv ld) (hg : W.grownBy W' lv.ownBlock) : GR W' base g n cap vs R :=
 have hf := Off.of_grown hl.own hg
 ⟨own_off h.own hf (by decide), h.q.off h.own hf (by decide), h.len, fun k v r e1 e2 => (h.rd k v r e1 e2).grownQ hg hl.q⟩
theorem GR.lt (h : GR W base g n cap vs R) : base ≤ g ∧ g < W.heap.size := h.own.lt g rfl
theorem GR.off (h : GR W base g n cap vs R) (k : Nat) (x : Value) : Off 30 W (W.setCell ⟨g, k, none⟩ x) := by
 rcases h.own.2 with ⟨e, _⟩ | ⟨g', cap', cur, e, _, hg, _⟩
 · cases e
 · cases e
   exact Off.put (show BoxN W g 30 cur from hg) k x
theorem GR.at (h : GR W base g n cap vs R) {k : Nat} (hk : k < n) : ∃ a c r, R[k]? = some r ∧ vs[k]? = some (.slice a r.length c) ∧ VReads W (.slice a r.length c) (r.map qr) ∧ W.cell? ⟨g, k, none⟩ = some (.slice a r.length c) ∧ W.frozen? ⟨g, k, none⟩ = false := by
 obtain ⟨r, hr⟩ : ∃ r, R[k]? = some r := ⟨_, List.getElem?_eq_getElem (by rw [h.len]; exact hk)⟩
 obtain ⟨v, hv⟩ : ∃ v, vs[k]? = some v := ⟨_, List.getElem?_eq_getElem (by rw [h.vlen]; exact hk)⟩
 have hd := h.rd k v r hv hr
 obtain ⟨a, c, rfl⟩ := hd.form
 rw [List.length_map] at hv hd
 exact ⟨a, c, r, hr, hv, hd, (World.ownsRow.cellAt h.own k (by omega)).trans hv, World.ownsRow.frozenAt h.own _⟩
theorem GR.put (h : GR W base g n cap vs R) {k : Nat} {a : Option Addr} {m c : Nat} {r : List Rat} (hd : VReads W (.slice a m c) (r.map qr)) : GR (W.setCell ⟨g, k, none⟩ (.slice a m c)) base g n cap (vs.set k (.slice a m c)) (R.set k r) := by
 have hg : W.grownBy (W.setCell ⟨g, k, none⟩ (.slice a m c)) (Value.slice (some ⟨g, 0, none⟩) n cap).ownBlock := put_grown W g k n cap _
 refine ⟨(World.ownsRow.stored h.own k _).1, h.q.set rfl, by rw [List.length_set]; exact h.len, fun j v y e1 e2 => ?_⟩
 rw [List.getElem?_set] at e1 e2
 by_cases e : k = j
 · subst e
   rw [if_pos rfl] at e1 e2
   split at e1
   · split at e2
     · cases e1; cases e2
       exact hd.grownQ hg h.q
     · cases e2
   · cases e1
 · rw [if_neg e] at e1 e2
   exact (h.rd j v y e1 e2).grownQ hg h.q
theorem LD.off {t : TypeId} (h : LD W base lv ld) (hf : Off t W W') (ht : 3 ≠ t) : LD W' base lv ld := ⟨own_off h.own hf ht, h.q.off h.own hf ht⟩
theorem LD.lt (h : LD W base lv ld) {j : Nat} (e : lv.ownBlock = some j) : base ≤ j ∧ j < W.heap.size := h.own.lt j e
end
end Go.Proofs.YtgmbaamfobhceaaGreat
namespace Go.Proofs.YtgmbaamfobhceaaGreat
open Go Go.Proofs Go.RowKit Go.Shelf Nu
set_option linter.unusedVariables false
set_option linter.unusedSimpArgs false
set_option maxRecDepth 100000
attribute [local go_sem] Oper.semAt_some
theorem info_int : (Tryz.prog.info? 3).map (fun i => (i.zero, i.size, i.bytes)) = some (some (.int .i64 0), 1, 8) := by kernel_rfl
theorem zero_noQ {z u : Value} {m : Nat} (hz : noQ z = true) (h1 : z.cells = #[z]) (hu : u ∈ (Builtin.zeroCells z.cells m).toList) : noQ u = true := by
 rw [h1] at hu
 obtain ⟨j, _, rfl⟩ : ∃ j, j < m * (#[z] : Array Value).size ∧ (#[z] : Array Value)[j % (#[z] : Array Value).size]! = u := by simpa [Builtin.zeroCells] using hu
 show noQ ((#[z] : Array Value)[j % 1]!) = true
 rw [Nat.mod_one]
 exact hz
section
variable {i : TypeInfo} (hi : Tryz.prog.info? 3 = some i) (hz : i.zero = some (.int .i64 0)) (h1 : i.size = 1) (h2 : i.bytes = 8)
include hi hz h1 h2
theorem run_append_lead (w0 : World) (ty : TypeId) (base c : Nat) (v : Value) (ld : List Nat) (hown : LD w0 base v ld) (hb : base ≤ w0.heap.size) (hl : ld.length ≤ 100000) :
   ∃ v' w', (Builtin.append_ #[57, 57] ty #[v, .slice (some ⟨w0.heap.size, 0, none⟩) 1 1]).run Tryz.prog (w0.alloc (.cells #[.int .i64 (c : Int)] 3)) = .ok v' w' ∧ LD w' base v' (ld ++ [c]) ∧ (w0.alloc (.cells #[.int .i64 (c : Int)] 3)).grownBy w' v.ownBlock := by
 obtain ⟨w, hw⟩ : ∃ w, w = w0.alloc (.cells #[.int .i64 (c : Int)] 3) := ⟨_, rfl⟩
 have hV : LD w base v ld := hw ▸ hown.below ((Below.refl _ _).alloc (Nat.le_refl _) _)
 have hsz : w.heap.size = w0.heap.size + 1 := by rw [hw, World.size_alloc]
 have hblk : w.heap[w0.heap.size]? = some (.cells #[.int .i64 (c : Int)] 3 (0, 0)) := by rw [hw]; exact heap_alloc_new w0 _
 have hnews : ∀ (j : Nat) (u : Value), [Value.int .i64 (c : Int)][j]? = some u → w.cell? ((⟨w0.heap.size, 0, none⟩ : Addr).add j) = some u := by
   intro j u hu
   rw [show (⟨w0.heap.size, 0, none⟩ : Addr).add j = ⟨w0.heap.size, j, none⟩ by rw [Addr.add_lit]; simp]
   unfold World.cell?
   rw [hblk]
   simpa using hu
 rw [← hw]
 obtain ⟨xs, hxs⟩ : ∃ xs, xs = ld.map fun (k : Nat) => Value.int .i64 (k : Int) := ⟨_, rfl⟩
 have hxl : xs.length = ld.length := by rw [hxs, List.length_map]
 have hxq : ∀ u ∈ xs, noQ u = true := by
   intro u hu
   rw [hxs] at hu
   obtain ⟨k, _, rfl⟩ := List.mem_map.1 hu
   rfl
 have hO := hV.own
 rw [← hxs] at hO
 have hone : ∀ u ∈ [Value.int .i64 (c : Int)], u.oneCell' = true := by
   intro u hu
   obtain rfl := List.mem_singleton.1 hu
   rfl
 have hnq : ∀ u ∈ [Value.int .i64 (c : Int)], noQ u = true := by
   intro u hu
   obtain rfl := List.mem_singleton.1 hu
   rfl
 have hcl : ([Value.int .i64 (c : Int)]).length = 1 * i.size := by rw [h1]; rfl
 obtain ⟨v', w', hrun, ho, hg, hnil⟩ := run_append_own (P := Tryz.prog) w base 57 ty 3 i (.int .i64 0) 1 8 Tryz.underlying57 hi hz h1 h2 rfl (by omega) v ld.length xs hO ⟨w0.heap.size, 0, none⟩ 1 1 [Value.int .i64 (c : Int)] rfl hnews hone (by unfold maxLen; omega) (by omega) (by omega)
 refine ⟨v', w', hrun, ⟨?_, ?_⟩, hg⟩
 · rw [List.length_append, List.map_append, ← hxs]; exact ho
 · rcases hO.2 with ⟨rfl, hn0⟩ | ⟨g, cap, cur, rfl, hbg, hgb, hnc, hcm, hcs, htake⟩
   · have hr := run_append_nil (P := Tryz.prog) w 57 ty 3 i (.int .i64 0) Tryz.underlying57 hi hz ⟨w0.heap.size, 0, none⟩ 1 1 [Value.int .i64 (c : Int)] hcl hnews (by omega) (by omega) (by rw [h2]; omega)
     rw [hr] at hrun
     cases hrun
     intro g e
     obtain rfl : w.heap.size = g := by simpa [Value.ownBlock] using e
     refine ⟨_, _, heap_alloc_new w.drew _, fun u hu => ?_⟩
     simp only [Array.toList_append, List.mem_append] at hu
     rcases hu with hu | hu
     · exact hnq u hu
     · exact zero_noQ (z := .int .i64 0) rfl rfl hu
   · obtain ⟨cur', e', hgb', h32⟩ := hV.q g rfl
     rw [hgb] at hgb'
     cases hgb'
     by_cases hroom : ld.length + 1 ≤ cap
     · have hr := run_append_room (P := Tryz.prog) w 57 ty 3 i Tryz.underlying57 hi g ld.length cap cur hgb ⟨w0.heap.size, 0, none⟩ 1 1 [Value.int .i64 (c : Int)] hcl hnews hone hroom (by rw [hcl, h1, hcs, ← Nat.add_mul]; exact Nat.mul_le_mul_right _ hroom)
       rw [hr] at hrun
       cases hrun
       intro g2 e
       obtain rfl : g = g2 := by simpa [Value.ownBlock] using e
       refine ⟨_, _, setRow_heap w g cur _ _ _ hgb, fun u hu => ?_⟩
       simp only [List.mem_append] at hu
       rcases hu with (hu | hu) | hu
       · exact h32 u (List.mem_of_mem_take hu)
       · exact hnq u hu
       · exact h32 u (List.mem_of_mem_drop hu)
     · have holds : ∀ (j : Nat) (u : Value), xs[j]? = some u → w.cell? ((⟨g, 0, none⟩ : Addr).add j) = some u := World.ownsRow.cells hO (g := g) rfl
       have hr := run_append_grow (P := Tryz.prog) w 57 ty 3 i (.int .i64 0) Tryz.underlying57 hi hz ⟨g, 0, none⟩ ld.length cap xs (by rw [h1]; omega) holds ⟨w0.heap.size, 0, none⟩ 1 1 [Value.int .i64 (c : Int)] hcl hnews (by omega) (by omega) (growslice_fits (by omega) (by rw [h2]; omega))
       rw [hr] at hrun
       cases hrun
       intro g2 e
       obtain rfl : w.heap.size = g2 := by simpa [Value.ownBlock] using e
       refine ⟨_, _, heap_alloc_new w.drew _, fun u hu => ?_⟩
       simp only [Array.toList_append, List.mem_append] at hu
       rcases hu with (hu | hu) | hu
       · exact hxq u hu
       · exact hnq u hu
       · exact zero_noQ (z := .int .i64 0) rfl rfl hu
end
theorem wpList_append_lead {i : TypeInfo} (hi : Tryz.prog.info? 3 = some i) (hz : i.zero = some (.int .i64 0)) (h1 : i.size = 1) (h2 : i.bytes = 8) (w0 : World) {ops : Array Oper} {rest : List Oper} {o : Oper} {a : Act} {Q : Exit → Act → World → Prop}
  (hg : o.guard = none) (s x : Operand) (hop : o.op = Op.call { callee := Callee.builtin Builtin.append, args := #[s, x], argTypes := #[57, 57] })
  (base c : Nat) (v : Value) (ld : List Nat) (hs : a.eval s = v) (hx : a.eval x = .slice (some ⟨w0.heap.size, 0, none⟩) 1 1) (hown : LD w0 base v ld) (hb : base ≤ w0.heap.size) (hl : ld.length ≤ 100000)
  (hK : ∀ v' w', LD w' base v' (ld ++ [c]) → (w0.alloc (.cells #[.int .i64 (c : Int)] 3)).grownBy w' v.ownBlock → wpList Tryz.prog ops Q rest (a.put o.dst v') w') :
  wpList Tryz.prog ops Q (o :: rest) a (w0.alloc (.cells #[.int .i64 (c : Int)] 3)) := by
 refine wpList_plain hg fun K hK' => ?_
 obtain ⟨v', w', hrun, r1, r2⟩ := run_append_lead hi hz h1 h2 w0 o.type base c v ld hown hb hl
 unfold Oper.wp
 simp only [execOp, hop, resolve, invoke, builtin, Sem.run_bind, Sem.run_pure, Result.andThen_ok, List.map_toArray, List.map_cons, List.map_nil, hs, hx, hrun]
 exact hK' _ _ (hK v' w' r1 r2)
theorem GridR.vals {W : World} {b off n cap : Nat} {R : List (List Rat)} (h : GridR W (.slice (some ⟨b, off, none⟩) n cap) (gq R)) (h0 : 0 < n) :
   ∃ vs : List Value, vs.length = n ∧ (∀ (j : Nat) (u : Value), vs[j]? = some u → W.cell? ((⟨b, off, none⟩ : Addr).add j) = some u) ∧ (∀ u ∈ vs, noQ u = true ∧ u.oneCell' = true) ∧ ∀ (k : Nat) (v : Value) (r : List Rat), vs[k]? = some v → R[k]? = some r → VReads W v (r.map qr) := by
 obtain ⟨hl, hcap, hA⟩ := h.addr
 have hl2 : n = R.length := by rw [hl]; unfold gq; rw [List.length_map]
 obtain ⟨b', off', e, hb, hc⟩ := hA h0
 cases e
 have key : ∀ j, ∃ u : Value, j < n → W.cell? ⟨b, off + j * 1, none⟩ = some u ∧ VReads W u ((R.getD j []).map qr) := by
   intro j
   by_cases hj : j < n
   · obtain ⟨u, h1, h2⟩ := hc j ((R.getD j []).map qr) (gq_at (by rw [List.getD_eq_getElem?_getD, List.getElem?_eq_getElem (by omega)]; rfl))
     exact ⟨u, fun _ => ⟨h1, h2⟩⟩
   · exact ⟨.bool true, fun h => absurd h hj⟩
 obtain ⟨f, hf⟩ : ∃ f : Nat → Value, ∀ j, j < n → W.cell? ⟨b, off + j * 1, none⟩ = some (f j) ∧ VReads W (f j) ((R.getD j []).map qr) :=
   ⟨fun j => Classical.choose (key j), fun j => Classical.choose_spec (key j)⟩
 have hat : ∀ (j : Nat) (u : Value), ((List.range n).map f)[j]? = some u → j < n ∧ f j = u := by
   intro j u hu
   rw [List.getElem?_map] at hu
   have hj : j < n := by
     have := (Option.map_eq_some_iff.1 hu)
     obtain ⟨a, h1, _⟩ := this
     have := (List.getElem?_eq_some_iff.1 h1).1
     rwa [List.length_range] at this
   rw [List.getElem?_range hj] at hu
   exact ⟨hj, by simpa using hu⟩
 refine ⟨(List.range n).map f, by simp, fun j u hu => ?_, fun u hu => ?_, fun k v r e1 e2 => ?_⟩
 · obtain ⟨hj, rfl⟩ := hat j u hu
   rw [Addr.add_lit]
   have := (hf j hj).1
   rwa [Nat.mul_one] at this
 · obtain ⟨j, hj, rfl⟩ := List.mem_map.1 hu
   obtain ⟨a, c, e⟩ := (hf j (by simpa using hj)).2.form
   rw [e]
   exact ⟨rfl, rfl⟩
 · obtain ⟨hj, rfl⟩ := hat k v e1
   have := (hf k hj).2
   rwa [List.getD_eq_getElem?_getD, e2] at this
section
variable {i : TypeInfo} (hi : Tryz.prog.info? 30 = some i) (hz : i.zero = some (.slice none 0 0)) (h1 : i.size = 1) (h2 : i.bytes = 24)
include hi hz h1 h2
theorem run_clone_rows (w0 : World) (ty : TypeId) (b off n cap : Nat) (vs : List Value) (R : List (List Rat)) (hn : 0 < n) (hl : n ≤ 100000) (hR : R.length = n) (hvl : vs.length = n)
   (hc : ∀ (j : Nat) (u : Value), vs[j]? = some u → w0.cell? ((⟨b, off, none⟩ : Addr).add j) = some u) (hq : ∀ u ∈ vs, noQ u = true ∧ u.oneCell' = true) (hrd : ∀ (k : Nat) (v : Value) (r : List Rat), vs[k]? = some v → R[k]? = some r → VReads w0 v (r.map qr)) :
   ∃ g cap' w', (Builtin.append_ #[70, 70] ty #[.slice (some ⟨w0.heap.size, 0, none⟩) 0 0, .slice (some ⟨b, off, none⟩) n cap]).run Tryz.prog (w0.alloc (.cells #[] 30)) = .ok (.slice (some ⟨g, 0, none⟩) n cap') w' ∧ GR w' w0.heap.size g n cap' vs R ∧ Below w0.heap.size w0 w' := by
 obtain ⟨w, hw⟩ : ∃ w, w = w0.alloc (.cells #[] 30) := ⟨_, rfl⟩
 have hA : Below w0.heap.size w0 w := hw ▸ (Below.refl _ _).alloc (Nat.le_refl _) _
 have hsz : w.heap.size = w0.heap.size + 1 := by rw [hw, World.size_alloc]
 have hO : w.ownsRow w0.heap.size 30 1 (.slice (some ⟨w0.heap.size, 0, none⟩) 0 0) 0 [] := hw ▸ World.ownsRow_made w0 #[] 0 (Nat.le_refl _) (Nat.zero_le _) rfl
 have hnews : ∀ (j : Nat) (u : Value), vs[j]? = some u → w.cell? ((⟨b, off, none⟩ : Addr).add j) = some u := by
   intro j u hu
   have := hc j u hu
   rw [Addr.add_lit] at this ⊢
   have hlt : b < w0.heap.size := by
    unfold World.cell? at this
    cases e : w0.heap[b]? with
    | none => rw [e] at this; cases this
    | some o => exact (Array.getElem?_eq_some_iff.1 e).1
   exact (hA.cell (p := ⟨b, off + j, none⟩) hlt).trans this
 rw [← hw]
 have hcl : vs.length = n * i.size := by rw [h1]; omega
 obtain ⟨v', w', hrun, ho, hg, hnil⟩ := run_append_own (P := Tryz.prog) w w0.heap.size 70 ty 30 i (.slice none 0 0) 1 24 Tryz.underlying70 hi hz h1 h2 rfl (by omega) (.slice (some ⟨w0.heap.size, 0, none⟩) 0 0) 0 [] hO ⟨b, off, none⟩ n cap vs (by omega) hnews (fun u hu => (hq u hu).2) (by unfold maxLen; omega) (by omega) (by omega)
 have hr := run_append_grow (P := Tryz.prog) w 70 ty 30 i (.slice none 0 0) Tryz.underlying70 hi hz ⟨w0.heap.size, 0, none⟩ 0 0 [] (by simp) (fun j u hu => by simp at hu) ⟨b, off, none⟩ n cap vs hcl hnews (by omega) (by omega) (growslice_fits (by omega) (by rw [h2]; omega))
 rw [hr] at hrun
 cases hrun
 have hB : Below w0.heap.size w0 _ := hA.grown hg (by omega) (fun j ej => by simp [Value.ownBlock] at ej; omega)
 simp only [Nat.zero_add, List.nil_append] at ho hr hB ⊢
 refine ⟨_, _, _, hr, ⟨ho, ?_, hR, fun k v r e1 e2 => (hrd k v r e1 e2).below hB⟩, hB⟩
 intro g2 e
 obtain rfl : w.heap.size = g2 := by simpa [Value.ownBlock] using e
 refine ⟨_, _, heap_alloc_new w.drew _, fun u hu => ?_⟩
 simp only [Array.toList_append, List.mem_append] at hu
 rcases hu with (hu | hu) | hu
 · cases hu
 · exact (hq u hu).1
 · exact zero_noQ (z := .slice none 0 0) rfl rfl hu
end
theorem wpList_clone_rows {i : TypeInfo} (hi : Tryz.prog.info? 30 = some i) (hz : i.zero = some (.slice none 0 0)) (h1 : i.size = 1) (h2 : i.bytes = 24) (w0 : World) {ops : Array Oper} {rest : List Oper} {o : Oper} {a : Act} {Q : Exit → Act → World → Prop}
  (hg : o.guard = none) (s x : Operand) (hop : o.op = Op.call { callee := Callee.builtin Builtin.append, args := #[s, x], argTypes := #[70, 70] })
  (b off n cap : Nat) (vs : List Value) (R : List (List Rat)) (hs : a.eval s = .slice (some ⟨w0.heap.size, 0, none⟩) 0 0) (hx : a.eval x = .slice (some ⟨b, off, none⟩) n cap) (hn : 0 < n) (hl : n ≤ 100000) (hR : R.length = n) (hvl : vs.length = n)
  (hc : ∀ (j : Nat) (u : Value), vs[j]? = some u → w0.cell? ((⟨b, off, none⟩ : Addr).add j) = some u) (hq : ∀ u ∈ vs, noQ u = true ∧ u.oneCell' = true) (hrd : ∀ (k : Nat) (v : Value) (r : List Rat), vs[k]? = some v → R[k]? = some r → VReads w0 v (r.map qr))
  (hK : ∀ g cap' w', GR w' w0.heap.size g n cap' vs R → Below w0.heap.size w0 w' → wpList Tryz.prog ops Q rest (a.put o.dst (.slice (some ⟨g, 0, none⟩) n cap')) w') :
  wpList Tryz.prog ops Q (o :: rest) a (w0.alloc (.cells #[] 30)) := by
 refine wpList_plain hg fun K hK' => ?_
 obtain ⟨g, cap', w', hrun, r1, r2⟩ := run_clone_rows hi hz h1 h2 w0 o.type b off n cap vs R hn hl hR hvl hc hq hrd
 unfold Oper.wp
 simp only [execOp, hop, resolve, invoke, builtin, Sem.run_bind, Sem.run_pure, Result.andThen_ok, List.map_toArray, List.map_cons, List.map_nil, hs, hx, hrun]
 exact hK' _ _ (hK g cap' w' r1 r2)
theorem g_clone {w : World} {a : Option Addr} {n cap : Nat} {R : List (List Rat)} (h : GridR w (.slice a n cap) (gq R)) (h0 : 0 < n) (hn : n ≤ 1000) :
  Calls Tryz.prog 94 #[.slice a n cap] w fun e w' => ∃ g cap' vs, e = .returned (.slice (some ⟨g, 0, none⟩) n cap') ∧ GR w' w.heap.size g n cap' vs R ∧ Below w.heap.size w w' := by
 obtain ⟨i0, hi, hz0, hz1, hz2⟩ := info_parts info_rows
 obtain ⟨hl, hcap, hA⟩ := h.addr
 have hl2 : R.length = n := by rw [hl]; unfold gq; rw [List.length_map]
 obtain ⟨b, off, rfl, hb, hc⟩ := hA h0
 obtain ⟨vs, v1, v2, v3, v4⟩ := h.vals h0
 have hq := fun (W : World) => Lib.run_eql_slice_nil (P := Tryz.prog) W 70 30 (some ⟨b, off, none⟩) n cap 0 0 Tryz.underlying70
 have V := Lib.hid (And.intro v1 (And.intro v2 (And.intro v3 v4)))
 clear hl hA hc hcap v1 v2 v3 v4
 clear h
 go_enter Tryz.func94, Tryz.ntmps94
 go_wp2_with (at_builtin; go_loud (refine wpList_clone_rows hi hz0 hz1 hz2 w rfl _ _ rfl b off n cap vs R rfl rfl h0 (by omega) hl2 V.out.1 V.out.2.1 V.out.2.2.1 V.out.2.2.2 ?_); intro g cap' w1 hG hB)
 have HG := Lib.hid hG
 have HB := Lib.hid hB
 clear hG hB
 go_wp2
 go_ret
 exact ⟨g, cap', vs, rfl, HG.out, HB.out⟩
end Go.Proofs.YtgmbaamfobhceaaGreat
