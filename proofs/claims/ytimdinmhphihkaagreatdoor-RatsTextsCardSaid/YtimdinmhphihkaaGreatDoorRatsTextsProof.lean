/-
  Whether any fraction of at most 60 parts may be, is whole, what it is below that, and its text, are exactly as documented; so is the fraction of any text of at most 2000 bytes, or it is refused; answers are memory of their own.
-/
import Derived.Test.YtimdinmhphihkaaGreatDoorTie
import Derived.Test.YtimdinmhphihkaaGreatDoorCards
import Derived.Test.YtimdinmhphihkaaGreatDoorRatsTextsClosed
import Derived.WalkKit
import Derived.ProofKit
import Derived.OpenShut
import Derived.ShutString
import Derived.ChangeOld
import Derived.Below
import Derived.Lib.SmallJoins
import Derived.LaidMore
import Derived.Lay
import Derived.SizedLaws
import Derived.SevenTiedAt
import Derived.Stop.Joined
import Derived.Test.YtimdinmhphihkaaGreatDoorGRTextsB
namespace Go.Proofs.YtimdinmhphihkaaGreatDoor.ratsTexts
open Go.ChangeShapes Go.WideShapes Go.ChangeAt Go.RowKit
open Go.ChangeMaps (open_string shut_string)
set_option linter.unusedVariables false
set_option maxRecDepth 100000

theorem own : ownKnob Tryz.prog.godebug = none := by kernel_rfl
theorem laidOut : laidOutB Tryz.prog = true := by kernel_rfl
def IsRow (k : IntKind) (w : World) (a : Option Addr) (len cap : Nat) (zs : List Int) : Prop :=
  (a = none ∧ len = 0 ∧ cap = 0 ∧ zs = []) ∨
  ∃ x, a = some x ∧ (x.spot = none ∧ x.block < w.heap.size) ∧ len ≤ cap ∧ cap ≤ maxLen ∧ zs.length = cap ∧ (∀ i, i < zs.length → w.cell? (x.add i) = some (.int k (zs.getD i 0))) ∧ ∀ n ∈ zs, (Lit.int k n).wf = true

theorem slice_at {W : World} {base : Nat} {x : Addr} {len cap : Nat} (h : Value.okWide Tryz.prog W .any base 23 (.slice (some x) len cap)) : x.spot = none ∧ x.block < W.heap.size := by
  simp only [Value.okWide, Tryz.underlying23, Cell.okWide, Cell.ok] at h
  obtain ⟨_, _, _, hs, row, cells, hsh, _⟩ := h
  refine ⟨hs, ?_⟩
  unfold World.shape? at hsh
  split at hsh
  · rename_i he
    exact (Array.getElem?_eq_some_iff.1 he).1
  · cases hsh
theorem IsRow.reads {w : World} {a : Option Addr} {len cap : Nat} {zs : List Int} (h : IsRow .u32 w a len cap zs) : ∃ l : List Nat, l.length = len ∧ Nu.Sm l ∧ Reads w (.slice a l.length cap) l := by
  rcases h with ⟨rfl, rfl, rfl, rfl⟩ | ⟨⟨b, off, spot⟩, rfl, ⟨hs, hb⟩, hl, hm, hz, hc, hw⟩
  · exact ⟨[], rfl, Nu.Sm.nil, .inl ⟨rfl, rfl⟩⟩
  · obtain rfl : spot = none := hs
    have hlen : ((zs.take len).map Int.toNat).length = len := by rw [List.length_map, List.length_take]; omega
    have hb' : ∀ z ∈ zs, 0 ≤ z ∧ z < 4294967296 := fun z hz' => by
      have := Go.bounds_u32 (hw z hz'); omega
    refine ⟨(zs.take len).map Int.toNat, hlen, ?_, .inr (.inl ⟨b, off, cap, rfl, hb, by rw [hlen]; exact hl, fun j hj => ?_⟩)⟩
    · intro y hy
      obtain ⟨z, hz1, rfl⟩ := List.mem_map.1 hy
      have := hb' z (List.mem_of_mem_take hz1)
      omega
    · rw [hlen] at hj
      have e := hc j (by omega)
      rw [← Go.WideShapes.add_plain, e]
      have hz2 := hb' zs[j] (List.getElem_mem (by omega))
      simp only [List.getD_eq_getElem?_getD, List.getElem?_map, List.getElem?_take, if_pos hj, List.getElem?_eq_getElem (show j < zs.length by omega), Option.map_some, Option.getD_some]
      congr 2
      omega

theorem field_at {W : World} {base : Nat} {c0 c1 : Value} (h : Value.okWide Tryz.prog W .any base 25 (.agg #[c0, c1])) : Value.okWide Tryz.prog W .any base 23 c1 := by
  simp only [Value.okWide, Tryz.underlying25] at h
  obtain ⟨cs, e, _, ts, hts, _, hc⟩ := h
  have ets : Tryz.prog.cellTypes Tryz.prog.depth 25 = some [4, 23] := by kernel_rfl
  rw [ets] at hts
  cases hts
  cases e
  obtain ⟨u, hu, hcu⟩ := hc 1 c1 rfl
  cases hu
  simp only [Value.okWide, Tryz.underlying23]
  exact hcu
theorem nat_cell {W : World} {base : Nat} {c0 c1 c2 : Value} (h : Value.okWide Tryz.prog W .any base 27 (.agg #[c0, c1, c2])) : Value.okWide Tryz.prog W .any base 23 c1 ∧ Value.okWide Tryz.prog W .any base 23 c2 := by
  simp only [Value.okWide, Tryz.underlying27] at h
  obtain ⟨cs, e, _, ts, hts, _, hc⟩ := h
  have ets : Tryz.prog.cellTypes Tryz.prog.depth 27 = some [4, 23, 23] := by kernel_rfl
  rw [ets] at hts
  cases hts
  cases e
  refine ⟨?_, ?_⟩
  · obtain ⟨u, hu, hcu⟩ := hc 1 c1 rfl
    cases hu
    simp only [Value.okWide, Tryz.underlying23]
    exact hcu
  · obtain ⟨u, hu, hcu⟩ := hc 2 c2 rfl
    cases hu
    simp only [Value.okWide, Tryz.underlying23]
    exact hcu
theorem open_nat {H : Type} {enc : TypeId × Value → H} {W : World} {base n : Nat} {c : Value} {y : DataW H × List MemPlace} (ho : Value.okWide Tryz.prog W .any base 23 c) (h : DataW.trod enc Tryz.prog W 0 (fun _ => true) true n 23 [c] = some y) (hw : ∀ k ∈ y.1.weights Tryz.prog 23, k ≤ reachBytes) :
    ∃ a l cap zs, c = .slice a l cap ∧ IsRow .u32 W a l cap zs ∧ l ≤ 70368744177664 := by
  rcases open_ints Tryz.underlying23 Tryz.underlying90 (by kernel_rfl) h with ⟨hcs, _⟩ | ⟨x, l, cap, zs, hcs, _, hl, hm, hz, hx, hcell, hwz⟩
  · obtain rfl : c = .slice none 0 0 := by simpa using hcs
    exact ⟨none, 0, 0, [], rfl, .inl ⟨rfl, rfl, rfl, rfl⟩, by omega⟩
  · obtain rfl : c = .slice (some x) l cap := by simpa using hcs
    refine ⟨some x, l, cap, zs, rfl, .inr ⟨_, rfl, slice_at ho, hl, hm, by simpa using hz, hcell, hwz⟩, ?_⟩
    have hz' : zs.length = cap := by simpa using hz
    have hb : Tryz.prog.bytesOf 90 = 4 := by kernel_rfl
    have := hw (((lits .u32 (zs.take l) : List (DataW H)).length + (lits .u32 (zs.drop l) : List (DataW H)).length) * Tryz.prog.bytesOf 90) (by rw [hx]; simp [DataW.weights, Tryz.underlying23])
    rw [hb] at this
    simp [lits] at this
    have := reachBytes_lt
    omega
theorem open_rat {H : Type} {enc : TypeId × Value → H} {W : World} {base : Nat} {v : Value} {d : DataW H} {p : List MemPlace} (ho : Value.okWide Tryz.prog W .any base 27 v) (h : DataW.Trod enc Tryz.prog W 0 (fun _ => true) true 27 v d p) (hw : ∀ k ∈ d.weights Tryz.prog 27, k ≤ reachBytes) :
    ∃ s a1 l1 c1 z1 a2 l2 c2 z2, v = .agg #[.bool s, .slice a1 l1 c1, .slice a2 l2 c2] ∧ IsRow .u32 W a1 l1 c1 z1 ∧ IsRow .u32 W a2 l2 c2 z2 ∧ l1 ≤ 70368744177664 ∧ l2 ≤ 70368744177664 := by
  obtain ⟨cs, rfl, hsz⟩ := okWide_struct Tryz.underlying27 ho
  obtain ⟨l⟩ := cs
  match l, hsz.trans (show Tryz.prog.cellsOf 27 = 3 by kernel_rfl) with
  | [c0, c1, c2], _ =>
    obtain ⟨k1, k2⟩ := nat_cell ho
    obtain ⟨fuel, hf⟩ := h
    obtain ⟨xs, n, _, hx, _, hlen, hg⟩ := DataW.trod_struct Tryz.underlying27 hf
    match xs, hlen with
    | [y0, y1], _ =>
      have g0 := hg 0 _ rfl
      have g1 := hg 1 _ rfl
      have e0 : DataW.trod enc Tryz.prog W 0 (fun _ => true) true n 25 [c0, c1] = some y0 := g0
      have e1 : DataW.trod enc Tryz.prog W 0 (fun _ => true) true n 23 [c2] = some y1 := g1
      obtain ⟨us, n', _, hx', _, hlen', hg'⟩ := DataW.trod_struct Tryz.underlying25 e0
      match us, hlen' with
      | [u0, u1], _ =>
        have f0 : DataW.trod enc Tryz.prog W 0 (fun _ => true) true n' 4 [c0] = some u0 := hg' 0 _ rfl
        have f1 : DataW.trod enc Tryz.prog W 0 (fun _ => true) true n' 23 [c1] = some u1 := hg' 1 _ rfl
        simp only [Prod.mk.injEq, List.map_cons, List.map_nil] at hx hx'
        obtain ⟨s, hs, _⟩ := DataW.trod_bool Tryz.underlying4 f0
        obtain rfl : c0 = .bool s := by simpa using hs
        have w1 : ∀ k ∈ u1.1.weights Tryz.prog 23, k ≤ reachBytes := fun k hk => hw k (by
          rw [hx.1]; simp only [DataW.weights, Tryz.underlying27, List.map_cons, List.map_nil, DataW.weightsEach, List.mem_append]
          left
          rw [hx']; simp only [DataW.weights, Tryz.underlying25, List.map_cons, List.map_nil, DataW.weightsEach, List.mem_append]
          right; left; exact hk)
        have w2 : ∀ k ∈ y1.1.weights Tryz.prog 23, k ≤ reachBytes := fun k hk => hw k (by
          rw [hx.1]; simp only [DataW.weights, Tryz.underlying27, List.map_cons, List.map_nil, DataW.weightsEach, List.mem_append]
          right; left; exact hk)
        obtain ⟨a1, l1, cp1, z1, rfl, r1, b1⟩ := open_nat k1 f1 w1
        obtain ⟨a2, l2, cp2, z2, rfl, r2, b2⟩ := open_nat k2 e1 w2
        exact ⟨s, a1, l1, cp1, z1, a2, l2, cp2, z2, rfl, r1, r2, b1, b2⟩


theorem walk (s0 : Bool) (a0 : Option Addr) (l0 c0 : Nat) (z0 : List Int) (u0 : Option Addr) (m0 e0 : Nat) (y0 : List Int) (a1 : ByteArray) (w : World) (w0 : IsRow .u32 w a0 l0 c0 z0) (v0 : IsRow .u32 w u0 m0 e0 y0) (t0 : l0 ≤ 70368744177664 ∧ m0 ≤ 70368744177664) (w1 : a1.size ≤ maxLen) :
    Calls Tryz.prog 3 #[.agg #[.bool s0, .slice a0 l0 c0, .slice u0 m0 e0], .string a1] w fun e w' => e = .returned (.bool true) ∧ Below w.heap.size w w' := by
  obtain ⟨L0, rfl, p0, q0⟩ := w0.reads
  obtain ⟨D0, rfl, p0', q0'⟩ := v0.reads
  exact rtexts_all ⟨p0, p0', rfl⟩ w1 t0.1 t0.2 q0 q0'


theorem lifted (os : Os) (started : os.Started) (H : Type) (enc : TypeId × Value → H) :
    ReturnsInHanded {} Tryz.checked os 3 .any (fun w args => (Rows.ratsTextsSpec.pre enc Tryz.prog Tryz.f3 Rows.ratsTextsRow.domain false w args ∧ laidMetH Tryz.prog Rows.ratsTextsRow.laid w) ∧ sizedMet enc Tryz.prog Tryz.f3 (OpenSpec.ofChange Rows.ratsTextsSpec) false w args)
      (Rows.ratsTextsSpec.post enc Tryz.prog Tryz.f3 false true false false) := by
  refine returnsInHanded_of_change_and (C := Tryz.checked) (X := fun w _ => laidMetH Tryz.prog Rows.ratsTextsRow.laid w) (fun _ _ _ hh h => h.of_heap hh) own started (by kernel_rfl) Tryz.func3
    (ChangeSpec.witness_shaped (enc := enc) (C := Tryz.checked) (os := os) (X := fun w _ => laidMetH Tryz.prog Rows.ratsTextsRow.laid w) false (World.laidAll Tryz.prog os Rows.ratsTextsRow.laid) #[.agg #[.bool false, .slice none 0 0, .slice none 0 0], .string ByteArray.empty] 8 (World.laidAll_os _ _ _)
      (World.shaped_of_ZipB (by kernel_rfl) (by kernel_rfl)) (by kernel_rfl) (by kernel_rfl) (by kernel_rfl)
      (by rw [MakeChecks.laidMetH_plain _ _ _ (by kernel_rfl)]; exact laidMet_laidAll _ (by kernel_rfl) (by kernel_rfl))) ?_
  intro W base args ds gs before hval0 hW hcnd hsz hX _
  have hval : ∀ (j : Nat) t v, Tryz.f3.params[j]? = some t → args[j]? = some v → Value.okWide Tryz.prog W .any base t v := hval0
  have hW' := hW
  obtain ⟨p, q, hA0, hV, rfl, hfz, hnd⟩ := hW
  have hA : DataW.TrodAll enc Tryz.prog W 0 (fun _ => true) true Tryz.f3.params.toList args.toList ds p := hA0
  rw [Tryz.params3] at hA hval
  obtain ⟨v0, vs0, d0, ds0, p0, q0, hargs, rfl, rfl, h0, r0⟩ := trodAll_cons hA
  obtain ⟨v1, vs1, d1, ds1, p1, q1, rfl, rfl, rfl, h1, r1⟩ := trodAll_cons r0
  obtain ⟨rfl, rfl, rfl⟩ := trodAll_nil r1
  obtain rfl : args = #[v0, v1] := by cases args; simp_all
  obtain ⟨rfl, rfl⟩ := trodVars_none hV
  have k0 := h0
  have lt0 : ∀ x ∈ p0, x.block < W.heap.size := by obtain ⟨m, hm⟩ := k0; exact DataW.trod_lt m _ _ _ hm
  obtain ⟨s0, a0, l0, c0, z0, u0, m0, e0, y0, rfl, w0, x0, t0, t0'⟩ := open_rat (hval 0 27 v0 rfl rfl) h0 (fun k hk => by
    have := List.all_eq_true.1 hsz k (DataW.weights_mem_each (j := 0) (t := 27) (by rw [Tryz.params3]; rfl) rfl k hk)
    simpa using this)
  obtain ⟨a1, rfl, rfl, rfl, w1⟩ := open_string Tryz.underlying9 (hval 1 9 v1 rfl rfl) h1
  clear hA0 hval0
  refine (walk s0 a0 l0 c0 z0 u0 m0 e0 y0 a1 W w0 x0 ⟨t0, t0'⟩ w1).mono fun e W' ⟨he, bel⟩ => ?_
  subst he
  exact ⟨_, rfl, _, _, _, [], _, [], hW', trodAll_mk1 (shut_bool Tryz.underlying4 _), (trodAll_cons_mk (Below.trod laidOut (by kernel_rfl) (of_decide_eq_true (by kernel_rfl)) k0 bel lt0) (trodAll_cons_mk (shut_string Tryz.underlying9 w1) trodAll_mk0)), rfl, bel.frame _, fun h => by cases h⟩

theorem over : Rows.ratsTextsRow.holds Tryz.pinned (OpenSpec.ofChange Rows.ratsTextsSpec) :=
  OpenClaim.holds_of_wide 3 Tryz.f3 rfl rfl rfl rfl rfl rfl rfl ⟨rfl, rfl, rfl, rfl, rfl⟩ rfl rfl rfl rfl rfl (by kernel_rfl) Tryz.func3 ratsTexts_closed
    (of_decide_eq_true (by kernel_rfl)) (by unfold Func.isWrapper; first | (rw [if_pos (by decide +kernel)]; kernel_rfl) | (rw [if_neg (by decide +kernel)]; exact ⟨rfl, rfl⟩))
    (fun os started H enc _ => lifted os started H enc)

theorem proved : Rows.RatsTextsCardSaid :=
  Claim7.holds_tied_plain_at .later [] [.data, .data, .data, .data, .pinned] true (true, "c01fe77676087b87c777fbf44d40a043131dd4a1d1ec5a43bedcaec88b1ee540") false
    over (fun _ h => by cases h) (by kernel_rfl) (fun _ h => by cases h) ratsTexts_row_tie rfl ⟨rfl, rfl⟩ (by kernel_rfl) rfl
    (fun f fn hf hfn => by
      obtain rfl : f = 3 := Option.some.inj ((show Tryz.prog.funcNamed "assayer/assayerlaw03.RatsTexts" = some 3 by kernel_rfl).symm.trans hf) |>.symm
      obtain rfl : fn = Tryz.f3 := (Option.some.inj (Tryz.func3.symm.trans hfn)).symm
      exact ⟨by kernel_rfl, fun j t ht => by
        rw [Tryz.params3] at ht
        have hm : t ∈ [27, 9] := by
          have := Array.mem_of_getElem? ht
          simpa using this
        have hm2 : t = 27 ∨ t = 9 := by simpa using hm
        rcases hm2 with rfl | rfl
        · exact (show Tryz.prog.wantsStandIn 27 = false by kernel_rfl)
        · exact (show Tryz.prog.wantsStandIn 9 = false by kernel_rfl)⟩)
    (by kernel_rfl)
#print axioms proved
end Go.Proofs.YtimdinmhphihkaaGreatDoor.ratsTexts
