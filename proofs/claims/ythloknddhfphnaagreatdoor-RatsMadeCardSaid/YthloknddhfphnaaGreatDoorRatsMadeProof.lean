/-
  RatsMade: for any three whole numbers, of whatever parts (those of more than 20 parts, and those that may not be, are let by), RatsMade answers true, returns, and changes nothing that was there; under the row's own conditions.
-/
import Derived.Test.YthloknddhfphnaaGreatDoorTie
import Derived.Test.YthloknddhfphnaaGreatDoorCards
import Derived.WalkKit
import Derived.ProofKit
import Derived.OpenShut
import Derived.ShutString
import Derived.ChangeOld
import Derived.Below
import Derived.Lib.SmallJoins
import Derived.LaidMore
import Derived.Lay
import Derived.SizedLaws
import Derived.SevenTiedAt
import Derived.Stop.Joined
import Derived.Test.YthloknddhfphnaaGreatDoorGRatsMadeB
import Derived.Test.YthloknddhfphnaaGreatDoorGRatsMadeClosed
namespace Go.Proofs.YthloknddhfphnaaGreatDoor.ratsMade
open Go.ChangeShapes Go.WideShapes Go.ChangeAt Go.RowKit
set_option linter.unusedVariables false
set_option maxRecDepth 100000

theorem own : ownKnob Tryz.prog.godebug = none := by kernel_rfl
theorem laidOut : laidOutB Tryz.prog = true := by kernel_rfl

def IsRow (k : IntKind) (w : World) (a : Option Addr) (len cap : Nat) (zs : List Int) : Prop :=
  (a = none ∧ len = 0 ∧ cap = 0 ∧ zs = []) ∨
  ∃ x, a = some x ∧ (x.spot = none ∧ x.block < w.heap.size) ∧ len ≤ cap ∧ cap ≤ maxLen ∧ zs.length = cap ∧ (∀ i, i < zs.length → w.cell? (x.add i) = some (.int k (zs.getD i 0))) ∧ ∀ n ∈ zs, (Lit.int k n).wf = true

theorem slice_at {W : World} {base : Nat} {x : Addr} {len cap : Nat} (h : Value.okWide Tryz.prog W .any base 23 (.slice (some x) len cap)) : x.spot = none ∧ x.block < W.heap.size := by
  simp only [Value.okWide, Tryz.underlying23, Cell.okWide, Cell.ok] at h
  obtain ⟨_, _, _, hs, row, cells, hsh, _⟩ := h
  refine ⟨hs, ?_⟩
  unfold World.shape? at hsh
  split at hsh
  · rename_i he
    exact (Array.getElem?_eq_some_iff.1 he).1
  · cases hsh
theorem IsRow.reads {w : World} {a : Option Addr} {len cap : Nat} {zs : List Int} (h : IsRow .u32 w a len cap zs) : ∃ l : List Nat, l.length = len ∧ Nu.Sm l ∧ Reads w (.slice a l.length cap) l := by
  rcases h with ⟨rfl, rfl, rfl, rfl⟩ | ⟨⟨b, off, spot⟩, rfl, ⟨hs, hb⟩, hl, hm, hz, hc, hw⟩
  · exact ⟨[], rfl, Nu.Sm.nil, .inl ⟨rfl, rfl⟩⟩
  · obtain rfl : spot = none := hs
    have hlen : ((zs.take len).map Int.toNat).length = len := by rw [List.length_map, List.length_take]; omega
    have hb' : ∀ z ∈ zs, 0 ≤ z ∧ z < 4294967296 := fun z hz' => by
      have := Go.bounds_u32 (hw z hz'); omega
    refine ⟨(zs.take len).map Int.toNat, hlen, ?_, .inr ⟨b, off, cap, rfl, hb, by rw [hlen]; exact hl, fun j hj => ?_⟩⟩
    · intro y hy
      obtain ⟨z, hz1, rfl⟩ := List.mem_map.1 hy
      have := hb' z (List.mem_of_mem_take hz1)
      omega
    · rw [hlen] at hj
      have e := hc j (by omega)
      rw [← Go.WideShapes.add_plain, e]
      have hz2 := hb' zs[j] (List.getElem_mem (by omega))
      simp only [List.getD_eq_getElem?_getD, List.getElem?_map, List.getElem?_take, if_pos hj, List.getElem?_eq_getElem (show j < zs.length by omega), Option.map_some, Option.getD_some]
      congr 2
      omega

theorem field_at {W : World} {base : Nat} {c0 c1 : Value} (h : Value.okWide Tryz.prog W .any base 25 (.agg #[c0, c1])) : Value.okWide Tryz.prog W .any base 23 c1 := by
  simp only [Value.okWide, Tryz.underlying25] at h
  obtain ⟨cs, e, _, ts, hts, _, hc⟩ := h
  have ets : Tryz.prog.cellTypes Tryz.prog.depth 25 = some [4, 23] := by kernel_rfl
  rw [ets] at hts
  cases hts
  cases e
  obtain ⟨u, hu, hcu⟩ := hc 1 c1 rfl
  cases hu
  simp only [Value.okWide, Tryz.underlying23]
  exact hcu

theorem open_int3 {H : Type} {enc : TypeId × Value → H} {W : World} {base : Nat} {v : Value} {d : DataW H} {p : List MemPlace} (ho : Value.okWide Tryz.prog W .any base 25 v) (h : DataW.Trod enc Tryz.prog W 0 (fun _ => true) true 25 v d p) :
    ∃ n a len cap zs, v = .agg #[.bool n, .slice a len cap] ∧ IsRow .u32 W a len cap zs := by
  obtain ⟨c0, c1, y0, y1, fuel, rfl, _, _, hb, hf⟩ := Go.Joins.open_agg2 Tryz.underlying25 (by kernel_rfl) (by kernel_rfl) ho h
  obtain ⟨n, hn, _⟩ := DataW.trod_bool Tryz.underlying4 hb
  obtain rfl : c0 = .bool n := by simpa using hn
  rcases open_ints Tryz.underlying23 Tryz.underlying57 (by kernel_rfl) hf with ⟨hcs, _⟩ | ⟨x, l, c, zs, hcs, _, hl, hm, hz, _, hcell, hwz⟩
  · obtain rfl : c1 = .slice none 0 0 := by simpa using hcs
    exact ⟨n, none, 0, 0, [], rfl, .inl ⟨rfl, rfl, rfl, rfl⟩⟩
  · obtain rfl : c1 = .slice (some x) l c := by simpa using hcs
    exact ⟨n, some x, l, c, zs, rfl, .inr ⟨_, rfl, slice_at (field_at ho), hl, hm, by simpa using hz, hcell, hwz⟩⟩

theorem walk (s0 : Bool) (a0 : Option Addr) (l0 c0 : Nat) (z0 : List Int) (s1 : Bool) (a1 : Option Addr) (l1 c1 : Nat) (z1 : List Int) (s2 : Bool) (a2 : Option Addr) (l2 c2 : Nat) (z2 : List Int) (w : World) (w0 : IsRow .u32 w a0 l0 c0 z0) (w1 : IsRow .u32 w a1 l1 c1 z1) (w2 : IsRow .u32 w a2 l2 c2 z2) :
    Calls Tryz.prog 7 #[.agg #[.bool s0, .slice a0 l0 c0], .agg #[.bool s1, .slice a1 l1 c1], .agg #[.bool s2, .slice a2 l2 c2]] w fun e w' => e = .returned (.bool true) ∧ Below w.heap.size w w' := by
  obtain ⟨L0, rfl, p0, q0⟩ := w0.reads
  obtain ⟨L1, rfl, p1, q1⟩ := w1.reads
  obtain ⟨L2, rfl, p2, q2⟩ := w2.reads
  exact rmade_any p0 p1 p2 q0 q1 q2

set_option maxRecDepth 100000 in
theorem lifted (os : Os) (started : os.Started) (H : Type) (enc : TypeId × Value → H) :
    ReturnsInHanded {} Tryz.checked os 7 .any (fun w args => (Rows.ratsMadeSpec.pre enc Tryz.prog Tryz.f7 Rows.ratsMadeRow.domain false w args ∧ laidMetH Tryz.prog Rows.ratsMadeRow.laid w) ∧ sizedMet enc Tryz.prog Tryz.f7 (OpenSpec.ofChange Rows.ratsMadeSpec) false w args)
      (Rows.ratsMadeSpec.post enc Tryz.prog Tryz.f7 false true false false) := by
  refine returnsInHanded_of_change_and (C := Tryz.checked) (X := fun w _ => laidMetH Tryz.prog Rows.ratsMadeRow.laid w) (fun _ _ _ hh h => h.of_heap hh) own started (by kernel_rfl) Tryz.func7
    (ChangeSpec.witness_shaped (enc := enc) (C := Tryz.checked) (os := os) (X := fun w _ => laidMetH Tryz.prog Rows.ratsMadeRow.laid w) false (World.laidAll Tryz.prog os Rows.ratsMadeRow.laid) #[.agg #[.bool false, .slice none 0 0], .agg #[.bool false, .slice none 0 0], .agg #[.bool false, .slice none 0 0]] 8 (World.laidAll_os _ _ _)
      (World.shaped_of_ZipB (by kernel_rfl) (by kernel_rfl)) (by kernel_rfl) (by kernel_rfl) (by kernel_rfl)
      (by rw [MakeChecks.laidMetH_plain _ _ _ (by kernel_rfl)]; exact laidMet_laidAll _ (by kernel_rfl) (by kernel_rfl))) ?_
  intro W base args ds gs before hval0 hW hcnd hsz _ _
  have hval : ∀ (j : Nat) t v, Tryz.f7.params[j]? = some t → args[j]? = some v → Value.okWide Tryz.prog W .any base t v := hval0
  have hW' := hW
  obtain ⟨p, q, hA0, hV, rfl, hfz, hnd⟩ := hW
  have hA : DataW.TrodAll enc Tryz.prog W 0 (fun _ => true) true Tryz.f7.params.toList args.toList ds p := hA0
  rw [Tryz.params7] at hA hval
  obtain ⟨v0, vs0, d0, ds0, p0, q0, hargs, rfl, rfl, h0, r0⟩ := trodAll_cons hA
  obtain ⟨v1, vs1, d1, ds1, p1, q1, rfl, rfl, rfl, h1, r1⟩ := trodAll_cons r0
  obtain ⟨v2, vs2, d2, ds2, p2, q2, rfl, rfl, rfl, h2, r2⟩ := trodAll_cons r1
  obtain ⟨rfl, rfl, rfl⟩ := trodAll_nil r2
  obtain rfl : args = #[v0, v1, v2] := by cases args; simp_all
  obtain ⟨rfl, rfl⟩ := trodVars_none hV
  have k0 := h0
  have lt0 : ∀ x ∈ p0, x.block < W.heap.size := by obtain ⟨m, hm⟩ := k0; exact DataW.trod_lt m _ _ _ hm
  obtain ⟨s0, a0, l0, c0, z0, rfl, w0⟩ := open_int3 (hval 0 25 v0 rfl rfl) h0
  have k1 := h1
  have lt1 : ∀ x ∈ p1, x.block < W.heap.size := by obtain ⟨m, hm⟩ := k1; exact DataW.trod_lt m _ _ _ hm
  obtain ⟨s1, a1, l1, c1, z1, rfl, w1⟩ := open_int3 (hval 1 25 v1 rfl rfl) h1
  have k2 := h2
  have lt2 : ∀ x ∈ p2, x.block < W.heap.size := by obtain ⟨m, hm⟩ := k2; exact DataW.trod_lt m _ _ _ hm
  obtain ⟨s2, a2, l2, c2, z2, rfl, w2⟩ := open_int3 (hval 2 25 v2 rfl rfl) h2
  clear hA0 hval0
  refine (walk s0 a0 l0 c0 z0 s1 a1 l1 c1 z1 s2 a2 l2 c2 z2 W w0 w1 w2).mono fun e W' ⟨he, bel⟩ => ?_
  subst he
  exact ⟨_, rfl, _, _, _, [], _, [], hW', trodAll_mk1 (shut_bool Tryz.underlying4 _), (trodAll_cons_mk (Below.trod laidOut (by kernel_rfl) (of_decide_eq_true (by kernel_rfl)) k0 bel lt0) (trodAll_cons_mk (Below.trod laidOut (by kernel_rfl) (of_decide_eq_true (by kernel_rfl)) k1 bel lt1) (trodAll_cons_mk (Below.trod laidOut (by kernel_rfl) (of_decide_eq_true (by kernel_rfl)) k2 bel lt2) trodAll_mk0))), rfl, bel.frame _, fun h => by cases h⟩

theorem over : Rows.ratsMadeRow.holds Tryz.pinned (OpenSpec.ofChange Rows.ratsMadeSpec) :=
  OpenClaim.holds_of_wide 7 Tryz.f7 rfl rfl rfl rfl rfl rfl rfl ⟨rfl, rfl, rfl, rfl, rfl⟩ rfl rfl rfl rfl rfl (by kernel_rfl) Tryz.func7 ratsMade_closed
    (of_decide_eq_true (by kernel_rfl)) (by unfold Func.isWrapper; first | (rw [if_pos (by decide +kernel)]; kernel_rfl) | (rw [if_neg (by decide +kernel)]; exact ⟨rfl, rfl⟩))
    (fun os started H enc _ => lifted os started H enc)

theorem proved : Rows.RatsMadeCardSaid :=
  Claim7.holds_tied_plain_at .later [] [.data, .pinned] true (true, "1f77c682b3758e50510eb48fa20d45e9195280b82eda8b1a58d7143ce594cdbb") false
    over (fun _ h => by cases h) (by kernel_rfl) (fun _ h => by cases h) ratsMade_row_tie rfl ⟨rfl, rfl⟩ (by kernel_rfl) rfl
    (fun f fn hf hfn => by
      obtain rfl : f = 7 := Option.some.inj ((show Tryz.prog.funcNamed "assayer/assayerlaw03.RatsMade" = some 7 by kernel_rfl).symm.trans hf) |>.symm
      obtain rfl : fn = Tryz.f7 := (Option.some.inj (Tryz.func7.symm.trans hfn)).symm
      exact ⟨by kernel_rfl, fun j t ht => by
        rw [Tryz.params7] at ht
        have hm : t ∈ [25] := by
          have := Array.mem_of_getElem? ht
          simpa using this
        obtain rfl : t = 25 := by simpa using hm
        exact (show Tryz.prog.wantsStandIn 25 = false by kernel_rfl)⟩)
    (by kernel_rfl)
#print axioms proved
end Go.Proofs.YthloknddhfphnaaGreatDoor.ratsMade
