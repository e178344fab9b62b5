/-
  RatsSmall: for any two numbers of 16 bits, by any two from 1 on, RatsSmall answers true, returns, and changes nothing that was there; under the row's own conditions.
-/
import Derived.Test.YthloknddhfphnaaGreatDoorTie
import Derived.Test.YthloknddhfphnaaGreatDoorCards
import Derived.WalkKit
import Derived.ProofKit
import Derived.OpenShut
import Derived.ShutString
import Derived.ChangeOld
import Derived.Below
import Derived.Lib.SmallJoins
import Derived.LaidMore
import Derived.Lay
import Derived.SizedLaws
import Derived.SevenTiedAt
import Derived.Stop.Joined
import Derived.Test.YthloknddhfphnaaGreatDoorGRatsSmallB
import Derived.Test.YthloknddhfphnaaGreatDoorGRatsSmallClosed
namespace Go.Proofs.YthloknddhfphnaaGreatDoor.ratsSmall
open Go.ChangeShapes Go.WideShapes Go.ChangeAt Go.RowKit
set_option linter.unusedVariables false
set_option maxRecDepth 100000

theorem own : ownKnob Tryz.prog.godebug = none := by kernel_rfl
theorem laidOut : laidOutB Tryz.prog = true := by kernel_rfl

def IsRow (k : IntKind) (w : World) (a : Option Addr) (len cap : Nat) (zs : List Int) : Prop :=
  (a = none ∧ len = 0 ∧ cap = 0 ∧ zs = []) ∨
  ∃ x, a = some x ∧ (x.spot = none ∧ x.block < w.heap.size) ∧ len ≤ cap ∧ cap ≤ maxLen ∧ zs.length = cap ∧ (∀ i, i < zs.length → w.cell? (x.add i) = some (.int k (zs.getD i 0))) ∧ ∀ n ∈ zs, (Lit.int k n).wf = true

theorem slice_at {W : World} {base : Nat} {x : Addr} {len cap : Nat} (h : Value.okWide Tryz.prog W .any base 23 (.slice (some x) len cap)) : x.spot = none ∧ x.block < W.heap.size := by
  simp only [Value.okWide, Tryz.underlying23, Cell.okWide, Cell.ok] at h
  obtain ⟨_, _, _, hs, row, cells, hsh, _⟩ := h
  refine ⟨hs, ?_⟩
  unfold World.shape? at hsh
  split at hsh
  · rename_i he
    exact (Array.getElem?_eq_some_iff.1 he).1
  · cases hsh
theorem IsRow.reads {w : World} {a : Option Addr} {len cap : Nat} {zs : List Int} (h : IsRow .u32 w a len cap zs) : ∃ l : List Nat, l.length = len ∧ Nu.Sm l ∧ Reads w (.slice a l.length cap) l := by
  rcases h with ⟨rfl, rfl, rfl, rfl⟩ | ⟨⟨b, off, spot⟩, rfl, ⟨hs, hb⟩, hl, hm, hz, hc, hw⟩
  · exact ⟨[], rfl, Nu.Sm.nil, .inl ⟨rfl, rfl⟩⟩
  · obtain rfl : spot = none := hs
    have hlen : ((zs.take len).map Int.toNat).length = len := by rw [List.length_map, List.length_take]; omega
    have hb' : ∀ z ∈ zs, 0 ≤ z ∧ z < 4294967296 := fun z hz' => by
      have := Go.bounds_u32 (hw z hz'); omega
    refine ⟨(zs.take len).map Int.toNat, hlen, ?_, .inr ⟨b, off, cap, rfl, hb, by rw [hlen]; exact hl, fun j hj => ?_⟩⟩
    · intro y hy
      obtain ⟨z, hz1, rfl⟩ := List.mem_map.1 hy
      have := hb' z (List.mem_of_mem_take hz1)
      omega
    · rw [hlen] at hj
      have e := hc j (by omega)
      rw [← Go.WideShapes.add_plain, e]
      have hz2 := hb' zs[j] (List.getElem_mem (by omega))
      simp only [List.getD_eq_getElem?_getD, List.getElem?_map, List.getElem?_take, if_pos hj, List.getElem?_eq_getElem (show j < zs.length by omega), Option.map_some, Option.getD_some]
      congr 2
      omega

theorem field_at {W : World} {base : Nat} {c0 c1 : Value} (h : Value.okWide Tryz.prog W .any base 25 (.agg #[c0, c1])) : Value.okWide Tryz.prog W .any base 23 c1 := by
  simp only [Value.okWide, Tryz.underlying25] at h
  obtain ⟨cs, e, _, ts, hts, _, hc⟩ := h
  have ets : Tryz.prog.cellTypes Tryz.prog.depth 25 = some [4, 23] := by kernel_rfl
  rw [ets] at hts
  cases hts
  cases e
  obtain ⟨u, hu, hcu⟩ := hc 1 c1 rfl
  cases hu
  simp only [Value.okWide, Tryz.underlying23]
  exact hcu

theorem nat_cell {W : World} {base : Nat} {c0 c1 c2 : Value} (h : Value.okWide Tryz.prog W .any base 27 (.agg #[c0, c1, c2])) : Value.okWide Tryz.prog W .any base 23 c1 ∧ Value.okWide Tryz.prog W .any base 23 c2 := by
  simp only [Value.okWide, Tryz.underlying27] at h
  obtain ⟨cs, e, _, ts, hts, _, hc⟩ := h
  have ets : Tryz.prog.cellTypes Tryz.prog.depth 27 = some [4, 23, 23] := by kernel_rfl
  rw [ets] at hts
  cases hts
  cases e
  refine ⟨?_, ?_⟩
  · obtain ⟨u, hu, hcu⟩ := hc 1 c1 rfl
    cases hu
    simp only [Value.okWide, Tryz.underlying23]
    exact hcu
  · obtain ⟨u, hu, hcu⟩ := hc 2 c2 rfl
    cases hu
    simp only [Value.okWide, Tryz.underlying23]
    exact hcu
theorem open_nat {H : Type} {enc : TypeId × Value → H} {W : World} {base n : Nat} {c : Value} {y : DataW H × List MemPlace} (ho : Value.okWide Tryz.prog W .any base 23 c) (h : DataW.trod enc Tryz.prog W 0 (fun _ => true) true n 23 [c] = some y) (hw : ∀ k ∈ y.1.weights Tryz.prog 23, k ≤ reachBytes) :
    ∃ a l cap zs, c = .slice a l cap ∧ IsRow .u32 W a l cap zs ∧ l ≤ 70368744177664 := by
  rcases open_ints Tryz.underlying23 Tryz.underlying57 (by kernel_rfl) h with ⟨hcs, _⟩ | ⟨x, l, cap, zs, hcs, _, hl, hm, hz, hx, hcell, hwz⟩
  · obtain rfl : c = .slice none 0 0 := by simpa using hcs
    exact ⟨none, 0, 0, [], rfl, .inl ⟨rfl, rfl, rfl, rfl⟩, by omega⟩
  · obtain rfl : c = .slice (some x) l cap := by simpa using hcs
    refine ⟨some x, l, cap, zs, rfl, .inr ⟨_, rfl, slice_at ho, hl, hm, by simpa using hz, hcell, hwz⟩, ?_⟩
    have hz' : zs.length = cap := by simpa using hz
    have hb : Tryz.prog.bytesOf 57 = 4 := by kernel_rfl
    have := hw (((lits .u32 (zs.take l) : List (DataW H)).length + (lits .u32 (zs.drop l) : List (DataW H)).length) * Tryz.prog.bytesOf 57) (by rw [hx]; simp [DataW.weights, Tryz.underlying23])
    rw [hb] at this
    simp [lits] at this
    have := reachBytes_lt
    omega
theorem open_rat {H : Type} {enc : TypeId × Value → H} {W : World} {base : Nat} {v : Value} {d : DataW H} {p : List MemPlace} (ho : Value.okWide Tryz.prog W .any base 27 v) (h : DataW.Trod enc Tryz.prog W 0 (fun _ => true) true 27 v d p) (hw : ∀ k ∈ d.weights Tryz.prog 27, k ≤ reachBytes) :
    ∃ s a1 l1 c1 z1 a2 l2 c2 z2, v = .agg #[.bool s, .slice a1 l1 c1, .slice a2 l2 c2] ∧ IsRow .u32 W a1 l1 c1 z1 ∧ IsRow .u32 W a2 l2 c2 z2 ∧ l1 ≤ 70368744177664 ∧ l2 ≤ 70368744177664 := by
  obtain ⟨cs, rfl, hsz⟩ := okWide_struct Tryz.underlying27 ho
  obtain ⟨l⟩ := cs
  match l, hsz.trans (show Tryz.prog.cellsOf 27 = 3 by kernel_rfl) with
  | [c0, c1, c2], _ =>
    obtain ⟨k1, k2⟩ := nat_cell ho
    obtain ⟨fuel, hf⟩ := h
    obtain ⟨xs, n, _, hx, _, hlen, hg⟩ := DataW.trod_struct Tryz.underlying27 hf
    match xs, hlen with
    | [y0, y1], _ =>
      have g0 := hg 0 _ rfl
      have g1 := hg 1 _ rfl
      have e0 : DataW.trod enc Tryz.prog W 0 (fun _ => true) true n 25 [c0, c1] = some y0 := g0
      have e1 : DataW.trod enc Tryz.prog W 0 (fun _ => true) true n 23 [c2] = some y1 := g1
      obtain ⟨us, n', _, hx', _, hlen', hg'⟩ := DataW.trod_struct Tryz.underlying25 e0
      match us, hlen' with
      | [u0, u1], _ =>
        have f0 : DataW.trod enc Tryz.prog W 0 (fun _ => true) true n' 4 [c0] = some u0 := hg' 0 _ rfl
        have f1 : DataW.trod enc Tryz.prog W 0 (fun _ => true) true n' 23 [c1] = some u1 := hg' 1 _ rfl
        simp only [Prod.mk.injEq, List.map_cons, List.map_nil] at hx hx'
        obtain ⟨s, hs, _⟩ := DataW.trod_bool Tryz.underlying4 f0
        obtain rfl : c0 = .bool s := by simpa using hs
        have w1 : ∀ k ∈ u1.1.weights Tryz.prog 23, k ≤ reachBytes := fun k hk => hw k (by
          rw [hx.1]; simp only [DataW.weights, Tryz.underlying27, List.map_cons, List.map_nil, DataW.weightsEach, List.mem_append]
          left
          rw [hx']; simp only [DataW.weights, Tryz.underlying25, List.map_cons, List.map_nil, DataW.weightsEach, List.mem_append]
          right; left; exact hk)
        have w2 : ∀ k ∈ y1.1.weights Tryz.prog 23, k ≤ reachBytes := fun k hk => hw k (by
          rw [hx.1]; simp only [DataW.weights, Tryz.underlying27, List.map_cons, List.map_nil, DataW.weightsEach, List.mem_append]
          right; left; exact hk)
        obtain ⟨a1, l1, cp1, z1, rfl, r1, b1⟩ := open_nat k1 f1 w1
        obtain ⟨a2, l2, cp2, z2, rfl, r2, b2⟩ := open_nat k2 e1 w2
        exact ⟨s, a1, l1, cp1, z1, a2, l2, cp2, z2, rfl, r1, r2, b1, b2⟩

theorem open_pair2 {H : Type} {enc : TypeId × Value → H} {W : World} {base : Nat} {v : Value} {d : DataW H} {p : List MemPlace} (ho : Value.okWide Tryz.prog W .any base 49 v) (h : DataW.Trod enc Tryz.prog W 0 (fun _ => true) true 49 v d p) :
    ∃ x y : Int, v = .agg #[.int .u16 x, .int .u16 y] ∧ (0 ≤ x ∧ x ≤ 65535) ∧ 0 ≤ y ∧ y ≤ 65535 := by
  simp only [Value.okWide, Tryz.underlying49] at ho
  obtain ⟨cs, rfl, hsz, _⟩ := ho
  obtain ⟨l⟩ := cs
  match l, hsz.trans (show Tryz.prog.cellsOf 49 = 2 by kernel_rfl) with
  | [c0, c1], _ =>
    obtain ⟨fuel, hf⟩ := h
    obtain ⟨xs, n, _, _, _, hlen, hg⟩ := DataW.trod_array Tryz.underlying49 hf
    match xs, hlen with
    | [y0, y1], _ =>
      have e0 : DataW.trod enc Tryz.prog W 0 (fun _ => true) true n 48 [c0] = some y0 := hg 0 (by decide)
      have e1 : DataW.trod enc Tryz.prog W 0 (fun _ => true) true n 48 [c1] = some y1 := hg 1 (by decide)
      obtain ⟨x, hx, _, wx⟩ := DataW.trod_int Tryz.underlying48 e0
      obtain ⟨y, hy, _, wy⟩ := DataW.trod_int Tryz.underlying48 e1
      obtain rfl : c0 = .int .u16 x := by simpa using hx
      obtain rfl : c1 = .int .u16 y := by simpa using hy
      simp [Lit.wf, IntKind.min, IntKind.max, IntKind.signed, IntKind.bits] at wx wy
      exact ⟨x, y, rfl, ⟨by omega, by omega⟩, by omega, by omega⟩

theorem open_i16 {H : Type} {enc : TypeId × Value → H} {W : World} {base : Nat} {v : Value} {d : DataW H} {p : List MemPlace} (ho : Value.okWide Tryz.prog W .any base 47 v) (h : DataW.Trod enc Tryz.prog W 0 (fun _ => true) true 47 v d p) :
    ∃ x : Int, v = .int .i16 x ∧ -32768 ≤ x ∧ x ≤ 32767 := by
  obtain ⟨n, rfl⟩ := okWide_int Tryz.underlying47 ho
  obtain ⟨fuel, hf⟩ := h
  have hf' : DataW.trod enc Tryz.prog W 0 (fun _ => true) true fuel 47 [.int .i16 n] = some (d, p) := hf
  obtain ⟨x, hx, _, wx⟩ := DataW.trod_int Tryz.underlying47 hf'
  obtain rfl : n = x := by simpa using hx
  simp [Lit.wf, IntKind.min, IntKind.max, IntKind.signed, IntKind.bits] at wx
  exact ⟨n, rfl, by omega, by omega⟩

theorem walk (j0 : Int) (j1 : Int) (k2 j2 : Int) (w : World) (w0 : -32768 ≤ j0 ∧ j0 ≤ 32767) (w1 : -32768 ≤ j1 ∧ j1 ≤ 32767) (w2 : (0 ≤ k2 ∧ k2 ≤ 65535) ∧ 0 ≤ j2 ∧ j2 ≤ 65535) :
    Calls Tryz.prog 8 #[.int .i16 j0, .int .i16 j1, .agg #[.int .u16 k2, .int .u16 j2]] w fun e w' => e = .returned (.bool true) ∧ Below w.heap.size w w' := by
  exact rsmall_any w0.1 w0.2 w1.1 w1.2 w2.1.1 w2.1.2 w2.2.1 w2.2.2

set_option maxRecDepth 100000 in
theorem lifted (os : Os) (started : os.Started) (H : Type) (enc : TypeId × Value → H) :
    ReturnsInHanded {} Tryz.checked os 8 .any (fun w args => (Rows.ratsSmallSpec.pre enc Tryz.prog Tryz.f8 Rows.ratsSmallRow.domain false w args ∧ laidMetH Tryz.prog Rows.ratsSmallRow.laid w) ∧ sizedMet enc Tryz.prog Tryz.f8 (OpenSpec.ofChange Rows.ratsSmallSpec) false w args)
      (Rows.ratsSmallSpec.post enc Tryz.prog Tryz.f8 false true false false) := by
  refine returnsInHanded_of_change_and (C := Tryz.checked) (X := fun w _ => laidMetH Tryz.prog Rows.ratsSmallRow.laid w) (fun _ _ _ hh h => h.of_heap hh) own started (by kernel_rfl) Tryz.func8
    (ChangeSpec.witness_shaped (enc := enc) (C := Tryz.checked) (os := os) (X := fun w _ => laidMetH Tryz.prog Rows.ratsSmallRow.laid w) false (World.laidAll Tryz.prog os Rows.ratsSmallRow.laid) #[.int .i16 0, .int .i16 0, .agg #[.int .u16 0, .int .u16 0]] 8 (World.laidAll_os _ _ _)
      (World.shaped_of_ZipB (by kernel_rfl) (by kernel_rfl)) (by kernel_rfl) (by kernel_rfl) (by kernel_rfl)
      (by rw [MakeChecks.laidMetH_plain _ _ _ (by kernel_rfl)]; exact laidMet_laidAll _ (by kernel_rfl) (by kernel_rfl))) ?_
  intro W base args ds gs before hval0 hW hcnd hsz _ _
  have hval : ∀ (j : Nat) t v, Tryz.f8.params[j]? = some t → args[j]? = some v → Value.okWide Tryz.prog W .any base t v := hval0
  have hW' := hW
  obtain ⟨p, q, hA0, hV, rfl, hfz, hnd⟩ := hW
  have hA : DataW.TrodAll enc Tryz.prog W 0 (fun _ => true) true Tryz.f8.params.toList args.toList ds p := hA0
  rw [Tryz.params8] at hA hval
  obtain ⟨v0, vs0, d0, ds0, p0, q0, hargs, rfl, rfl, h0, r0⟩ := trodAll_cons hA
  obtain ⟨v1, vs1, d1, ds1, p1, q1, rfl, rfl, rfl, h1, r1⟩ := trodAll_cons r0
  obtain ⟨v2, vs2, d2, ds2, p2, q2, rfl, rfl, rfl, h2, r2⟩ := trodAll_cons r1
  obtain ⟨rfl, rfl, rfl⟩ := trodAll_nil r2
  obtain rfl : args = #[v0, v1, v2] := by cases args; simp_all
  obtain ⟨rfl, rfl⟩ := trodVars_none hV
  have k0 := h0
  have lt0 : ∀ x ∈ p0, x.block < W.heap.size := by obtain ⟨m, hm⟩ := k0; exact DataW.trod_lt m _ _ _ hm
  obtain ⟨j0, rfl, w0⟩ := open_i16 (hval 0 47 v0 rfl rfl) h0
  have k1 := h1
  have lt1 : ∀ x ∈ p1, x.block < W.heap.size := by obtain ⟨m, hm⟩ := k1; exact DataW.trod_lt m _ _ _ hm
  obtain ⟨j1, rfl, w1⟩ := open_i16 (hval 1 47 v1 rfl rfl) h1
  have k2 := h2
  have lt2 : ∀ x ∈ p2, x.block < W.heap.size := by obtain ⟨m, hm⟩ := k2; exact DataW.trod_lt m _ _ _ hm
  obtain ⟨k2', j2, rfl, w2⟩ := open_pair2 (hval 2 49 v2 rfl rfl) h2
  clear hA0 hval0
  refine (walk j0 j1 k2' j2 W w0 w1 w2).mono fun e W' ⟨he, bel⟩ => ?_
  subst he
  exact ⟨_, rfl, _, _, _, [], _, [], hW', trodAll_mk1 (shut_bool Tryz.underlying4 _), (trodAll_cons_mk (Below.trod laidOut (by kernel_rfl) (of_decide_eq_true (by kernel_rfl)) k0 bel lt0) (trodAll_cons_mk (Below.trod laidOut (by kernel_rfl) (of_decide_eq_true (by kernel_rfl)) k1 bel lt1) (trodAll_cons_mk (Below.trod laidOut (by kernel_rfl) (of_decide_eq_true (by kernel_rfl)) k2 bel lt2) trodAll_mk0))), rfl, bel.frame _, fun h => by cases h⟩

theorem over : Rows.ratsSmallRow.holds Tryz.pinned (OpenSpec.ofChange Rows.ratsSmallSpec) :=
  OpenClaim.holds_of_wide 8 Tryz.f8 rfl rfl rfl rfl rfl rfl rfl ⟨rfl, rfl, rfl, rfl, rfl⟩ rfl rfl rfl rfl rfl (by kernel_rfl) Tryz.func8 ratsSmall_closed
    (of_decide_eq_true (by kernel_rfl)) (by unfold Func.isWrapper; first | (rw [if_pos (by decide +kernel)]; kernel_rfl) | (rw [if_neg (by decide +kernel)]; exact ⟨rfl, rfl⟩))
    (fun os started H enc _ => lifted os started H enc)

theorem proved : Rows.RatsSmallCardSaid :=
  Claim7.holds_tied_plain_at .later [] [.data, .pinned] true (true, "1f77c682b3758e50510eb48fa20d45e9195280b82eda8b1a58d7143ce594cdbb") false
    over (fun _ h => by cases h) (by kernel_rfl) (fun _ h => by cases h) ratsSmall_row_tie rfl ⟨rfl, rfl⟩ (by kernel_rfl) rfl
    (fun f fn hf hfn => by
      obtain rfl : f = 8 := Option.some.inj ((show Tryz.prog.funcNamed "assayer/assayerlaw03.RatsSmall" = some 8 by kernel_rfl).symm.trans hf) |>.symm
      obtain rfl : fn = Tryz.f8 := (Option.some.inj (Tryz.func8.symm.trans hfn)).symm
      exact ⟨by kernel_rfl, fun j t ht => by
        rw [Tryz.params8] at ht
        have hm : t ∈ [47, 49] := by
          have := Array.mem_of_getElem? ht
          simpa using this
        have hm2 : t = 47 ∨ t = 49 := by simpa using hm
        rcases hm2 with rfl | rfl
        · exact (show Tryz.prog.wantsStandIn 47 = false by kernel_rfl)
        · exact (show Tryz.prog.wantsStandIn 49 = false by kernel_rfl)⟩)
    (by kernel_rfl)
#print axioms proved
end Go.Proofs.YthloknddhfphnaaGreatDoor.ratsSmall
