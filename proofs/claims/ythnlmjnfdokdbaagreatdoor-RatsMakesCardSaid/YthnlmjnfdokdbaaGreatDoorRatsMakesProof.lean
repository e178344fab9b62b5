/-
  The fraction of any two whole numbers, 60 parts at most, or of one of 64 bits, is exactly the documented one, or they are refused; the numbers stay as they were, and answers are memory of their own.
-/
import Derived.Test.YthnlmjnfdokdbaaGreatDoorTie
import Derived.Test.YthnlmjnfdokdbaaGreatDoorCards
import Derived.Test.YthnlmjnfdokdbaaGreatDoorRatsMakesClosed
import Derived.WalkKit
import Derived.ProofKit
import Derived.OpenShut
import Derived.ShutString
import Derived.ChangeOld
import Derived.Below
import Derived.Lib.SmallJoins
import Derived.LaidMore
import Derived.Lay
import Derived.SizedLaws
import Derived.SevenTiedAt
import Derived.Stop.Joined
import Derived.Test.YthnlmjnfdokdbaaGreatDoorGRMakesB
namespace Go.Proofs.YthnlmjnfdokdbaaGreatDoor.ratsMakes
open Go.ChangeShapes Go.WideShapes Go.ChangeAt Go.RowKit
open Go.ChangeMaps (open_string shut_string)
set_option linter.unusedVariables false
set_option maxRecDepth 100000

theorem own : ownKnob Tryz.prog.godebug = none := by kernel_rfl
theorem laidOut : laidOutB Tryz.prog = true := by kernel_rfl
def IsRow (k : IntKind) (w : World) (a : Option Addr) (len cap : Nat) (zs : List Int) : Prop :=
  (a = none ∧ len = 0 ∧ cap = 0 ∧ zs = []) ∨
  ∃ x, a = some x ∧ (x.spot = none ∧ x.block < w.heap.size) ∧ len ≤ cap ∧ cap ≤ maxLen ∧ zs.length = cap ∧ (∀ i, i < zs.length → w.cell? (x.add i) = some (.int k (zs.getD i 0))) ∧ ∀ n ∈ zs, (Lit.int k n).wf = true

theorem slice_at {W : World} {base : Nat} {x : Addr} {len cap : Nat} (h : Value.okWide Tryz.prog W .any base 23 (.slice (some x) len cap)) : x.spot = none ∧ x.block < W.heap.size := by
  simp only [Value.okWide, Tryz.underlying23, Cell.okWide, Cell.ok] at h
  obtain ⟨_, _, _, hs, row, cells, hsh, _⟩ := h
  refine ⟨hs, ?_⟩
  unfold World.shape? at hsh
  split at hsh
  · rename_i he
    exact (Array.getElem?_eq_some_iff.1 he).1
  · cases hsh
theorem IsRow.reads {w : World} {a : Option Addr} {len cap : Nat} {zs : List Int} (h : IsRow .u32 w a len cap zs) : ∃ l : List Nat, l.length = len ∧ Nu.Sm l ∧ Reads w (.slice a l.length cap) l := by
  rcases h with ⟨rfl, rfl, rfl, rfl⟩ | ⟨⟨b, off, spot⟩, rfl, ⟨hs, hb⟩, hl, hm, hz, hc, hw⟩
  · exact ⟨[], rfl, Nu.Sm.nil, .inl ⟨rfl, rfl⟩⟩
  · obtain rfl : spot = none := hs
    have hlen : ((zs.take len).map Int.toNat).length = len := by rw [List.length_map, List.length_take]; omega
    have hb' : ∀ z ∈ zs, 0 ≤ z ∧ z < 4294967296 := fun z hz' => by
      have := Go.bounds_u32 (hw z hz'); omega
    refine ⟨(zs.take len).map Int.toNat, hlen, ?_, .inr (.inl ⟨b, off, cap, rfl, hb, by rw [hlen]; exact hl, fun j hj => ?_⟩)⟩
    · intro y hy
      obtain ⟨z, hz1, rfl⟩ := List.mem_map.1 hy
      have := hb' z (List.mem_of_mem_take hz1)
      omega
    · rw [hlen] at hj
      have e := hc j (by omega)
      rw [← Go.WideShapes.add_plain, e]
      have hz2 := hb' zs[j] (List.getElem_mem (by omega))
      simp only [List.getD_eq_getElem?_getD, List.getElem?_map, List.getElem?_take, if_pos hj, List.getElem?_eq_getElem (show j < zs.length by omega), Option.map_some, Option.getD_some]
      congr 2
      omega

theorem field_at {W : World} {base : Nat} {c0 c1 : Value} (h : Value.okWide Tryz.prog W .any base 25 (.agg #[c0, c1])) : Value.okWide Tryz.prog W .any base 23 c1 := by
  simp only [Value.okWide, Tryz.underlying25] at h
  obtain ⟨cs, e, _, ts, hts, _, hc⟩ := h
  have ets : Tryz.prog.cellTypes Tryz.prog.depth 25 = some [4, 23] := by kernel_rfl
  rw [ets] at hts
  cases hts
  cases e
  obtain ⟨u, hu, hcu⟩ := hc 1 c1 rfl
  cases hu
  simp only [Value.okWide, Tryz.underlying23]
  exact hcu

theorem walk (n0 : Bool) (a0 : Option Addr) (len0 cap0 : Nat) (z0 : List Int) (n1 : Bool) (a1 : Option Addr) (len1 cap1 : Nat) (z1 : List Int) (a2 : Int) (w : World) (w0 : IsRow .u32 w a0 len0 cap0 z0) (w1 : IsRow .u32 w a1 len1 cap1 z1) (w2 : (Lit.int .i64 a2).wf = true) :
    Calls Tryz.prog 4 #[.agg #[.bool n0, .slice a0 len0 cap0], .agg #[.bool n1, .slice a1 len1 cap1], .int .i64 a2] w fun e w' => e = .returned (.bool true) ∧ Below w.heap.size w w' := by
  obtain ⟨L0, rfl, p0, q0⟩ := w0.reads
  obtain ⟨L1, rfl, p1, q1⟩ := w1.reads
  exact rmakes_all p0 p1 q0 q1 w2


theorem lifted (os : Os) (started : os.Started) (H : Type) (enc : TypeId × Value → H) :
    ReturnsInHanded {} Tryz.checked os 4 .any (fun w args => (Rows.ratsMakesSpec.pre enc Tryz.prog Tryz.f4 Rows.ratsMakesRow.domain false w args ∧ laidMetH Tryz.prog Rows.ratsMakesRow.laid w) ∧ sizedMet enc Tryz.prog Tryz.f4 (OpenSpec.ofChange Rows.ratsMakesSpec) false w args)
      (Rows.ratsMakesSpec.post enc Tryz.prog Tryz.f4 false true false false) := by
  refine returnsInHanded_of_change_and (C := Tryz.checked) (X := fun w _ => laidMetH Tryz.prog Rows.ratsMakesRow.laid w) (fun _ _ _ hh h => h.of_heap hh) own started (by kernel_rfl) Tryz.func4
    (ChangeSpec.witness_shaped (enc := enc) (C := Tryz.checked) (os := os) (X := fun w _ => laidMetH Tryz.prog Rows.ratsMakesRow.laid w) false (World.laidAll Tryz.prog os Rows.ratsMakesRow.laid) #[.agg #[.bool false, .slice none 0 0], .agg #[.bool false, .slice none 0 0], .int .i64 0] 8 (World.laidAll_os _ _ _)
      (World.shaped_of_ZipB (by kernel_rfl) (by kernel_rfl)) (by kernel_rfl) (by kernel_rfl) (by kernel_rfl)
      (by rw [MakeChecks.laidMetH_plain _ _ _ (by kernel_rfl)]; exact laidMet_laidAll _ (by kernel_rfl) (by kernel_rfl))) ?_
  intro W base args ds gs before hval0 hW hcnd hsz hX _
  have hval : ∀ (j : Nat) t v, Tryz.f4.params[j]? = some t → args[j]? = some v → Value.okWide Tryz.prog W .any base t v := hval0
  have hW' := hW
  obtain ⟨p, q, hA0, hV, rfl, hfz, hnd⟩ := hW
  have hA : DataW.TrodAll enc Tryz.prog W 0 (fun _ => true) true Tryz.f4.params.toList args.toList ds p := hA0
  rw [Tryz.params4] at hA hval
  obtain ⟨v0, vs0, d0, ds0, p0, q0, hargs, rfl, rfl, h0, r0⟩ := trodAll_cons hA
  obtain ⟨v1, vs1, d1, ds1, p1, q1, rfl, rfl, rfl, h1, r1⟩ := trodAll_cons r0
  obtain ⟨v2, vs2, d2, ds2, p2, q2, rfl, rfl, rfl, h2, r2⟩ := trodAll_cons r1
  obtain ⟨rfl, rfl, rfl⟩ := trodAll_nil r2
  obtain rfl : args = #[v0, v1, v2] := by cases args; simp_all
  obtain ⟨rfl, rfl⟩ := trodVars_none hV
  have k0 := h0
  have lt0 : ∀ x ∈ p0, x.block < W.heap.size := by obtain ⟨m, hm⟩ := k0; exact DataW.trod_lt m _ _ _ hm
  have o0 := hval 0 25 v0 rfl rfl
  obtain ⟨n0, a0, len0, cap0, z0, e0, w0⟩ : ∃ n a len cap zs, v0 = .agg #[.bool n, .slice a len cap] ∧ IsRow .u32 W a len cap zs := by
    obtain ⟨c0, c1, y0, y1, fuel, rfl, _, _, hb, hf⟩ := Go.Joins.open_agg2 Tryz.underlying25 (by kernel_rfl) (by kernel_rfl) o0 h0
    obtain ⟨n, hn, _⟩ := DataW.trod_bool Tryz.underlying4 hb
    obtain rfl : c0 = .bool n := by simpa using hn
    rcases open_ints Tryz.underlying23 Tryz.underlying64 (by kernel_rfl) hf with ⟨hcs, _⟩ | ⟨x, l, c, zs, hcs, _, hl, hm, hz, _, hcell, hwz⟩
    · obtain rfl : c1 = .slice none 0 0 := by simpa using hcs
      exact ⟨n, none, 0, 0, [], rfl, .inl ⟨rfl, rfl, rfl, rfl⟩⟩
    · obtain rfl : c1 = .slice (some x) l c := by simpa using hcs
      exact ⟨n, some x, l, c, zs, rfl, .inr ⟨_, rfl, slice_at (field_at o0), hl, hm, by simpa using hz, hcell, hwz⟩⟩
  subst e0
  have k1 := h1
  have lt1 : ∀ x ∈ p1, x.block < W.heap.size := by obtain ⟨m, hm⟩ := k1; exact DataW.trod_lt m _ _ _ hm
  have o1 := hval 1 25 v1 rfl rfl
  obtain ⟨n1, a1, len1, cap1, z1, e1, w1⟩ : ∃ n a len cap zs, v1 = .agg #[.bool n, .slice a len cap] ∧ IsRow .u32 W a len cap zs := by
    obtain ⟨c0, c1, y0, y1, fuel, rfl, _, _, hb, hf⟩ := Go.Joins.open_agg2 Tryz.underlying25 (by kernel_rfl) (by kernel_rfl) o1 h1
    obtain ⟨n, hn, _⟩ := DataW.trod_bool Tryz.underlying4 hb
    obtain rfl : c0 = .bool n := by simpa using hn
    rcases open_ints Tryz.underlying23 Tryz.underlying64 (by kernel_rfl) hf with ⟨hcs, _⟩ | ⟨x, l, c, zs, hcs, _, hl, hm, hz, _, hcell, hwz⟩
    · obtain rfl : c1 = .slice none 0 0 := by simpa using hcs
      exact ⟨n, none, 0, 0, [], rfl, .inl ⟨rfl, rfl, rfl, rfl⟩⟩
    · obtain rfl : c1 = .slice (some x) l c := by simpa using hcs
      exact ⟨n, some x, l, c, zs, rfl, .inr ⟨_, rfl, slice_at (field_at o1), hl, hm, by simpa using hz, hcell, hwz⟩⟩
  subst e1
  obtain ⟨a2, rfl, rfl, rfl, w2⟩ := open_int Tryz.underlying2 (hval 2 2 v2 rfl rfl) h2
  clear hA0 hval0
  refine (walk n0 a0 len0 cap0 z0 n1 a1 len1 cap1 z1 a2 W w0 w1 w2).mono fun e W' ⟨he, bel⟩ => ?_
  subst he
  exact ⟨_, rfl, _, _, _, [], _, [], hW', trodAll_mk1 (shut_bool Tryz.underlying4 _), (trodAll_cons_mk (Below.trod laidOut (by kernel_rfl) (of_decide_eq_true (by kernel_rfl)) k0 bel lt0) (trodAll_cons_mk (Below.trod laidOut (by kernel_rfl) (of_decide_eq_true (by kernel_rfl)) k1 bel lt1) (trodAll_cons_mk (shut_int Tryz.underlying2 w2) trodAll_mk0))), rfl, bel.frame _, fun h => by cases h⟩

theorem over : Rows.ratsMakesRow.holds Tryz.pinned (OpenSpec.ofChange Rows.ratsMakesSpec) :=
  OpenClaim.holds_of_wide 4 Tryz.f4 rfl rfl rfl rfl rfl rfl rfl ⟨rfl, rfl, rfl, rfl, rfl⟩ rfl rfl rfl rfl rfl (by kernel_rfl) Tryz.func4 ratsMakes_closed
    (of_decide_eq_true (by kernel_rfl)) (by unfold Func.isWrapper; first | (rw [if_pos (by decide +kernel)]; kernel_rfl) | (rw [if_neg (by decide +kernel)]; exact ⟨rfl, rfl⟩))
    (fun os started H enc _ => lifted os started H enc)

theorem proved : Rows.RatsMakesCardSaid :=
  Claim7.holds_tied_plain_at .later [] [.data, .data, .data] true (true, "0db678060923a09a8ddaabff440c74b566015735713b191fcb9a7f6450279504") false
    over (fun _ h => by cases h) (by kernel_rfl) (fun _ h => by cases h) ratsMakes_row_tie rfl ⟨rfl, rfl⟩ (by kernel_rfl) rfl
    (fun f fn hf hfn => by
      obtain rfl : f = 4 := Option.some.inj ((show Tryz.prog.funcNamed "assayer/assayerlaw03.RatsMakes" = some 4 by kernel_rfl).symm.trans hf) |>.symm
      obtain rfl : fn = Tryz.f4 := (Option.some.inj (Tryz.func4.symm.trans hfn)).symm
      exact ⟨by kernel_rfl, fun j t ht => by
        rw [Tryz.params4] at ht
        have hm : t ∈ [25, 2] := by
          have := Array.mem_of_getElem? ht
          simpa using this
        have hm2 : t = 25 ∨ t = 2 := by simpa using hm
        rcases hm2 with rfl | rfl
        · exact (show Tryz.prog.wantsStandIn 25 = false by kernel_rfl)
        · exact (show Tryz.prog.wantsStandIn 2 = false by kernel_rfl)⟩)
    (by kernel_rfl)
#print axioms proved
end Go.Proofs.YthnlmjnfdokdbaaGreatDoor.ratsMakes
