/-
  Any list of fractions so many times, and added to another one so many times, are what the document says, or refused: for every two lists and every fraction (of more than 30, or 300 parts together, nothing is asked); they stay as they were, and the answers are memory of their own.
-/
import Derived.Test.YtdjfooflhpkcbaaGreatDoorTie
import Derived.Test.YtdjfooflhpkcbaaGreatDoorCards
import Derived.Test.YtdjfooflhpkcbaaGreatDoorVecsAddsClosed
import Derived.WalkKit
import Derived.ProofKit
import Derived.OpenShut
import Derived.ShutString
import Derived.ChangeOld
import Derived.Below
import Derived.Lib.SmallJoins
import Derived.LaidMore
import Derived.Lay
import Derived.SizedLaws
import Derived.SevenTiedAt
import Derived.Stop.Joined
import Derived.Test.YtdjfooflhpkcbaaGreatDoorGVoP
import Derived.Test.YtdjfooflhpkcbaaGreatDoorGVecFr
namespace Go.Proofs.YtdjfooflhpkcbaaGreatDoor.vecsAdds
open Go.ChangeShapes Go.WideShapes Go.ChangeAt Go.RowKit
open Go.ChangeMaps (open_string shut_string)
set_option linter.unusedVariables false
set_option maxRecDepth 100000

theorem own : ownKnob Tryz.prog.godebug = none := by kernel_rfl
theorem laidOut : laidOutB Tryz.prog = true := by kernel_rfl
theorem open_rt {H : Type} {enc : TypeId × Value → H} {W : World} {base : Nat} {v : Value} {d : DataW H} {p : List MemPlace} (ho : Value.okWide Tryz.prog W .any base 30 v) (h : DataW.Trod enc Tryz.prog W 0 (fun _ => true) true 30 v d p) (hw : ∀ k ∈ d.weights Tryz.prog 30, k ≤ reachBytes) :
    ∃ (r : Qr) (a b : Option Addr) (c e : Nat), v = .agg #[.bool r.1, .slice a r.2.1.length c, .slice b r.2.2.length e] ∧ Reads W (.slice a r.2.1.length c) r.2.1 ∧ Reads W (.slice b r.2.2.length e) r.2.2 ∧ Big r := by
  obtain ⟨cs, rfl, hs⟩ := okWide_struct Tryz.underlying30 ho
  obtain ⟨l⟩ := cs
  match l, hs.trans (show Tryz.prog.cellsOf 30 = 3 by kernel_rfl) with
  | [x0, x1, x2], _ =>
    obtain ⟨fuel, hf⟩ := h
    obtain ⟨q, a, b, c, e, rfl, rfl, rfl, g, m, u⟩ := f_cells (c0 := x0) (c1 := x1) (c2 := x2) hf hw
    exact ⟨q, a, b, c, e, rfl, g, m, u⟩

theorem walk (a0 : Option Addr) (n0 c0 : Nat) (q0 : List Qr) (a1 : Option Addr) (n1 c1 : Nat) (q1 : List Qr) (r2 : Qr) (a2 b2 : Option Addr) (c2 d2' : Nat) (w : World) (h0 : GOK w (a0, n0, c0, q0)) (h1 : GOK w (a1, n1, c1, q1)) (g2 : Reads w (.slice a2 r2.2.1.length c2) r2.2.1) (k2 : Reads w (.slice b2 r2.2.2.length d2') r2.2.2) (u2 : Big r2) :
    Calls Tryz.prog 4 #[.slice a0 n0 c0, .slice a1 n1 c1, .agg #[.bool r2.1, .slice a2 r2.2.1.length c2, .slice b2 r2.2.2.length d2']] w fun e w' => e = .returned (.bool true) ∧ Below w.heap.size w w' := by
  exact adds_all h0 h1 g2 k2 u2

theorem lifted (os : Os) (started : os.Started) (H : Type) (enc : TypeId × Value → H) :
    ReturnsInHanded {} Tryz.checked os 4 .any (fun w args => (Rows.vecsAddsSpec.pre enc Tryz.prog Tryz.f4 Rows.vecsAddsRow.domain false w args ∧ laidMetH Tryz.prog Rows.vecsAddsRow.laid w) ∧ sizedMet enc Tryz.prog Tryz.f4 (OpenSpec.ofChange Rows.vecsAddsSpec) false w args)
      (Rows.vecsAddsSpec.post enc Tryz.prog Tryz.f4 false true false false) := by
  refine returnsInHanded_of_change_and (C := Tryz.checked) (X := fun w _ => laidMetH Tryz.prog Rows.vecsAddsRow.laid w) (fun _ _ _ hh h => h.of_heap hh) own started (by kernel_rfl) Tryz.func4
    (ChangeSpec.witness_shaped (enc := enc) (C := Tryz.checked) (os := os) (X := fun w _ => laidMetH Tryz.prog Rows.vecsAddsRow.laid w) false (World.laidAll Tryz.prog os Rows.vecsAddsRow.laid) #[.slice none 0 0, .slice none 0 0, .agg #[.bool false, .slice none 0 0, .slice none 0 0]] 8 (World.laidAll_os _ _ _)
      (World.shaped_of_ZipB (by kernel_rfl) (by kernel_rfl)) (by kernel_rfl) (by kernel_rfl) (by kernel_rfl)
      (by rw [MakeChecks.laidMetH_plain _ _ _ (by kernel_rfl)]; exact laidMet_laidAll _ (by kernel_rfl) (by kernel_rfl))) ?_
  intro W base args ds gs before hval0 hW hcnd hsz hX _
  have hval : ∀ (j : Nat) t v, Tryz.f4.params[j]? = some t → args[j]? = some v → Value.okWide Tryz.prog W .any base t v := hval0
  have hW' := hW
  obtain ⟨p, q, hA0, hV, rfl, hfz, hnd⟩ := hW
  have hA : DataW.TrodAll enc Tryz.prog W 0 (fun _ => true) true Tryz.f4.params.toList args.toList ds p := hA0
  rw [Tryz.params4] at hA hval
  obtain ⟨v0, vs0, d0, ds0, p0, q0, hargs, rfl, rfl, h0, r0⟩ := trodAll_cons hA
  obtain ⟨v1, vs1, d1, ds1, p1, q1, rfl, rfl, rfl, h1, r1⟩ := trodAll_cons r0
  obtain ⟨v2, vs2, d2, ds2, p2, q2, rfl, rfl, rfl, h2, r2⟩ := trodAll_cons r1
  obtain ⟨rfl, rfl, rfl⟩ := trodAll_nil r2
  obtain rfl : args = #[v0, v1, v2] := by cases args; simp_all
  obtain ⟨rfl, rfl⟩ := trodVars_none hV
  have k0 := h0
  have lt0 : ∀ x ∈ p0, x.block < W.heap.size := by obtain ⟨m, hm⟩ := k0; exact DataW.trod_lt m _ _ _ hm
  obtain ⟨a0, n0, c0, rfl⟩ := okWide_slice Tryz.underlying22 (hval 0 22 v0 rfl rfl)
  obtain ⟨q0, w0⟩ : ∃ qs, GOK W (a0, n0, c0, qs) := by
    obtain ⟨fuel, hf⟩ := h0
    obtain ⟨a, n, c, qs, e, wq⟩ := f_rats hf (fun k hk => by
      have := List.all_eq_true.1 hsz k (DataW.weights_mem_each (j := 0) (t := 22) (by rw [Tryz.params4]; rfl) rfl k hk)
      simpa using this)
    cases e
    exact ⟨qs, wq⟩
  have k1 := h1
  have lt1 : ∀ x ∈ p1, x.block < W.heap.size := by obtain ⟨m, hm⟩ := k1; exact DataW.trod_lt m _ _ _ hm
  obtain ⟨a1, n1, c1, rfl⟩ := okWide_slice Tryz.underlying22 (hval 1 22 v1 rfl rfl)
  obtain ⟨q1, w1⟩ : ∃ qs, GOK W (a1, n1, c1, qs) := by
    obtain ⟨fuel, hf⟩ := h1
    obtain ⟨a, n, c, qs, e, wq⟩ := f_rats hf (fun k hk => by
      have := List.all_eq_true.1 hsz k (DataW.weights_mem_each (j := 1) (t := 22) (by rw [Tryz.params4]; rfl) rfl k hk)
      simpa using this)
    cases e
    exact ⟨qs, wq⟩
  have k2 := h2
  have lt2 : ∀ x ∈ p2, x.block < W.heap.size := by obtain ⟨m, hm⟩ := k2; exact DataW.trod_lt m _ _ _ hm
  obtain ⟨r2, a2, b2, c2, d2', rfl, g2, m2, u2⟩ := open_rt (hval 2 30 v2 rfl rfl) h2 (fun k hk => by
    have := List.all_eq_true.1 hsz k (DataW.weights_mem_each (j := 2) (t := 30) (by rw [Tryz.params4]; rfl) rfl k hk)
    simpa using this)
  clear hA0 hval0
  refine (walk a0 n0 c0 q0 a1 n1 c1 q1 r2 a2 b2 c2 d2' W w0 w1 g2 m2 u2).mono fun e W' ⟨he, bel⟩ => ?_
  subst he
  exact ⟨_, rfl, _, _, _, [], _, [], hW', trodAll_mk1 (shut_bool Tryz.underlying4 _), (trodAll_cons_mk (Below.trod laidOut (by kernel_rfl) (of_decide_eq_true (by kernel_rfl)) k0 bel lt0) (trodAll_cons_mk (Below.trod laidOut (by kernel_rfl) (of_decide_eq_true (by kernel_rfl)) k1 bel lt1) (trodAll_cons_mk (Below.trod laidOut (by kernel_rfl) (of_decide_eq_true (by kernel_rfl)) k2 bel lt2) trodAll_mk0))), rfl, bel.frame _, fun h => by cases h⟩

theorem over : Rows.vecsAddsRow.holds Tryz.pinned (OpenSpec.ofChange Rows.vecsAddsSpec) :=
  OpenClaim.holds_of_wide 4 Tryz.f4 rfl rfl rfl rfl rfl rfl rfl ⟨rfl, rfl, rfl, rfl, rfl⟩ rfl rfl rfl rfl rfl (by kernel_rfl) Tryz.func4 vecsAdds_closed
    (of_decide_eq_true (by kernel_rfl)) (by unfold Func.isWrapper; first | (rw [if_pos (by decide +kernel)]; kernel_rfl) | (rw [if_neg (by decide +kernel)]; exact ⟨rfl, rfl⟩))
    (fun os started H enc _ => lifted os started H enc)

theorem proved : Rows.VecsAddsCardSaid :=
  Claim7.holds_tied_plain_at .later [] [.data, .data, .data] true (true, "546ad500353f791fee43841c5421c95a2916217856aea29e7f96ce7e7c5811d2") false
    over (fun _ h => by cases h) (by kernel_rfl) (fun _ h => by cases h) vecsAdds_row_tie rfl ⟨rfl, rfl⟩ (by kernel_rfl) rfl
    (fun f fn hf hfn => by
      obtain rfl : f = 4 := Option.some.inj ((show Tryz.prog.funcNamed "assayer/assayerlaw04.VecsAdds" = some 4 by kernel_rfl).symm.trans hf) |>.symm
      obtain rfl : fn = Tryz.f4 := (Option.some.inj (Tryz.func4.symm.trans hfn)).symm
      exact ⟨by kernel_rfl, fun j t ht => by
        rw [Tryz.params4] at ht
        have hm : t ∈ [22, 30] := by
          have := Array.mem_of_getElem? ht
          simpa using this
        have hm2 : t = 22 ∨ t = 30 := by simpa using hm
        rcases hm2 with rfl | rfl
        · exact (show Tryz.prog.wantsStandIn 22 = false by kernel_rfl)
        · exact (show Tryz.prog.wantsStandIn 30 = false by kernel_rfl)⟩)
    (by kernel_rfl)
#print axioms proved
end Go.Proofs.YtdjfooflhpkcbaaGreatDoor.vecsAdds
