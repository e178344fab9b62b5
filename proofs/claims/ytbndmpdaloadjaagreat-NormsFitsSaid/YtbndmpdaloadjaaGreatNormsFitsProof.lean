/-
  Whether a norm may be, whether a point fits it, and whether all of it is whole that must be, is what the document says: for every norm and every list of fractions (a norm of more than 200 rows or 3000 parts, and a list of more than 50 or 500 parts, is not gone through); both stay as they were.
-/
import Derived.Test.YtbndmpdaloadjaaGreatRows
import Derived.WalkKit
import Derived.ProofKit
import Derived.OpenShut
import Derived.ShutString
import Derived.ChangeOld
import Derived.Below
import Derived.Lib.SmallJoins
import Derived.Test.YtbndmpdaloadjaaGreatGNtZ
import Derived.Test.YtbndmpdaloadjaaGreatGNtFr
namespace Go.Proofs.YtbndmpdaloadjaaGreat.normsFits
open Go.ChangeMaps (open_string shut_string)
open Go.ChangeShapes Go.WideShapes Go.ChangeAt Go.RowKit
set_option linter.unusedVariables false
set_option maxRecDepth 100000

theorem own : ownKnob Tryz.prog.godebug = none := by kernel_rfl
theorem laidOut : laidOutB Tryz.prog = true := by kernel_rfl
theorem walk (A0 : NA) (x0 : NV) (a1 : Option Addr) (n1 c1 : Nat) (l1 : List Qr) (w : World) (w0 : NOK w A0 x0) (w1 : VReads w (.slice a1 n1 c1) l1 ∧ n1 ≤ 70368744177664 ∧ ∀ q ∈ l1, Big q) :
    Calls Tryz.prog 4 #[.agg #[.slice A0.a1 A0.n1 A0.c1, .slice A0.a2 A0.n2 A0.c2, .slice A0.a3 A0.n3 A0.c3, .slice A0.a4 A0.n4 A0.c4], .slice a1 n1 c1] w fun e w' => e = .returned (.bool true) ∧ Below w.heap.size w w' := nfits_law w0.1 w0.2.1 w0.2.2.1 w0.2.2.2.1 w0.2.2.2.2 w1.1 w1.2.1 w1.2.2

set_option maxHeartbeats 8000000 in
theorem lifted (os : Os) (started : os.Started) (H : Type) (enc : TypeId × Value → H) :
    ReturnsInHanded {} Tryz.checked os 4 .any (Rows.normsFitsSpec.pre6 enc Tryz.prog Tryz.f4 Rows.normsFitsRow.domain false) (Rows.normsFitsSpec.post enc Tryz.prog Tryz.f4 false true false false) := by
  have e6 : (fun w args => (Rows.normsFitsSpec.pre enc Tryz.prog Tryz.f4 Rows.normsFitsRow.domain false w args ∧ (fun (_ : World) (_ : Array Value) => True) w args) ∧ sizedMet enc Tryz.prog Tryz.f4 (OpenSpec.ofChange Rows.normsFitsSpec) false w args) = Rows.normsFitsSpec.pre6 enc Tryz.prog Tryz.f4 Rows.normsFitsRow.domain false := by
    funext w args
    simp only [ChangeSpec.pre6, and_true]
  rw [← e6]
  refine returnsInHanded_of_change_and (C := Tryz.checked) (X := fun _ _ => True) (fun _ _ _ _ h => h) own started (by kernel_rfl) Tryz.func4
    (by
      obtain ⟨w, t, i, h1, h2, h3, h4, h5, h6⟩ := ChangeSpec.witness6 (enc := enc) (C := Tryz.checked) (os := os) (f := 4) (fn := Tryz.f4) (s := Rows.normsFitsSpec) (conds := Rows.normsFitsRow.domain) (apart := false) false ⟨#[], #[.agg #[.slice none 0 0, .slice none 0 0, .slice none 0 0, .slice none 0 0], .slice none 0 0], []⟩ 8 (by kernel_rfl) (by kernel_rfl) (by kernel_rfl) (by kernel_rfl)
      exact ⟨w, t, i, h1, h2, h3, h4, ⟨⟨h5.1, trivial⟩, h5.2⟩, h6⟩) ?_
  intro W base args ds gs before hval0 hW hcnd hsz _ _
  have hval : ∀ (j : Nat) t v, Tryz.f4.params[j]? = some t → args[j]? = some v → Value.okWide Tryz.prog W .any base t v := hval0
  have hW' := hW
  obtain ⟨p, q, hA0, hV, rfl, hfz, hnd⟩ := hW
  have hA : DataW.TrodAll enc Tryz.prog W 0 (fun _ => true) true Tryz.f4.params.toList args.toList ds p := hA0
  rw [Tryz.params4] at hA hval
  obtain ⟨v0, vs0, d0, ds0, p0, q0, hargs, rfl, rfl, h0, rst0⟩ := trodAll_cons hA
  obtain ⟨v1, vs1, d1, ds1, p1, q1, rfl, rfl, rfl, h1, rst1⟩ := trodAll_cons rst0
  obtain ⟨rfl, rfl, rfl⟩ := trodAll_nil rst1
  obtain rfl : args = #[v0, v1] := by cases args; simp_all
  obtain ⟨rfl, rfl⟩ := trodVars_none hV
  clear hA0 hval0
  have k0 := h0
  have lt0 : ∀ x ∈ p0, x.block < W.heap.size := by obtain ⟨m, hm⟩ := k0; exact DataW.trod_lt m _ _ _ hm
  obtain ⟨A0, x0, rfl, w0⟩ := open_norm (hval 0 42 v0 rfl rfl) h0 (fun k hk => by
      have := List.all_eq_true.1 hsz k (DataW.weights_mem_each (j := 0) (t := 42) (by rw [Tryz.params4]; rfl) rfl k hk)
      simpa using this)
  have k1 := h1
  have lt1 : ∀ x ∈ p1, x.block < W.heap.size := by obtain ⟨m, hm⟩ := k1; exact DataW.trod_lt m _ _ _ hm
  obtain ⟨a1, n1, c1, rfl⟩ := okWide_slice Tryz.underlying23 (hval 1 23 v1 rfl rfl)
  obtain ⟨l1, w1⟩ : ∃ l : List Qr, VReads W (.slice a1 n1 c1) l ∧ n1 ≤ 70368744177664 ∧ ∀ q ∈ l, Big q := by
    obtain ⟨fuel, hf⟩ := h1
    obtain ⟨a, n, c, qs, e, w⟩ := f_rats hf (fun k hk => by
      have := List.all_eq_true.1 hsz k (DataW.weights_mem_each (j := 1) (t := 23) (by rw [Tryz.params4]; rfl) rfl k hk)
      simpa using this)
    cases e
    exact ⟨qs, w⟩
  have hwalk := walk A0 x0 a1 n1 c1 l1 W w0 w1
  refine hwalk.mono fun e W' ⟨he, bel⟩ => ?_
  subst he
  exact ⟨_, rfl, _, _, _, [], _, [], hW', trodAll_mk1 (shut_bool Tryz.underlying4 _), (trodAll_cons_mk (Below.trod laidOut (by kernel_rfl) (of_decide_eq_true (by kernel_rfl)) k0 bel lt0) (trodAll_cons_mk (Below.trod laidOut (by kernel_rfl) (of_decide_eq_true (by kernel_rfl)) k1 bel lt1) trodAll_mk0)), rfl, bel.frame _, fun h => by cases h⟩

theorem over : Rows.normsFitsRow.holds Tryz.pinned (OpenSpec.ofChange Rows.normsFitsSpec) :=
  OpenClaim.holds_of_wide 4 Tryz.f4 rfl rfl rfl rfl rfl rfl rfl ⟨rfl, rfl, rfl, rfl, rfl⟩ rfl rfl rfl rfl rfl (by kernel_rfl) Tryz.func4 (by kernel_rfl)
    (of_decide_eq_true (by kernel_rfl)) (by unfold Func.isWrapper; first | (rw [if_pos (by decide +kernel)]; kernel_rfl) | (rw [if_neg (by decide +kernel)]; exact ⟨rfl, rfl⟩))
    (fun os started H enc _ => lifted os started H enc)

theorem proved : Rows.NormsFitsSaid := over
#print axioms proved
end Go.Proofs.YtbndmpdaloadjaaGreat.normsFits
