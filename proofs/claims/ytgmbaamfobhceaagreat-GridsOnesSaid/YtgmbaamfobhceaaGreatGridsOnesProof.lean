/-
  A grid of ones from corner to corner makes of a column itself, all its rows count, and solved it is what was asked: for every list that may be .. -/
import Derived.Test.YtgmbaamfobhceaaGreatRows
import Derived.WalkKit
import Derived.ProofKit
import Derived.OpenShut
import Derived.ShutString
import Derived.ChangeOld
import Derived.Below
import Derived.Lib.SmallJoins
import Derived.Test.YtgmbaamfobhceaaGreatGGl1
import Derived.Test.YtgmbaamfobhceaaGreatGGlFr
set_option maxHeartbeats 8000000
namespace Go.Proofs.YtgmbaamfobhceaaGreat.gridsOnes
open Go.ChangeMaps (open_string shut_string)
open Go.ChangeShapes Go.WideShapes Go.ChangeAt Go.RowKit
set_option linter.unusedVariables false
set_option maxRecDepth 100000
theorem own : ownKnob Tryz.prog.godebug = none := by kernel_rfl
theorem laidOut : laidOutB Tryz.prog = true := by kernel_rfl
theorem walk (a0 : Option Addr) (n0 c0 : Nat) (l0 : List Qr) (w : World) (w0 : VReads w (.slice a0 n0 c0) l0 ∧ n0 ≤ 70368744177664 ∧ ∀ q ∈ l0, Big q) :
 Calls Tryz.prog 7 #[.slice a0 n0 c0] w fun e w' => e = .returned (.bool true) ∧ Below w.heap.size w w' := lones_all w0.1 w0.2.1 w0.2.2
theorem lifted (os : Os) (started : os.Started) (H : Type) (enc : TypeId × Value → H) :
  ReturnsInHanded {} Tryz.checked os 7 .any (Rows.gridsOnesSpec.pre6 enc Tryz.prog Tryz.f7 Rows.gridsOnesRow.domain false) (Rows.gridsOnesSpec.post enc Tryz.prog Tryz.f7 false true false false) := by
 have e6 : (fun w args => (Rows.gridsOnesSpec.pre enc Tryz.prog Tryz.f7 Rows.gridsOnesRow.domain false w args ∧ (fun (_ : World) (_ : Array Value) => True) w args) ∧ sizedMet enc Tryz.prog Tryz.f7 (OpenSpec.ofChange Rows.gridsOnesSpec) false w args) = Rows.gridsOnesSpec.pre6 enc Tryz.prog Tryz.f7 Rows.gridsOnesRow.domain false := by
  funext w args
  simp only [ChangeSpec.pre6, and_true]
 rw [← e6]
 refine returnsInHanded_of_change_and (C := Tryz.checked) (X := fun _ _ => True) (fun _ _ _ _ h => h) own started (by kernel_rfl) Tryz.func7
  (by
   obtain ⟨w, t, i, h1, h2, h3, h4, h5, h6⟩ := ChangeSpec.witness6 (enc := enc) (C := Tryz.checked) (os := os) (f := 7) (fn := Tryz.f7) (s := Rows.gridsOnesSpec) (conds := Rows.gridsOnesRow.domain) (apart := false) false ⟨#[], #[.slice none 0 0], []⟩ 8 (by kernel_rfl) (by kernel_rfl) (by kernel_rfl) (by kernel_rfl)
   exact ⟨w, t, i, h1, h2, h3, h4, ⟨⟨h5.1, trivial⟩, h5.2⟩, h6⟩) ?_
 intro W base args ds gs before hval0 hW hcnd hsz _ _
 have hval : ∀ (j : Nat) t v, Tryz.f7.params[j]? = some t → args[j]? = some v → Value.okWide Tryz.prog W .any base t v := hval0
 have hW' := hW
 obtain ⟨p, q, hA0, hV, rfl, hfz, hnd⟩ := hW
 have hA : DataW.TrodAll enc Tryz.prog W 0 (fun _ => true) true Tryz.f7.params.toList args.toList ds p := hA0
 rw [Tryz.params7] at hA hval
 obtain ⟨v0, vs0, d0, ds0, p0, q0, hargs, rfl, rfl, h0, rst0⟩ := trodAll_cons hA
 obtain ⟨rfl, rfl, rfl⟩ := trodAll_nil rst0
 obtain rfl : args = #[v0] := by cases args; simp_all
 obtain ⟨rfl, rfl⟩ := trodVars_none hV
 clear hA0 hval0
 have k0 := h0
 have lt0 : ∀ x ∈ p0, x.block < W.heap.size := by obtain ⟨m, hm⟩ := k0; exact DataW.trod_lt m _ _ _ hm
 obtain ⟨a0, n0, c0, rfl⟩ := okWide_slice Tryz.underlying30 (hval 0 30 v0 rfl rfl)
 obtain ⟨l0, w0⟩ : ∃ l : List Qr, VReads W (.slice a0 n0 c0) l ∧ n0 ≤ 70368744177664 ∧ ∀ q ∈ l, Big q := by
  obtain ⟨fuel, hf⟩ := h0
  obtain ⟨a, n, c, qs, e, w⟩ := f_rats hf (fun k hk => by
   have := List.all_eq_true.1 hsz k (DataW.weights_mem_each (j := 0) (t := 30) (by rw [Tryz.params7]; rfl) rfl k hk)
   simpa using this)
  cases e
  exact ⟨qs, w⟩
 have hwalk := walk a0 n0 c0 l0 W w0
 refine hwalk.mono fun e W' ⟨he, bel⟩ => ?_
 subst he
 exact ⟨_, rfl, _, _, _, [], _, [], hW', trodAll_mk1 (shut_bool Tryz.underlying4 _), (trodAll_cons_mk (Below.trod laidOut (by kernel_rfl) (of_decide_eq_true (by kernel_rfl)) k0 bel lt0) trodAll_mk0), rfl, bel.frame _, fun h => by cases h⟩
theorem over : Rows.gridsOnesRow.holds Tryz.pinned (OpenSpec.ofChange Rows.gridsOnesSpec) :=
 OpenClaim.holds_of_wide 7 Tryz.f7 rfl rfl rfl rfl rfl rfl rfl ⟨rfl, rfl, rfl, rfl, rfl⟩ rfl rfl rfl rfl rfl (by kernel_rfl) Tryz.func7 (by kernel_rfl)
  (of_decide_eq_true (by kernel_rfl)) (by unfold Func.isWrapper; first | (rw [if_pos (by decide +kernel)]; kernel_rfl) | (rw [if_neg (by decide +kernel)]; exact ⟨rfl, rfl⟩))
  (fun os started H enc _ => lifted os started H enc)
theorem proved : Rows.GridsOnesSaid := over
#print axioms proved
end Go.Proofs.YtgmbaamfobhceaaGreat.gridsOnes
