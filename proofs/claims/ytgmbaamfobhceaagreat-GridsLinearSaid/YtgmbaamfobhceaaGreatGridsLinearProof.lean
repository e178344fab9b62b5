/-
  What a grid makes of a sum is the sum of what it makes of both: for every grid, every two lists and every fraction (a grid of more than 8 rows .. -/
import Derived.Test.YtgmbaamfobhceaaGreatRows
import Derived.WalkKit
import Derived.ProofKit
import Derived.OpenShut
import Derived.ShutString
import Derived.ChangeOld
import Derived.Below
import Derived.Lib.SmallJoins
import Derived.Test.YtgmbaamfobhceaaGreatGGlL
import Derived.Test.YtgmbaamfobhceaaGreatGGlFr
import Derived.Test.YtgmbaamfobhceaaGreatGGlFs
set_option maxHeartbeats 8000000
namespace Go.Proofs.YtgmbaamfobhceaaGreat.gridsLinear
open Go.ChangeMaps (open_string shut_string)
open Go.ChangeShapes Go.WideShapes Go.ChangeAt Go.RowKit
set_option linter.unusedVariables false
set_option maxRecDepth 100000
theorem own : ownKnob Tryz.prog.godebug = none := by kernel_rfl
theorem laidOut : laidOutB Tryz.prog = true := by kernel_rfl
theorem walk (a0 : Option Addr) (n0 c0 : Nat) (l0 : List (List Qr)) (a1 : Option Addr) (n1 c1 : Nat) (l1 : List Qr) (ab1 : Option Addr) (nb1 cb1 : Nat) (lb1 : List Qr) (q2 : Qr) (a2 b2 : Option Addr) (c2 e2 : Nat) (w : World) (w0 : GridR w (.slice a0 n0 c0) l0 ∧ GBig l0) (w1 : (VReads w (.slice a1 n1 c1) l1 ∧ n1 ≤ 70368744177664 ∧ ∀ q ∈ l1, Big q) ∧ VReads w (.slice ab1 nb1 cb1) lb1 ∧ nb1 ≤ 70368744177664 ∧ ∀ q ∈ lb1, Big q) (w2 : Reads w (.slice a2 q2.2.1.length c2) q2.2.1 ∧ Reads w (.slice b2 q2.2.2.length e2) q2.2.2 ∧ Big q2) :
 Calls Tryz.prog 5 #[.slice a0 n0 c0, .agg #[.slice a1 n1 c1, .slice ab1 nb1 cb1], .agg #[.bool q2.1, .slice a2 q2.2.1.length c2, .slice b2 q2.2.2.length e2]] w fun e w' => e = .returned (.bool true) ∧ Below w.heap.size w w' := llinear_all w0.1 w0.2 w1.1.1 w1.1.2.1 w1.1.2.2 w1.2.1 w1.2.2.1 w1.2.2.2 w2.1 w2.2.1 w2.2.2
theorem lifted (os : Os) (started : os.Started) (H : Type) (enc : TypeId × Value → H) :
  ReturnsInHanded {} Tryz.checked os 5 .any (Rows.gridsLinearSpec.pre6 enc Tryz.prog Tryz.f5 Rows.gridsLinearRow.domain false) (Rows.gridsLinearSpec.post enc Tryz.prog Tryz.f5 false true false false) := by
 have e6 : (fun w args => (Rows.gridsLinearSpec.pre enc Tryz.prog Tryz.f5 Rows.gridsLinearRow.domain false w args ∧ (fun (_ : World) (_ : Array Value) => True) w args) ∧ sizedMet enc Tryz.prog Tryz.f5 (OpenSpec.ofChange Rows.gridsLinearSpec) false w args) = Rows.gridsLinearSpec.pre6 enc Tryz.prog Tryz.f5 Rows.gridsLinearRow.domain false := by
  funext w args
  simp only [ChangeSpec.pre6, and_true]
 rw [← e6]
 refine returnsInHanded_of_change_and (C := Tryz.checked) (X := fun _ _ => True) (fun _ _ _ _ h => h) own started (by kernel_rfl) Tryz.func5
  (by
   obtain ⟨w, t, i, h1, h2, h3, h4, h5, h6⟩ := ChangeSpec.witness6 (enc := enc) (C := Tryz.checked) (os := os) (f := 5) (fn := Tryz.f5) (s := Rows.gridsLinearSpec) (conds := Rows.gridsLinearRow.domain) (apart := false) false ⟨#[], #[.slice none 0 0, .agg #[.slice none 0 0, .slice none 0 0], .agg #[.bool false, .slice none 0 0, .slice none 0 0]], []⟩ 8 (by kernel_rfl) (by kernel_rfl) (by kernel_rfl) (by kernel_rfl)
   exact ⟨w, t, i, h1, h2, h3, h4, ⟨⟨h5.1, trivial⟩, h5.2⟩, h6⟩) ?_
 intro W base args ds gs before hval0 hW hcnd hsz _ _
 have hval : ∀ (j : Nat) t v, Tryz.f5.params[j]? = some t → args[j]? = some v → Value.okWide Tryz.prog W .any base t v := hval0
 have hW' := hW
 obtain ⟨p, q, hA0, hV, rfl, hfz, hnd⟩ := hW
 have hA : DataW.TrodAll enc Tryz.prog W 0 (fun _ => true) true Tryz.f5.params.toList args.toList ds p := hA0
 rw [Tryz.params5] at hA hval
 obtain ⟨v0, vs0, d0, ds0, p0, q0, hargs, rfl, rfl, h0, rst0⟩ := trodAll_cons hA
 obtain ⟨v1, vs1, d1, ds1, p1, q1, rfl, rfl, rfl, h1, rst1⟩ := trodAll_cons rst0
 obtain ⟨v2, vs2, d2, ds2, p2, q2, rfl, rfl, rfl, h2, rst2⟩ := trodAll_cons rst1
 obtain ⟨rfl, rfl, rfl⟩ := trodAll_nil rst2
 obtain rfl : args = #[v0, v1, v2] := by cases args; simp_all
 obtain ⟨rfl, rfl⟩ := trodVars_none hV
 clear hA0 hval0
 have k0 := h0
 have lt0 : ∀ x ∈ p0, x.block < W.heap.size := by obtain ⟨m, hm⟩ := k0; exact DataW.trod_lt m _ _ _ hm
 obtain ⟨a0, n0, c0, rfl⟩ := okWide_slice Tryz.underlying22 (hval 0 22 v0 rfl rfl)
 obtain ⟨l0, w0⟩ : ∃ l : List (List Qr), GridR W (.slice a0 n0 c0) l ∧ GBig l := by
  obtain ⟨fuel, hf⟩ := h0
  obtain ⟨a, n, c, qs, e, w⟩ := f_grid hf (fun k hk => by
   have := List.all_eq_true.1 hsz k (DataW.weights_mem_each (j := 0) (t := 22) (by rw [Tryz.params5]; rfl) rfl k hk)
   simpa using this)
  cases e
  exact ⟨qs, w⟩
 have k1 := h1
 have lt1 : ∀ x ∈ p1, x.block < W.heap.size := by obtain ⟨m, hm⟩ := k1; exact DataW.trod_lt m _ _ _ hm
 obtain ⟨a1, n1, c1, l1, ab1, nb1, cb1, lb1, rfl, w1⟩ := open_rats2 (hval 1 38 v1 rfl rfl) h1 (fun k hk => by
   have := List.all_eq_true.1 hsz k (DataW.weights_mem_each (j := 1) (t := 38) (by rw [Tryz.params5]; rfl) rfl k hk)
   simpa using this)
 have k2 := h2
 have lt2 : ∀ x ∈ p2, x.block < W.heap.size := by obtain ⟨m, hm⟩ := k2; exact DataW.trod_lt m _ _ _ hm
 obtain ⟨y2, a2, b2, c2, e2, rfl, w2⟩ := open_rt (hval 2 44 v2 rfl rfl) h2 (fun k hk => by
   have := List.all_eq_true.1 hsz k (DataW.weights_mem_each (j := 2) (t := 44) (by rw [Tryz.params5]; rfl) rfl k hk)
   simpa using this)
 have hwalk := walk a0 n0 c0 l0 a1 n1 c1 l1 ab1 nb1 cb1 lb1 y2 a2 b2 c2 e2 W w0 w1 w2
 refine hwalk.mono fun e W' ⟨he, bel⟩ => ?_
 subst he
 exact ⟨_, rfl, _, _, _, [], _, [], hW', trodAll_mk1 (shut_bool Tryz.underlying4 _), (trodAll_cons_mk (Below.trod laidOut (by kernel_rfl) (of_decide_eq_true (by kernel_rfl)) k0 bel lt0) (trodAll_cons_mk (Below.trod laidOut (by kernel_rfl) (of_decide_eq_true (by kernel_rfl)) k1 bel lt1) (trodAll_cons_mk (Below.trod laidOut (by kernel_rfl) (of_decide_eq_true (by kernel_rfl)) k2 bel lt2) trodAll_mk0))), rfl, bel.frame _, fun h => by cases h⟩
theorem over : Rows.gridsLinearRow.holds Tryz.pinned (OpenSpec.ofChange Rows.gridsLinearSpec) :=
 OpenClaim.holds_of_wide 5 Tryz.f5 rfl rfl rfl rfl rfl rfl rfl ⟨rfl, rfl, rfl, rfl, rfl⟩ rfl rfl rfl rfl rfl (by kernel_rfl) Tryz.func5 (by kernel_rfl)
  (of_decide_eq_true (by kernel_rfl)) (by unfold Func.isWrapper; first | (rw [if_pos (by decide +kernel)]; kernel_rfl) | (rw [if_neg (by decide +kernel)]; exact ⟨rfl, rfl⟩))
  (fun os started H enc _ => lifted os started H enc)
theorem proved : Rows.GridsLinearSaid := over
#print axioms proved
end Go.Proofs.YtgmbaamfobhceaaGreat.gridsLinear
