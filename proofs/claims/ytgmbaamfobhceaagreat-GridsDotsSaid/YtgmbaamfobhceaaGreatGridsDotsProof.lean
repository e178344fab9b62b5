/-
  What a grid makes of one list, together with another one, is what the turned grid makes of that one, together with the first: for every grid and .. -/
import Derived.Test.YtgmbaamfobhceaaGreatRows
import Derived.WalkKit
import Derived.ProofKit
import Derived.OpenShut
import Derived.ShutString
import Derived.ChangeOld
import Derived.Below
import Derived.Lib.SmallJoins
import Derived.Test.YtgmbaamfobhceaaGreatGGlD
import Derived.Test.YtgmbaamfobhceaaGreatGGlFr
set_option maxHeartbeats 8000000
namespace Go.Proofs.YtgmbaamfobhceaaGreat.gridsDots
open Go.ChangeMaps (open_string shut_string)
open Go.ChangeShapes Go.WideShapes Go.ChangeAt Go.RowKit
set_option linter.unusedVariables false
set_option maxRecDepth 100000
theorem own : ownKnob Tryz.prog.godebug = none := by kernel_rfl
theorem laidOut : laidOutB Tryz.prog = true := by kernel_rfl
theorem walk (a0 : Option Addr) (n0 c0 : Nat) (l0 : List (List Qr)) (a1 : Option Addr) (n1 c1 : Nat) (l1 : List Qr) (a2 : Option Addr) (n2 c2 : Nat) (l2 : List Qr) (w : World) (w0 : GridR w (.slice a0 n0 c0) l0 ∧ GBig l0) (w1 : VReads w (.slice a1 n1 c1) l1 ∧ n1 ≤ 70368744177664 ∧ ∀ q ∈ l1, Big q) (w2 : VReads w (.slice a2 n2 c2) l2 ∧ n2 ≤ 70368744177664 ∧ ∀ q ∈ l2, Big q) :
 Calls Tryz.prog 8 #[.slice a0 n0 c0, .slice a1 n1 c1, .slice a2 n2 c2] w fun e w' => e = .returned (.bool true) ∧ Below w.heap.size w w' := ldots_all w0.1 w0.2 w1.1 w1.2.1 w1.2.2 w2.1 w2.2.1 w2.2.2
theorem lifted (os : Os) (started : os.Started) (H : Type) (enc : TypeId × Value → H) :
  ReturnsInHanded {} Tryz.checked os 8 .any (Rows.gridsDotsSpec.pre6 enc Tryz.prog Tryz.f8 Rows.gridsDotsRow.domain false) (Rows.gridsDotsSpec.post enc Tryz.prog Tryz.f8 false true false false) := by
 have e6 : (fun w args => (Rows.gridsDotsSpec.pre enc Tryz.prog Tryz.f8 Rows.gridsDotsRow.domain false w args ∧ (fun (_ : World) (_ : Array Value) => True) w args) ∧ sizedMet enc Tryz.prog Tryz.f8 (OpenSpec.ofChange Rows.gridsDotsSpec) false w args) = Rows.gridsDotsSpec.pre6 enc Tryz.prog Tryz.f8 Rows.gridsDotsRow.domain false := by
  funext w args
  simp only [ChangeSpec.pre6, and_true]
 rw [← e6]
 refine returnsInHanded_of_change_and (C := Tryz.checked) (X := fun _ _ => True) (fun _ _ _ _ h => h) own started (by kernel_rfl) Tryz.func8
  (by
   obtain ⟨w, t, i, h1, h2, h3, h4, h5, h6⟩ := ChangeSpec.witness6 (enc := enc) (C := Tryz.checked) (os := os) (f := 8) (fn := Tryz.f8) (s := Rows.gridsDotsSpec) (conds := Rows.gridsDotsRow.domain) (apart := false) false ⟨#[], #[.slice none 0 0, .slice none 0 0, .slice none 0 0], []⟩ 8 (by kernel_rfl) (by kernel_rfl) (by kernel_rfl) (by kernel_rfl)
   exact ⟨w, t, i, h1, h2, h3, h4, ⟨⟨h5.1, trivial⟩, h5.2⟩, h6⟩) ?_
 intro W base args ds gs before hval0 hW hcnd hsz _ _
 have hval : ∀ (j : Nat) t v, Tryz.f8.params[j]? = some t → args[j]? = some v → Value.okWide Tryz.prog W .any base t v := hval0
 have hW' := hW
 obtain ⟨p, q, hA0, hV, rfl, hfz, hnd⟩ := hW
 have hA : DataW.TrodAll enc Tryz.prog W 0 (fun _ => true) true Tryz.f8.params.toList args.toList ds p := hA0
 rw [Tryz.params8] at hA hval
 obtain ⟨v0, vs0, d0, ds0, p0, q0, hargs, rfl, rfl, h0, rst0⟩ := trodAll_cons hA
 obtain ⟨v1, vs1, d1, ds1, p1, q1, rfl, rfl, rfl, h1, rst1⟩ := trodAll_cons rst0
 obtain ⟨v2, vs2, d2, ds2, p2, q2, rfl, rfl, rfl, h2, rst2⟩ := trodAll_cons rst1
 obtain ⟨rfl, rfl, rfl⟩ := trodAll_nil rst2
 obtain rfl : args = #[v0, v1, v2] := by cases args; simp_all
 obtain ⟨rfl, rfl⟩ := trodVars_none hV
 clear hA0 hval0
 have k0 := h0
 have lt0 : ∀ x ∈ p0, x.block < W.heap.size := by obtain ⟨m, hm⟩ := k0; exact DataW.trod_lt m _ _ _ hm
 obtain ⟨a0, n0, c0, rfl⟩ := okWide_slice Tryz.underlying22 (hval 0 22 v0 rfl rfl)
 obtain ⟨l0, w0⟩ : ∃ l : List (List Qr), GridR W (.slice a0 n0 c0) l ∧ GBig l := by
  obtain ⟨fuel, hf⟩ := h0
  obtain ⟨a, n, c, qs, e, w⟩ := f_grid hf (fun k hk => by
   have := List.all_eq_true.1 hsz k (DataW.weights_mem_each (j := 0) (t := 22) (by rw [Tryz.params8]; rfl) rfl k hk)
   simpa using this)
  cases e
  exact ⟨qs, w⟩
 have k1 := h1
 have lt1 : ∀ x ∈ p1, x.block < W.heap.size := by obtain ⟨m, hm⟩ := k1; exact DataW.trod_lt m _ _ _ hm
 obtain ⟨a1, n1, c1, rfl⟩ := okWide_slice Tryz.underlying30 (hval 1 30 v1 rfl rfl)
 obtain ⟨l1, w1⟩ : ∃ l : List Qr, VReads W (.slice a1 n1 c1) l ∧ n1 ≤ 70368744177664 ∧ ∀ q ∈ l, Big q := by
  obtain ⟨fuel, hf⟩ := h1
  obtain ⟨a, n, c, qs, e, w⟩ := f_rats hf (fun k hk => by
   have := List.all_eq_true.1 hsz k (DataW.weights_mem_each (j := 1) (t := 30) (by rw [Tryz.params8]; rfl) rfl k hk)
   simpa using this)
  cases e
  exact ⟨qs, w⟩
 have k2 := h2
 have lt2 : ∀ x ∈ p2, x.block < W.heap.size := by obtain ⟨m, hm⟩ := k2; exact DataW.trod_lt m _ _ _ hm
 obtain ⟨a2, n2, c2, rfl⟩ := okWide_slice Tryz.underlying30 (hval 2 30 v2 rfl rfl)
 obtain ⟨l2, w2⟩ : ∃ l : List Qr, VReads W (.slice a2 n2 c2) l ∧ n2 ≤ 70368744177664 ∧ ∀ q ∈ l, Big q := by
  obtain ⟨fuel, hf⟩ := h2
  obtain ⟨a, n, c, qs, e, w⟩ := f_rats hf (fun k hk => by
   have := List.all_eq_true.1 hsz k (DataW.weights_mem_each (j := 2) (t := 30) (by rw [Tryz.params8]; rfl) rfl k hk)
   simpa using this)
  cases e
  exact ⟨qs, w⟩
 have hwalk := walk a0 n0 c0 l0 a1 n1 c1 l1 a2 n2 c2 l2 W w0 w1 w2
 refine hwalk.mono fun e W' ⟨he, bel⟩ => ?_
 subst he
 exact ⟨_, rfl, _, _, _, [], _, [], hW', trodAll_mk1 (shut_bool Tryz.underlying4 _), (trodAll_cons_mk (Below.trod laidOut (by kernel_rfl) (of_decide_eq_true (by kernel_rfl)) k0 bel lt0) (trodAll_cons_mk (Below.trod laidOut (by kernel_rfl) (of_decide_eq_true (by kernel_rfl)) k1 bel lt1) (trodAll_cons_mk (Below.trod laidOut (by kernel_rfl) (of_decide_eq_true (by kernel_rfl)) k2 bel lt2) trodAll_mk0))), rfl, bel.frame _, fun h => by cases h⟩
theorem over : Rows.gridsDotsRow.holds Tryz.pinned (OpenSpec.ofChange Rows.gridsDotsSpec) :=
 OpenClaim.holds_of_wide 8 Tryz.f8 rfl rfl rfl rfl rfl rfl rfl ⟨rfl, rfl, rfl, rfl, rfl⟩ rfl rfl rfl rfl rfl (by kernel_rfl) Tryz.func8 (by kernel_rfl)
  (of_decide_eq_true (by kernel_rfl)) (by unfold Func.isWrapper; first | (rw [if_pos (by decide +kernel)]; kernel_rfl) | (rw [if_neg (by decide +kernel)]; exact ⟨rfl, rfl⟩))
  (fun os started H enc _ => lifted os started H enc)
theorem proved : Rows.GridsDotsSaid := over
#print axioms proved
end Go.Proofs.YtgmbaamfobhceaaGreat.gridsDots
