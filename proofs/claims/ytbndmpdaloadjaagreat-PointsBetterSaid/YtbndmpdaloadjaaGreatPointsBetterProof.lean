/-
  Whether one of two values is better, of a model, is what the document says: for every model and every two fractions (a model of more than 40 vars, 70 rows or 3000 parts, and fractions of more than 500 parts together, are not gone through); all stay as they were.
-/
import Derived.Test.YtbndmpdaloadjaaGreatRows
import Derived.WalkKit
import Derived.ProofKit
import Derived.OpenShut
import Derived.ShutString
import Derived.ChangeOld
import Derived.Below
import Derived.Lib.SmallJoins
import Derived.Test.YtbndmpdaloadjaaGreatGNmZ
import Derived.Test.YtbndmpdaloadjaaGreatGNmFr
namespace Go.Proofs.YtbndmpdaloadjaaGreat.pointsBetter
open Go.ChangeMaps (open_string shut_string)
open Go.ChangeShapes Go.WideShapes Go.ChangeAt Go.RowKit
set_option linter.unusedVariables false
set_option maxRecDepth 100000

theorem own : ownKnob Tryz.prog.godebug = none := by kernel_rfl
theorem laidOut : laidOutB Tryz.prog = true := by kernel_rfl
theorem walk (A0 : MA) (x0 : MV) (q1 : Qr) (a1 b1 : Option Addr) (c1 e1 : Nat) (q2 : Qr) (a2 b2 : Option Addr) (c2 e2 : Nat) (w : World) (w0 : MOK w A0 x0) (w1 : Reads w (.slice a1 q1.2.1.length c1) q1.2.1 ∧ Reads w (.slice b1 q1.2.2.length e1) q1.2.2 ∧ Big q1) (w2 : Reads w (.slice a2 q2.2.1.length c2) q2.2.1 ∧ Reads w (.slice b2 q2.2.2.length e2) q2.2.2 ∧ Big q2) :
    Calls Tryz.prog 3 #[.agg #[.bool x0.most, .slice A0.a1 A0.n1 A0.c1, .slice A0.a2 A0.n2 A0.c2, .slice A0.a3 A0.n3 A0.c3], .agg #[.bool q1.1, .slice a1 q1.2.1.length c1, .slice b1 q1.2.2.length e1], .agg #[.bool q2.1, .slice a2 q2.2.1.length c2, .slice b2 q2.2.2.length e2]] w fun e w' => e = .returned (.bool true) ∧ Below w.heap.size w w' := better_law w0.1 w0.2.1 w0.2.2.1 w0.2.2.2 w1.1 w1.2.1 w1.2.2 w2.1 w2.2.1 w2.2.2

set_option maxHeartbeats 8000000 in
theorem lifted (os : Os) (started : os.Started) (H : Type) (enc : TypeId × Value → H) :
    ReturnsInHanded {} Tryz.checked os 3 .any (Rows.pointsBetterSpec.pre6 enc Tryz.prog Tryz.f3 Rows.pointsBetterRow.domain false) (Rows.pointsBetterSpec.post enc Tryz.prog Tryz.f3 false true false false) := by
  have e6 : (fun w args => (Rows.pointsBetterSpec.pre enc Tryz.prog Tryz.f3 Rows.pointsBetterRow.domain false w args ∧ (fun (_ : World) (_ : Array Value) => True) w args) ∧ sizedMet enc Tryz.prog Tryz.f3 (OpenSpec.ofChange Rows.pointsBetterSpec) false w args) = Rows.pointsBetterSpec.pre6 enc Tryz.prog Tryz.f3 Rows.pointsBetterRow.domain false := by
    funext w args
    simp only [ChangeSpec.pre6, and_true]
  rw [← e6]
  refine returnsInHanded_of_change_and (C := Tryz.checked) (X := fun _ _ => True) (fun _ _ _ _ h => h) own started (by kernel_rfl) Tryz.func3
    (by
      obtain ⟨w, t, i, h1, h2, h3, h4, h5, h6⟩ := ChangeSpec.witness6 (enc := enc) (C := Tryz.checked) (os := os) (f := 3) (fn := Tryz.f3) (s := Rows.pointsBetterSpec) (conds := Rows.pointsBetterRow.domain) (apart := false) false ⟨#[], #[.agg #[.bool false, .slice none 0 0, .slice none 0 0, .slice none 0 0], .agg #[.bool false, .slice none 0 0, .slice none 0 0], .agg #[.bool false, .slice none 0 0, .slice none 0 0]], []⟩ 8 (by kernel_rfl) (by kernel_rfl) (by kernel_rfl) (by kernel_rfl)
      exact ⟨w, t, i, h1, h2, h3, h4, ⟨⟨h5.1, trivial⟩, h5.2⟩, h6⟩) ?_
  intro W base args ds gs before hval0 hW hcnd hsz _ _
  have hval : ∀ (j : Nat) t v, Tryz.f3.params[j]? = some t → args[j]? = some v → Value.okWide Tryz.prog W .any base t v := hval0
  have hW' := hW
  obtain ⟨p, q, hA0, hV, rfl, hfz, hnd⟩ := hW
  have hA : DataW.TrodAll enc Tryz.prog W 0 (fun _ => true) true Tryz.f3.params.toList args.toList ds p := hA0
  rw [Tryz.params3] at hA hval
  obtain ⟨v0, vs0, d0, ds0, p0, q0, hargs, rfl, rfl, h0, rst0⟩ := trodAll_cons hA
  obtain ⟨v1, vs1, d1, ds1, p1, q1, rfl, rfl, rfl, h1, rst1⟩ := trodAll_cons rst0
  obtain ⟨v2, vs2, d2, ds2, p2, q2, rfl, rfl, rfl, h2, rst2⟩ := trodAll_cons rst1
  obtain ⟨rfl, rfl, rfl⟩ := trodAll_nil rst2
  obtain rfl : args = #[v0, v1, v2] := by cases args; simp_all
  obtain ⟨rfl, rfl⟩ := trodVars_none hV
  clear hA0 hval0
  have k0 := h0
  have lt0 : ∀ x ∈ p0, x.block < W.heap.size := by obtain ⟨m, hm⟩ := k0; exact DataW.trod_lt m _ _ _ hm
  obtain ⟨A0, x0, rfl, w0⟩ := open_model (hval 0 26 v0 rfl rfl) h0 (fun k hk => by
      have := List.all_eq_true.1 hsz k (DataW.weights_mem_each (j := 0) (t := 26) (by rw [Tryz.params3]; rfl) rfl k hk)
      simpa using this)
  have k1 := h1
  have lt1 : ∀ x ∈ p1, x.block < W.heap.size := by obtain ⟨m, hm⟩ := k1; exact DataW.trod_lt m _ _ _ hm
  obtain ⟨y1, a1, b1, c1, e1, rfl, w1⟩ := open_rt (hval 1 32 v1 rfl rfl) h1 (fun k hk => by
      have := List.all_eq_true.1 hsz k (DataW.weights_mem_each (j := 1) (t := 32) (by rw [Tryz.params3]; rfl) rfl k hk)
      simpa using this)
  have k2 := h2
  have lt2 : ∀ x ∈ p2, x.block < W.heap.size := by obtain ⟨m, hm⟩ := k2; exact DataW.trod_lt m _ _ _ hm
  obtain ⟨y2, a2, b2, c2, e2, rfl, w2⟩ := open_rt (hval 2 32 v2 rfl rfl) h2 (fun k hk => by
      have := List.all_eq_true.1 hsz k (DataW.weights_mem_each (j := 2) (t := 32) (by rw [Tryz.params3]; rfl) rfl k hk)
      simpa using this)
  have hwalk := walk A0 x0 y1 a1 b1 c1 e1 y2 a2 b2 c2 e2 W w0 w1 w2
  refine hwalk.mono fun e W' ⟨he, bel⟩ => ?_
  subst he
  exact ⟨_, rfl, _, _, _, [], _, [], hW', trodAll_mk1 (shut_bool Tryz.underlying4 _), (trodAll_cons_mk (Below.trod laidOut (by kernel_rfl) (of_decide_eq_true (by kernel_rfl)) k0 bel lt0) (trodAll_cons_mk (Below.trod laidOut (by kernel_rfl) (of_decide_eq_true (by kernel_rfl)) k1 bel lt1) (trodAll_cons_mk (Below.trod laidOut (by kernel_rfl) (of_decide_eq_true (by kernel_rfl)) k2 bel lt2) trodAll_mk0))), rfl, bel.frame _, fun h => by cases h⟩

theorem over : Rows.pointsBetterRow.holds Tryz.pinned (OpenSpec.ofChange Rows.pointsBetterSpec) :=
  OpenClaim.holds_of_wide 3 Tryz.f3 rfl rfl rfl rfl rfl rfl rfl ⟨rfl, rfl, rfl, rfl, rfl⟩ rfl rfl rfl rfl rfl (by kernel_rfl) Tryz.func3 (by kernel_rfl)
    (of_decide_eq_true (by kernel_rfl)) (by unfold Func.isWrapper; first | (rw [if_pos (by decide +kernel)]; kernel_rfl) | (rw [if_neg (by decide +kernel)]; exact ⟨rfl, rfl⟩))
    (fun os started H enc _ => lifted os started H enc)

theorem proved : Rows.PointsBetterSaid := over
#print axioms proved
end Go.Proofs.YtbndmpdaloadjaaGreat.pointsBetter
