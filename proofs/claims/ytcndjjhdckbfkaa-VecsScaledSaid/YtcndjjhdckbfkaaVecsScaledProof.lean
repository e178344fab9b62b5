/-
  Of a list of fractions and two fractions, any that may be: so many times, and so many times again, is the product of both as many times (VecsScaled, no card).
-/
import Derived.Test.YtcndjjhdckbfkaaRows
import Derived.WalkKit
import Derived.ProofKit
import Derived.OpenShut
import Derived.ShutString
import Derived.ChangeOld
import Derived.Below
import Derived.Lib.SmallJoins
import Derived.Test.YtcndjjhdckbfkaaGVecScaled
import Derived.Test.YtcndjjhdckbfkaaGVecFr
namespace Go.Proofs.Ytcndjjhdckbfkaa.vecsScaled
open Go.ChangeShapes Go.WideShapes Go.ChangeAt Go.RowKit
set_option linter.unusedVariables false
set_option maxRecDepth 100000

theorem open_rt {H : Type} {enc : TypeId × Value → H} {W : World} {base : Nat} {v : Value} {d : DataW H} {p : List MemPlace} (ho : Value.okWide Try.prog W .any base 31 v) (h : DataW.Trod enc Try.prog W 0 (fun _ => true) true 31 v d p) (hw : ∀ k ∈ d.weights Try.prog 31, k ≤ reachBytes) :
    ∃ (r : Qr) (a b : Option Addr) (c e : Nat), v = .agg #[.bool r.1, .slice a r.2.1.length c, .slice b r.2.2.length e] ∧ Reads W (.slice a r.2.1.length c) r.2.1 ∧ Reads W (.slice b r.2.2.length e) r.2.2 ∧ Big r := by
  obtain ⟨cs, rfl, hs⟩ := okWide_struct Try.underlying31 ho
  obtain ⟨l⟩ := cs
  match l, hs.trans (show Try.prog.cellsOf 31 = 3 by kernel_rfl) with
  | [x0, x1, x2], _ =>
    obtain ⟨fuel, hf⟩ := h
    obtain ⟨q, a, b, c, e, rfl, rfl, rfl, g, m, u⟩ := f_cells (c0 := x0) (c1 := x1) (c2 := x2) hf hw
    exact ⟨q, a, b, c, e, rfl, g, m, u⟩
theorem own : ownKnob Try.prog.godebug = none := by kernel_rfl
theorem laidOut : laidOutB Try.prog = true := by kernel_rfl
theorem walk (a0 : Option Addr) (n0 c0 : Nat) (q0 : List Qr) (r1 : Qr) (a1 b1 : Option Addr) (c1 d1 : Nat) (r2 : Qr) (a2 b2 : Option Addr) (c2 d2 : Nat) (w : World) (h0 : GOK w (a0, n0, c0, q0)) (g1 : Reads w (.slice a1 r1.2.1.length c1) r1.2.1) (k1 : Reads w (.slice b1 r1.2.2.length d1) r1.2.2) (u1 : Big r1) (g2 : Reads w (.slice a2 r2.2.1.length c2) r2.2.1) (k2 : Reads w (.slice b2 r2.2.2.length d2) r2.2.2) (u2 : Big r2) :
    Calls Try.prog 8 #[.slice a0 n0 c0, .agg #[.bool r1.1, .slice a1 r1.2.1.length c1, .slice b1 r1.2.2.length d1], .agg #[.bool r2.1, .slice a2 r2.2.1.length c2, .slice b2 r2.2.2.length d2]] w fun e w' => e = .returned (.bool true) ∧ Below w.heap.size w w' := vecsScaled_any h0 g1 k1 u1 g2 k2 u2

set_option maxHeartbeats 8000000 in
theorem lifted (os : Os) (started : os.Started) (H : Type) (enc : TypeId × Value → H) :
    ReturnsInHanded {} Try.checked os 8 .any (Rows.vecsScaledSpec.pre6 enc Try.prog Try.f8 Rows.vecsScaledRow.domain false) (Rows.vecsScaledSpec.post enc Try.prog Try.f8 false true false false) := by
  have e6 : (fun w args => (Rows.vecsScaledSpec.pre enc Try.prog Try.f8 Rows.vecsScaledRow.domain false w args ∧ (fun (_ : World) (_ : Array Value) => True) w args) ∧ sizedMet enc Try.prog Try.f8 (OpenSpec.ofChange Rows.vecsScaledSpec) false w args) = Rows.vecsScaledSpec.pre6 enc Try.prog Try.f8 Rows.vecsScaledRow.domain false := by
    funext w args
    simp only [ChangeSpec.pre6, and_true]
  rw [← e6]
  refine returnsInHanded_of_change_and (C := Try.checked) (X := fun _ _ => True) (fun _ _ _ _ h => h) own started (by kernel_rfl) Try.func8
    (by
      obtain ⟨w, t, i, h1, h2, h3, h4, h5, h6⟩ := ChangeSpec.witness6 (enc := enc) (C := Try.checked) (os := os) (f := 8) (fn := Try.f8) (s := Rows.vecsScaledSpec) (conds := Rows.vecsScaledRow.domain) (apart := false) false ⟨#[], #[.slice none 0 0, .agg #[.bool false, .slice none 0 0, .slice none 0 0], .agg #[.bool false, .slice none 0 0, .slice none 0 0]], []⟩ 8 (by kernel_rfl) (by kernel_rfl) (by kernel_rfl) (by kernel_rfl)
      exact ⟨w, t, i, h1, h2, h3, h4, ⟨⟨h5.1, trivial⟩, h5.2⟩, h6⟩) ?_
  intro W base args ds gs before hval0 hW hcnd hsz _ _
  have hval : ∀ (j : Nat) t v, Try.f8.params[j]? = some t → args[j]? = some v → Value.okWide Try.prog W .any base t v := hval0
  have hW' := hW
  obtain ⟨p, q, hA0, hV, rfl, hfz, hnd⟩ := hW
  have hA : DataW.TrodAll enc Try.prog W 0 (fun _ => true) true Try.f8.params.toList args.toList ds p := hA0
  rw [Try.params8] at hA hval
  obtain ⟨v0, vs0, d0, ds0, p0, s0, hargs, rfl, rfl, h0, rst0⟩ := trodAll_cons hA
  obtain ⟨v1, vs1, d1, ds1, p1, s1, rfl, rfl, rfl, h1, rst1⟩ := trodAll_cons rst0
  obtain ⟨v2, vs2, d2, ds2, p2, s2, rfl, rfl, rfl, h2, rst2⟩ := trodAll_cons rst1
  obtain ⟨rfl, rfl, rfl⟩ := trodAll_nil rst2
  obtain rfl : args = #[v0, v1, v2] := by cases args; simp_all
  obtain ⟨rfl, rfl⟩ := trodVars_none hV
  clear hA0 hval0
  have k0 := h0
  have lt0 : ∀ x ∈ p0, x.block < W.heap.size := by obtain ⟨m, hm⟩ := k0; exact DataW.trod_lt m _ _ _ hm
  obtain ⟨a0, n0, c0, rfl⟩ := okWide_slice Try.underlying22 (hval 0 22 v0 rfl rfl)
  obtain ⟨q0, w0⟩ : ∃ qs, GOK W (a0, n0, c0, qs) := by
    obtain ⟨fuel, hf⟩ := h0
    obtain ⟨a, n, c, qs, e, wq⟩ := f_rats hf (fun k hk => by
      have := List.all_eq_true.1 hsz k (DataW.weights_mem_each (j := 0) (t := 22) (by rw [Try.params8]; rfl) rfl k hk)
      simpa using this)
    cases e
    exact ⟨qs, wq⟩
  have k1 := h1
  have lt1 : ∀ x ∈ p1, x.block < W.heap.size := by obtain ⟨m, hm⟩ := k1; exact DataW.trod_lt m _ _ _ hm
  obtain ⟨r1, a1, b1, c1, d1', rfl, g1, m1, u1⟩ := open_rt (hval 1 31 v1 rfl rfl) h1 (fun k hk => by
    have := List.all_eq_true.1 hsz k (DataW.weights_mem_each (j := 1) (t := 31) (by rw [Try.params8]; rfl) rfl k hk)
    simpa using this)
  have k2 := h2
  have lt2 : ∀ x ∈ p2, x.block < W.heap.size := by obtain ⟨m, hm⟩ := k2; exact DataW.trod_lt m _ _ _ hm
  obtain ⟨r2, a2, b2, c2, d2', rfl, g2, m2, u2⟩ := open_rt (hval 2 31 v2 rfl rfl) h2 (fun k hk => by
    have := List.all_eq_true.1 hsz k (DataW.weights_mem_each (j := 2) (t := 31) (by rw [Try.params8]; rfl) rfl k hk)
    simpa using this)
  refine (walk a0 n0 c0 q0 r1 a1 b1 c1 d1' r2 a2 b2 c2 d2' W w0 g1 m1 u1 g2 m2 u2).mono fun e W' ⟨he, bel⟩ => ?_
  subst he
  exact ⟨_, rfl, _, _, _, [], _, [], hW', trodAll_mk1 (shut_bool Try.underlying4 _), (trodAll_cons_mk (Below.trod laidOut (by kernel_rfl) (of_decide_eq_true (by kernel_rfl)) k0 bel lt0) (trodAll_cons_mk (Below.trod laidOut (by kernel_rfl) (of_decide_eq_true (by kernel_rfl)) k1 bel lt1) (trodAll_cons_mk (Below.trod laidOut (by kernel_rfl) (of_decide_eq_true (by kernel_rfl)) k2 bel lt2) trodAll_mk0))), rfl, bel.frame _, fun h => by cases h⟩

theorem over : Rows.vecsScaledRow.holds Try.pinned (OpenSpec.ofChange Rows.vecsScaledSpec) :=
  OpenClaim.holds_of_wide 8 Try.f8 rfl rfl rfl rfl rfl rfl rfl ⟨rfl, rfl, rfl, rfl, rfl⟩ rfl rfl rfl rfl rfl (by kernel_rfl) Try.func8 (by kernel_rfl)
    (of_decide_eq_true (by kernel_rfl)) (by unfold Func.isWrapper; first | (rw [if_pos (by decide +kernel)]; kernel_rfl) | (rw [if_neg (by decide +kernel)]; exact ⟨rfl, rfl⟩))
    (fun os started H enc _ => lifted os started H enc)

theorem proved : Rows.VecsScaledSaid := over
#print axioms proved
end Go.Proofs.Ytcndjjhdckbfkaa.vecsScaled
