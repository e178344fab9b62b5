/-
  Of a list of fractions and another one so many times, any that may be and as long, the sum of the products is the sum of what it is of both, the second one so many times (VecsLinear, no card).
-/
import Derived.Test.YtcndjjhdckbfkaaRows
import Derived.WalkKit
import Derived.ProofKit
import Derived.OpenShut
import Derived.ShutString
import Derived.ChangeOld
import Derived.Below
import Derived.Lib.SmallJoins
import Derived.Test.YtcndjjhdckbfkaaGVecLinear
import Derived.Test.YtcndjjhdckbfkaaGVecFr
namespace Go.Proofs.Ytcndjjhdckbfkaa.vecsLinear
open Go.ChangeShapes Go.WideShapes Go.ChangeAt Go.RowKit
set_option linter.unusedVariables false
set_option maxRecDepth 100000

theorem open_three {H : Type} {enc : TypeId × Value → H} {W : World} {base : Nat} {v : Value} {d : DataW H} {p : List MemPlace} (ho : Value.okWide Try.prog W .any base 40 v) (h : DataW.Trod enc Try.prog W 0 (fun _ => true) true 40 v d p) (hwt : ∀ k ∈ d.weights Try.prog 40, k ≤ reachBytes) :
    ∃ a0 n0 c0 q0 a1 n1 c1 q1 a2 n2 c2 q2 r3 a3 b3 c3 d3, v = .agg #[.slice a0 n0 c0, .slice a1 n1 c1, .slice a2 n2 c2, .bool r3.1, .slice a3 r3.2.1.length c3, .slice b3 r3.2.2.length d3] ∧ GOK W (a0, n0, c0, q0) ∧ GOK W (a1, n1, c1, q1) ∧ GOK W (a2, n2, c2, q2) ∧ Reads W (.slice a3 r3.2.1.length c3) r3.2.1 ∧ Reads W (.slice b3 r3.2.2.length d3) r3.2.2 ∧ Big r3 := by
  obtain ⟨cs, rfl, hs⟩ := okWide_struct Try.underlying40 ho
  obtain ⟨l⟩ := cs
  match l, hs.trans (show Try.prog.cellsOf 40 = 6 by kernel_rfl) with
  | [x0, x1, x2, x3, x4, x5], _ =>
    obtain ⟨fuel, hf⟩ := h
    obtain ⟨xs, m, _, hx, _, hlen, hg⟩ := DataW.trod_struct Try.underlying40 hf
    match xs, hlen with
    | [y0, y1, y2, y3], _ =>
      have t0 : DataW.trod enc Try.prog W 0 (fun _ => true) true m 22 [x0] = some y0 := hg 0 _ rfl
      have t1 : DataW.trod enc Try.prog W 0 (fun _ => true) true m 22 [x1] = some y1 := hg 1 _ rfl
      have t2 : DataW.trod enc Try.prog W 0 (fun _ => true) true m 22 [x2] = some y2 := hg 2 _ rfl
      have t3 : DataW.trod enc Try.prog W 0 (fun _ => true) true m 31 [x3, x4, x5] = some y3 := hg 3 _ rfl
      simp only [Prod.mk.injEq, List.map_cons, List.map_nil] at hx
      have hww : ∀ k, (k ∈ y0.1.weights Try.prog 22 ∨ k ∈ y1.1.weights Try.prog 22 ∨ k ∈ y2.1.weights Try.prog 22 ∨ k ∈ y3.1.weights Try.prog 31) → k ≤ reachBytes := fun k hk => hwt k (by
        rw [hx.1]; simp only [DataW.weights, Try.underlying40, List.map_cons, List.map_nil, DataW.weightsEach, List.mem_append, List.not_mem_nil, or_false]; exact hk)
      obtain ⟨a0, n0, c0, q0, rfl, w0⟩ := f_rats t0 (fun k hk => hww k (.inl hk))
      obtain ⟨a1, n1, c1, q1, rfl, w1⟩ := f_rats t1 (fun k hk => hww k (.inr (.inl hk)))
      obtain ⟨a2, n2, c2, q2, rfl, w2⟩ := f_rats t2 (fun k hk => hww k (.inr (.inr (.inl hk))))
      obtain ⟨q, a, b, c, e, rfl, rfl, rfl, g, m', u⟩ := f_cells (c0 := x3) (c1 := x4) (c2 := x5) t3 (fun k hk => hww k (.inr (.inr (.inr hk))))
      exact ⟨a0, n0, c0, q0, a1, n1, c1, q1, a2, n2, c2, q2, q, a, b, c, e, rfl, w0, w1, w2, g, m', u⟩
theorem own : ownKnob Try.prog.godebug = none := by kernel_rfl
theorem laidOut : laidOutB Try.prog = true := by kernel_rfl
theorem walk (a0 a1 a2 : Option Addr) (n0 c0 n1 c1 n2 c2 : Nat) (q0 q1 q2 : List Qr) (r3 : Qr) (a3 b3 : Option Addr) (c3 d3 : Nat) (w : World) (h0 : GOK w (a0, n0, c0, q0)) (h1 : GOK w (a1, n1, c1, q1)) (h2 : GOK w (a2, n2, c2, q2)) (g3 : Reads w (.slice a3 r3.2.1.length c3) r3.2.1) (k3 : Reads w (.slice b3 r3.2.2.length d3) r3.2.2) (u3 : Big r3) :
    Calls Try.prog 4 #[.agg #[.slice a0 n0 c0, .slice a1 n1 c1, .slice a2 n2 c2, .bool r3.1, .slice a3 r3.2.1.length c3, .slice b3 r3.2.2.length d3]] w fun e w' => e = .returned (.bool true) ∧ Below w.heap.size w w' := vecsLinear_any h0 h1 h2 g3 k3 u3

set_option maxHeartbeats 8000000 in
theorem lifted (os : Os) (started : os.Started) (H : Type) (enc : TypeId × Value → H) :
    ReturnsInHanded {} Try.checked os 4 .any (Rows.vecsLinearSpec.pre6 enc Try.prog Try.f4 Rows.vecsLinearRow.domain false) (Rows.vecsLinearSpec.post enc Try.prog Try.f4 false true false false) := by
  have e6 : (fun w args => (Rows.vecsLinearSpec.pre enc Try.prog Try.f4 Rows.vecsLinearRow.domain false w args ∧ (fun (_ : World) (_ : Array Value) => True) w args) ∧ sizedMet enc Try.prog Try.f4 (OpenSpec.ofChange Rows.vecsLinearSpec) false w args) = Rows.vecsLinearSpec.pre6 enc Try.prog Try.f4 Rows.vecsLinearRow.domain false := by
    funext w args
    simp only [ChangeSpec.pre6, and_true]
  rw [← e6]
  refine returnsInHanded_of_change_and (C := Try.checked) (X := fun _ _ => True) (fun _ _ _ _ h => h) own started (by kernel_rfl) Try.func4
    (by
      obtain ⟨w, t, i, h1, h2, h3, h4, h5, h6⟩ := ChangeSpec.witness6 (enc := enc) (C := Try.checked) (os := os) (f := 4) (fn := Try.f4) (s := Rows.vecsLinearSpec) (conds := Rows.vecsLinearRow.domain) (apart := false) false ⟨#[], #[.agg #[.slice none 0 0, .slice none 0 0, .slice none 0 0, .bool false, .slice none 0 0, .slice none 0 0]], []⟩ 8 (by kernel_rfl) (by kernel_rfl) (by kernel_rfl) (by kernel_rfl)
      exact ⟨w, t, i, h1, h2, h3, h4, ⟨⟨h5.1, trivial⟩, h5.2⟩, h6⟩) ?_
  intro W base args ds gs before hval0 hW hcnd hsz _ _
  have hval : ∀ (j : Nat) t v, Try.f4.params[j]? = some t → args[j]? = some v → Value.okWide Try.prog W .any base t v := hval0
  have hW' := hW
  obtain ⟨p, q, hA0, hV, rfl, hfz, hnd⟩ := hW
  have hA : DataW.TrodAll enc Try.prog W 0 (fun _ => true) true Try.f4.params.toList args.toList ds p := hA0
  rw [Try.params4] at hA hval
  obtain ⟨v0, vs0, d0, ds0, p0, s0, hargs, rfl, rfl, h0, rst0⟩ := trodAll_cons hA
  obtain ⟨rfl, rfl, rfl⟩ := trodAll_nil rst0
  obtain rfl : args = #[v0] := by cases args; simp_all
  obtain ⟨rfl, rfl⟩ := trodVars_none hV
  clear hA0 hval0
  have k0 := h0
  have lt0 : ∀ x ∈ p0, x.block < W.heap.size := by obtain ⟨m, hm⟩ := k0; exact DataW.trod_lt m _ _ _ hm
  obtain ⟨a0, n0, c0, q0, a1, n1, c1, q1, a2, n2, c2, q2, r3, a3, b3, c3, d3', rfl, w0, w1, w2, g3, m3, u3⟩ := open_three (hval 0 40 v0 rfl rfl) h0 (fun k hk => by
    have := List.all_eq_true.1 hsz k (DataW.weights_mem_each (j := 0) (t := 40) (by rw [Try.params4]; rfl) rfl k hk)
    simpa using this)
  refine (walk a0 a1 a2 n0 c0 n1 c1 n2 c2 q0 q1 q2 r3 a3 b3 c3 d3' W w0 w1 w2 g3 m3 u3).mono fun e W' ⟨he, bel⟩ => ?_
  subst he
  exact ⟨_, rfl, _, _, _, [], _, [], hW', trodAll_mk1 (shut_bool Try.underlying4 _), (trodAll_cons_mk (Below.trod laidOut (by kernel_rfl) (of_decide_eq_true (by kernel_rfl)) k0 bel lt0) trodAll_mk0), rfl, bel.frame _, fun h => by cases h⟩

theorem over : Rows.vecsLinearRow.holds Try.pinned (OpenSpec.ofChange Rows.vecsLinearSpec) :=
  OpenClaim.holds_of_wide 4 Try.f4 rfl rfl rfl rfl rfl rfl rfl ⟨rfl, rfl, rfl, rfl, rfl⟩ rfl rfl rfl rfl rfl (by kernel_rfl) Try.func4 (by kernel_rfl)
    (of_decide_eq_true (by kernel_rfl)) (by unfold Func.isWrapper; first | (rw [if_pos (by decide +kernel)]; kernel_rfl) | (rw [if_neg (by decide +kernel)]; exact ⟨rfl, rfl⟩))
    (fun os started H enc _ => lifted os started H enc)

theorem proved : Rows.VecsLinearSaid := over
#print axioms proved
end Go.Proofs.Ytcndjjhdckbfkaa.vecsLinear
