/-
  There are as many lines as bytes 10, each told whether it may not be; one that may not be is empty; one that may be has no byte below 32 but 9, none above 126, and is not too long: for any bytes (their memory as Go's own shapes allow).
-/
import Derived.Test.YtiofdlkdpmomlaaRows
import Derived.WalkKit
import Derived.ProofKit
import Derived.OpenShut
import Derived.ShutString
import Derived.ChangeOld
import Derived.Below
import Derived.Lib.SmallJoins
import Derived.Test.YtiofdlkdpmomlaaLnFr
import Derived.Test.YtiofdlkdpmomlaaLnMy
namespace Go.Proofs.Ytiofdlkdpmomlaa.linesMany
open Go.ChangeMaps (open_string shut_string)
open Go.ChangeShapes Go.WideShapes Go.ChangeAt Go.RowKit
set_option linter.unusedVariables false
set_option maxRecDepth 100000

theorem own : ownKnob Try.prog.godebug = none := by kernel_rfl
theorem laidOut : laidOutB Try.prog = true := by kernel_rfl
theorem walk (v0 : Value) (l0 : List UInt8) (w : World) (w0 : RdC w v0 l0.length (bcells l0)) :
    Calls Try.prog 4 #[v0] w fun e w' => e = .returned (.bool true) ∧ Below w.heap.size w w' := many_all w0

set_option maxHeartbeats 8000000 in
theorem lifted (os : Os) (started : os.Started) (H : Type) (enc : TypeId × Value → H) :
    ReturnsInHanded {} Try.checked os 4 .any (Rows.linesManySpec.pre6 enc Try.prog Try.f4 Rows.linesManyRow.domain false) (Rows.linesManySpec.post enc Try.prog Try.f4 false true false false) := by
  have e6 : (fun w args => (Rows.linesManySpec.pre enc Try.prog Try.f4 Rows.linesManyRow.domain false w args ∧ (fun (_ : World) (_ : Array Value) => True) w args) ∧ sizedMet enc Try.prog Try.f4 (OpenSpec.ofChange Rows.linesManySpec) false w args) = Rows.linesManySpec.pre6 enc Try.prog Try.f4 Rows.linesManyRow.domain false := by
    funext w args
    simp only [ChangeSpec.pre6, and_true]
  rw [← e6]
  refine returnsInHanded_of_change_and (C := Try.checked) (X := fun _ _ => True) (fun _ _ _ _ h => h) own started (by kernel_rfl) Try.func4
    (by
      obtain ⟨w, t, i, h1, h2, h3, h4, h5, h6⟩ := ChangeSpec.witness6 (enc := enc) (C := Try.checked) (os := os) (f := 4) (fn := Try.f4) (s := Rows.linesManySpec) (conds := Rows.linesManyRow.domain) (apart := false) false ⟨#[], #[.slice none 0 0], []⟩ 8 (by kernel_rfl) (by kernel_rfl) (by kernel_rfl) (by kernel_rfl)
      exact ⟨w, t, i, h1, h2, h3, h4, ⟨⟨h5.1, trivial⟩, h5.2⟩, h6⟩) ?_
  intro W base args ds gs before hval0 hW hcnd hsz _ _
  have hval : ∀ (j : Nat) t v, Try.f4.params[j]? = some t → args[j]? = some v → Value.okWide Try.prog W .any base t v := hval0
  have hW' := hW
  obtain ⟨p, q, hA0, hV, rfl, hfz, hnd⟩ := hW
  have hA : DataW.TrodAll enc Try.prog W 0 (fun _ => true) true Try.f4.params.toList args.toList ds p := hA0
  rw [Try.params4] at hA hval
  obtain ⟨v0, vs0, d0, ds0, p0, q0, hargs, rfl, rfl, h0, rst0⟩ := trodAll_cons hA
  obtain ⟨rfl, rfl, rfl⟩ := trodAll_nil rst0
  obtain rfl : args = #[v0] := by cases args; simp_all
  obtain ⟨rfl, rfl⟩ := trodVars_none hV
  clear hA0 hval0
  have k0 := h0
  have lt0 : ∀ x ∈ p0, x.block < W.heap.size := by obtain ⟨m, hm⟩ := k0; exact DataW.trod_lt m _ _ _ hm
  obtain ⟨a0, n0, c0, rfl⟩ := okWide_slice Try.underlying22 (hval 0 22 v0 rfl rfl)
  obtain ⟨l0, w0⟩ : ∃ l, RdC W (.slice a0 n0 c0) l.length (bcells l) := by
    obtain ⟨fuel, hf⟩ := h0
    obtain ⟨l, w, _⟩ := f_bytes hf (fun k hk => by
      have := List.all_eq_true.1 hsz k (DataW.weights_mem_each (j := 0) (t := 22) (by rw [Try.params4]; rfl) rfl k hk)
      simpa using this)
    exact ⟨l, w⟩
  have hwalk := walk (.slice a0 n0 c0) l0 W w0
  refine hwalk.mono fun e W' ⟨he, bel⟩ => ?_
  subst he
  exact ⟨_, rfl, _, _, _, [], _, [], hW', trodAll_mk1 (shut_bool Try.underlying4 _), (trodAll_cons_mk (Below.trod laidOut (by kernel_rfl) (of_decide_eq_true (by kernel_rfl)) k0 bel lt0) trodAll_mk0), rfl, bel.frame _, fun h => by cases h⟩

theorem over : Rows.linesManyRow.holds Try.pinned (OpenSpec.ofChange Rows.linesManySpec) :=
  OpenClaim.holds_of_wide 4 Try.f4 rfl rfl rfl rfl rfl rfl rfl ⟨rfl, rfl, rfl, rfl, rfl⟩ rfl rfl rfl rfl rfl (by kernel_rfl) Try.func4 (by kernel_rfl)
    (of_decide_eq_true (by kernel_rfl)) (by unfold Func.isWrapper; first | (rw [if_pos (by decide +kernel)]; kernel_rfl) | (rw [if_neg (by decide +kernel)]; exact ⟨rfl, rfl⟩))
    (fun os started H enc _ => lifted os started H enc)

theorem proved : Rows.LinesManySaid := over
#print axioms proved
end Go.Proofs.Ytiofdlkdpmomlaa.linesMany
