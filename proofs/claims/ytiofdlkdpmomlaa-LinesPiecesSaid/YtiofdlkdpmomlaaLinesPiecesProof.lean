/-
  However bytes come in pieces, the lines are the same, and what is left: for any bytes and any places where they are parted.
-/
import Derived.Test.YtiofdlkdpmomlaaRows
import Derived.WalkKit
import Derived.ProofKit
import Derived.OpenShut
import Derived.ShutString
import Derived.ChangeOld
import Derived.Below
import Derived.Lib.SmallJoins
import Derived.Test.YtiofdlkdpmomlaaLnFr
import Derived.Test.YtiofdlkdpmomlaaLnPc
namespace Go.Proofs.Ytiofdlkdpmomlaa.linesPieces
open Go.ChangeMaps (open_string shut_string)
open Go.ChangeShapes Go.WideShapes Go.ChangeAt Go.RowKit
set_option linter.unusedVariables false
set_option maxRecDepth 100000

theorem f_u16s {H : Type} {enc : TypeId × Value → H} {W : World} {n : Nat} {c : Value} {y : DataW H × List MemPlace} (h : DataW.trod enc Try.prog W 0 (fun _ => true) true n 23 [c] = some y) (_hw : ∀ k ∈ y.1.weights Try.prog 23, k ≤ reachBytes) :
    ∃ l : List UInt16, RdC W c l.length (ncells l) ∧ True := by
  rcases open_ints Try.underlying23 Try.underlying32 (by kernel_rfl) h with ⟨hcs, _⟩ | ⟨x, len, cap, zs, hcs, _, hl, hm, hz, hx, hcell, hwz⟩
  · obtain rfl : c = .slice none 0 0 := by simpa using hcs
    exact ⟨[], ⟨none, 0, rfl, Nat.le_refl _, fun h => by simp at h⟩, trivial⟩
  · obtain rfl : c = .slice (some x) len cap := by simpa using hcs
    have hz' : zs.length = cap := by simpa using hz
    have hlen : ((zs.take len).map fun z => UInt16.ofNat z.toNat).length = len := by rw [List.length_map, List.length_take]; omega
    refine ⟨(zs.take len).map fun z => UInt16.ofNat z.toNat, ⟨some x, cap, by rw [hlen], by rw [hlen]; exact hl, fun h0 => ?_⟩, trivial⟩
    rw [hlen] at h0
    have h1 := hcell 0 (by omega)
    rw [add_zero] at h1
    obtain ⟨hs, hb⟩ := cell_spot h1
    obtain ⟨b, off, spot⟩ := x
    obtain rfl : spot = none := hs
    refine ⟨b, off, rfl, hb, fun j u hu => ?_⟩
    unfold ncells at hu
    rw [List.getElem?_map, List.getElem?_map, List.getElem?_take] at hu
    by_cases hj : j < len
    · rw [if_pos hj, List.getElem?_eq_getElem (show j < zs.length by omega)] at hu
      simp only [Option.map_some, Option.some.injEq] at hu
      have e := hcell j (by omega)
      have hwf := hwz zs[j] (List.getElem_mem (by omega))
      simp [Lit.wf, IntKind.min, IntKind.max, IntKind.signed, IntKind.bits] at hwf
      rw [← Go.WideShapes.add_plain, e, ← hu]
      simp only [List.getD_eq_getElem?_getD, List.getElem?_eq_getElem (show j < zs.length by omega), Option.getD_some]
      congr 2
      rw [UInt16.toNat_ofNat']
      omega
    · rw [if_neg hj] at hu; cases hu
theorem own : ownKnob Try.prog.godebug = none := by kernel_rfl
theorem laidOut : laidOutB Try.prog = true := by kernel_rfl
theorem walk (v0 : Value) (l0 : List UInt8) (v1 : Value) (l1 : List UInt16) (w : World) (w0 : RdC w v0 l0.length (bcells l0)) (w1 : RdC w v1 l1.length (ncells l1)) :
    Calls Try.prog 3 #[v0, v1] w fun e w' => e = .returned (.bool true) ∧ Below w.heap.size w w' := pieces_all w0 w1

set_option maxHeartbeats 8000000 in
theorem lifted (os : Os) (started : os.Started) (H : Type) (enc : TypeId × Value → H) :
    ReturnsInHanded {} Try.checked os 3 .any (Rows.linesPiecesSpec.pre6 enc Try.prog Try.f3 Rows.linesPiecesRow.domain false) (Rows.linesPiecesSpec.post enc Try.prog Try.f3 false true false false) := by
  have e6 : (fun w args => (Rows.linesPiecesSpec.pre enc Try.prog Try.f3 Rows.linesPiecesRow.domain false w args ∧ (fun (_ : World) (_ : Array Value) => True) w args) ∧ sizedMet enc Try.prog Try.f3 (OpenSpec.ofChange Rows.linesPiecesSpec) false w args) = Rows.linesPiecesSpec.pre6 enc Try.prog Try.f3 Rows.linesPiecesRow.domain false := by
    funext w args
    simp only [ChangeSpec.pre6, and_true]
  rw [← e6]
  refine returnsInHanded_of_change_and (C := Try.checked) (X := fun _ _ => True) (fun _ _ _ _ h => h) own started (by kernel_rfl) Try.func3
    (by
      obtain ⟨w, t, i, h1, h2, h3, h4, h5, h6⟩ := ChangeSpec.witness6 (enc := enc) (C := Try.checked) (os := os) (f := 3) (fn := Try.f3) (s := Rows.linesPiecesSpec) (conds := Rows.linesPiecesRow.domain) (apart := false) false ⟨#[], #[.slice none 0 0, .slice none 0 0], []⟩ 8 (by kernel_rfl) (by kernel_rfl) (by kernel_rfl) (by kernel_rfl)
      exact ⟨w, t, i, h1, h2, h3, h4, ⟨⟨h5.1, trivial⟩, h5.2⟩, h6⟩) ?_
  intro W base args ds gs before hval0 hW hcnd hsz _ _
  have hval : ∀ (j : Nat) t v, Try.f3.params[j]? = some t → args[j]? = some v → Value.okWide Try.prog W .any base t v := hval0
  have hW' := hW
  obtain ⟨p, q, hA0, hV, rfl, hfz, hnd⟩ := hW
  have hA : DataW.TrodAll enc Try.prog W 0 (fun _ => true) true Try.f3.params.toList args.toList ds p := hA0
  rw [Try.params3] at hA hval
  obtain ⟨v0, vs0, d0, ds0, p0, q0, hargs, rfl, rfl, h0, rst0⟩ := trodAll_cons hA
  obtain ⟨v1, vs1, d1, ds1, p1, q1, rfl, rfl, rfl, h1, rst1⟩ := trodAll_cons rst0
  obtain ⟨rfl, rfl, rfl⟩ := trodAll_nil rst1
  obtain rfl : args = #[v0, v1] := by cases args; simp_all
  obtain ⟨rfl, rfl⟩ := trodVars_none hV
  clear hA0 hval0
  have k0 := h0
  have lt0 : ∀ x ∈ p0, x.block < W.heap.size := by obtain ⟨m, hm⟩ := k0; exact DataW.trod_lt m _ _ _ hm
  obtain ⟨a0, n0, c0, rfl⟩ := okWide_slice Try.underlying22 (hval 0 22 v0 rfl rfl)
  obtain ⟨l0, w0⟩ : ∃ l, RdC W (.slice a0 n0 c0) l.length (bcells l) := by
    obtain ⟨fuel, hf⟩ := h0
    obtain ⟨l, w, _⟩ := f_bytes hf (fun k hk => by
      have := List.all_eq_true.1 hsz k (DataW.weights_mem_each (j := 0) (t := 22) (by rw [Try.params3]; rfl) rfl k hk)
      simpa using this)
    exact ⟨l, w⟩
  have k1 := h1
  have lt1 : ∀ x ∈ p1, x.block < W.heap.size := by obtain ⟨m, hm⟩ := k1; exact DataW.trod_lt m _ _ _ hm
  obtain ⟨a1, n1, c1, rfl⟩ := okWide_slice Try.underlying23 (hval 1 23 v1 rfl rfl)
  obtain ⟨l1, w1⟩ : ∃ l, RdC W (.slice a1 n1 c1) l.length (ncells l) := by
    obtain ⟨fuel, hf⟩ := h1
    obtain ⟨l, w, _⟩ := f_u16s hf (fun k hk => by
      have := List.all_eq_true.1 hsz k (DataW.weights_mem_each (j := 1) (t := 23) (by rw [Try.params3]; rfl) rfl k hk)
      simpa using this)
    exact ⟨l, w⟩
  have hwalk := walk (.slice a0 n0 c0) l0 (.slice a1 n1 c1) l1 W w0 w1
  refine hwalk.mono fun e W' ⟨he, bel⟩ => ?_
  subst he
  exact ⟨_, rfl, _, _, _, [], _, [], hW', trodAll_mk1 (shut_bool Try.underlying4 _), (trodAll_cons_mk (Below.trod laidOut (by kernel_rfl) (of_decide_eq_true (by kernel_rfl)) k0 bel lt0) (trodAll_cons_mk (Below.trod laidOut (by kernel_rfl) (of_decide_eq_true (by kernel_rfl)) k1 bel lt1) trodAll_mk0)), rfl, bel.frame _, fun h => by cases h⟩

theorem over : Rows.linesPiecesRow.holds Try.pinned (OpenSpec.ofChange Rows.linesPiecesSpec) :=
  OpenClaim.holds_of_wide 3 Try.f3 rfl rfl rfl rfl rfl rfl rfl ⟨rfl, rfl, rfl, rfl, rfl⟩ rfl rfl rfl rfl rfl (by kernel_rfl) Try.func3 (by kernel_rfl)
    (of_decide_eq_true (by kernel_rfl)) (by unfold Func.isWrapper; first | (rw [if_pos (by decide +kernel)]; kernel_rfl) | (rw [if_neg (by decide +kernel)]; exact ⟨rfl, rfl⟩))
    (fun os started H enc _ => lifted os started H enc)

theorem proved : Rows.LinesPiecesSaid := over
#print axioms proved
end Go.Proofs.Ytiofdlkdpmomlaa.linesPieces
