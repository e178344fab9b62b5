/-
  A byte that may not be spoils the line in which it stands, and no other one: for any lines, any byte, in which line and where.
-/
import Derived.Test.YtiofdlkdpmomlaaRows
import Derived.WalkKit
import Derived.ProofKit
import Derived.OpenShut
import Derived.ShutString
import Derived.ChangeOld
import Derived.Below
import Derived.Lib.SmallJoins
import Derived.Test.YtiofdlkdpmomlaaLnFr
import Derived.Test.YtiofdlkdpmomlaaLnBx
namespace Go.Proofs.Ytiofdlkdpmomlaa.linesBad
open Go.ChangeMaps (open_string shut_string)
open Go.ChangeShapes Go.WideShapes Go.ChangeAt Go.RowKit
set_option linter.unusedVariables false
set_option maxRecDepth 100000

theorem open_pair {H : Type} {enc : TypeId × Value → H} {W : World} {base : Nat} {v : Value} {d : DataW H} {p : List MemPlace} (ho : Value.okWide Try.prog W .any base 45 v) (h : DataW.Trod enc Try.prog W 0 (fun _ => true) true 45 v d p) :
    ∃ a b : Nat, v = .agg #[.int .u8 (a : Int), .int .u8 (b : Int)] ∧ a < 256 ∧ b < 256 := by
  obtain ⟨x, y, rfl, hx, hy⟩ : ∃ x y, v = .agg #[.int .u8 x, .int .u8 y] ∧ (Lit.int .u8 x).wf = true ∧ (Lit.int .u8 y).wf = true := by
    simp only [Value.okWide, Try.underlying45] at ho
    obtain ⟨cs, rfl, hsz, _⟩ := ho
    obtain ⟨l⟩ := cs
    match l, hsz.trans (show Try.prog.cellsOf 45 = 2 by kernel_rfl) with
    | [c0, c1], _ =>
      obtain ⟨fuel, hf⟩ := h
      obtain ⟨xs, n, _, _, _, hlen, hg⟩ := DataW.trod_array Try.underlying45 hf
      match xs, hlen with
      | [y0, y1], _ =>
        have e0 : DataW.trod enc Try.prog W 0 (fun _ => true) true n 5 [c0] = some y0 := hg 0 (by decide)
        have e1 : DataW.trod enc Try.prog W 0 (fun _ => true) true n 5 [c1] = some y1 := hg 1 (by decide)
        obtain ⟨x, hx, _, wx⟩ := DataW.trod_int Try.underlying5 e0
        obtain ⟨y, hy, _, wy⟩ := DataW.trod_int Try.underlying5 e1
        obtain rfl : c0 = .int .u8 x := by simpa using hx
        obtain rfl : c1 = .int .u8 y := by simpa using hy
        exact ⟨x, y, rfl, wx, wy⟩
  simp [Lit.wf, IntKind.min, IntKind.max, IntKind.signed, IntKind.bits] at hx hy
  refine ⟨x.toNat, y.toNat, ?_, by omega, by omega⟩
  rw [show (x.toNat : Int) = x by omega, show (y.toNat : Int) = y by omega]
theorem own : ownKnob Try.prog.godebug = none := by kernel_rfl
theorem laidOut : laidOutB Try.prog = true := by kernel_rfl
theorem walk (v0 : Value) (ls0 : List (List UInt8)) (n1 : Nat) (n2 m2 : Nat) (w : World) (w0 : RowB w v0 ls0) (w1 : n1 < 256) (w2 : n2 < 256 ∧ m2 < 256) :
    Calls Try.prog 8 #[v0, .int .u8 (n1 : Int), .agg #[.int .u8 (n2 : Int), .int .u8 (m2 : Int)]] w fun e w' => e = .returned (.bool true) ∧ Below w.heap.size w w' := bad_all w0 w1 w2

set_option maxHeartbeats 8000000 in
theorem lifted (os : Os) (started : os.Started) (H : Type) (enc : TypeId × Value → H) :
    ReturnsInHanded {} Try.checked os 8 .any (Rows.linesBadSpec.pre6 enc Try.prog Try.f8 Rows.linesBadRow.domain false) (Rows.linesBadSpec.post enc Try.prog Try.f8 false true false false) := by
  have e6 : (fun w args => (Rows.linesBadSpec.pre enc Try.prog Try.f8 Rows.linesBadRow.domain false w args ∧ (fun (_ : World) (_ : Array Value) => True) w args) ∧ sizedMet enc Try.prog Try.f8 (OpenSpec.ofChange Rows.linesBadSpec) false w args) = Rows.linesBadSpec.pre6 enc Try.prog Try.f8 Rows.linesBadRow.domain false := by
    funext w args
    simp only [ChangeSpec.pre6, and_true]
  rw [← e6]
  refine returnsInHanded_of_change_and (C := Try.checked) (X := fun _ _ => True) (fun _ _ _ _ h => h) own started (by kernel_rfl) Try.func8
    (by
      obtain ⟨w, t, i, h1, h2, h3, h4, h5, h6⟩ := ChangeSpec.witness6 (enc := enc) (C := Try.checked) (os := os) (f := 8) (fn := Try.f8) (s := Rows.linesBadSpec) (conds := Rows.linesBadRow.domain) (apart := false) false ⟨#[], #[.slice none 0 0, .int .u8 0, .agg #[.int .u8 0, .int .u8 0]], []⟩ 8 (by kernel_rfl) (by kernel_rfl) (by kernel_rfl) (by kernel_rfl)
      exact ⟨w, t, i, h1, h2, h3, h4, ⟨⟨h5.1, trivial⟩, h5.2⟩, h6⟩) ?_
  intro W base args ds gs before hval0 hW hcnd hsz _ _
  have hval : ∀ (j : Nat) t v, Try.f8.params[j]? = some t → args[j]? = some v → Value.okWide Try.prog W .any base t v := hval0
  have hW' := hW
  obtain ⟨p, q, hA0, hV, rfl, hfz, hnd⟩ := hW
  have hA : DataW.TrodAll enc Try.prog W 0 (fun _ => true) true Try.f8.params.toList args.toList ds p := hA0
  rw [Try.params8] at hA hval
  obtain ⟨v0, vs0, d0, ds0, p0, q0, hargs, rfl, rfl, h0, rst0⟩ := trodAll_cons hA
  obtain ⟨v1, vs1, d1, ds1, p1, q1, rfl, rfl, rfl, h1, rst1⟩ := trodAll_cons rst0
  obtain ⟨v2, vs2, d2, ds2, p2, q2, rfl, rfl, rfl, h2, rst2⟩ := trodAll_cons rst1
  obtain ⟨rfl, rfl, rfl⟩ := trodAll_nil rst2
  obtain rfl : args = #[v0, v1, v2] := by cases args; simp_all
  obtain ⟨rfl, rfl⟩ := trodVars_none hV
  clear hA0 hval0
  have k0 := h0
  have lt0 : ∀ x ∈ p0, x.block < W.heap.size := by obtain ⟨m, hm⟩ := k0; exact DataW.trod_lt m _ _ _ hm
  obtain ⟨a0, n0, c0, rfl⟩ := okWide_slice Try.underlying38 (hval 0 38 v0 rfl rfl)
  obtain ⟨ls0, w0⟩ : ∃ ls, RowB W (.slice a0 n0 c0) ls := by
    obtain ⟨fuel, hf⟩ := h0
    obtain ⟨a, n, c, ls, e, w⟩ := f_rows hf (fun k hk => by
      have := List.all_eq_true.1 hsz k (DataW.weights_mem_each (j := 0) (t := 38) (by rw [Try.params8]; rfl) rfl k hk)
      simpa using this)
    cases e
    exact ⟨ls, w⟩
  obtain ⟨a1, rfl, rfl, rfl, w1⟩ := open_int Try.underlying5 (hval 1 5 v1 rfl rfl) h1
  have x1 : a1.toNat < 256 ∧ (a1.toNat : Int) = a1 := by
    have hw := w1
    simp [Lit.wf, IntKind.min, IntKind.max, IntKind.signed, IntKind.bits] at hw
    omega
  have k2 := h2
  have lt2 : ∀ x ∈ p2, x.block < W.heap.size := by obtain ⟨m, hm⟩ := k2; exact DataW.trod_lt m _ _ _ hm
  obtain ⟨x2a, x2b, rfl, w2⟩ := open_pair (hval 2 45 v2 rfl rfl) h2
  have hwalk := walk (.slice a0 n0 c0) ls0 a1.toNat x2a x2b W w0 x1.1 w2
  rw [x1.2] at hwalk
  refine hwalk.mono fun e W' ⟨he, bel⟩ => ?_
  subst he
  exact ⟨_, rfl, _, _, _, [], _, [], hW', trodAll_mk1 (shut_bool Try.underlying4 _), (trodAll_cons_mk (Below.trod laidOut (by kernel_rfl) (of_decide_eq_true (by kernel_rfl)) k0 bel lt0) (trodAll_cons_mk (shut_int Try.underlying5 w1) (trodAll_cons_mk (Below.trod laidOut (by kernel_rfl) (of_decide_eq_true (by kernel_rfl)) k2 bel lt2) trodAll_mk0))), rfl, bel.frame _, fun h => by cases h⟩

theorem over : Rows.linesBadRow.holds Try.pinned (OpenSpec.ofChange Rows.linesBadSpec) :=
  OpenClaim.holds_of_wide 8 Try.f8 rfl rfl rfl rfl rfl rfl rfl ⟨rfl, rfl, rfl, rfl, rfl⟩ rfl rfl rfl rfl rfl (by kernel_rfl) Try.func8 (by kernel_rfl)
    (of_decide_eq_true (by kernel_rfl)) (by unfold Func.isWrapper; first | (rw [if_pos (by decide +kernel)]; kernel_rfl) | (rw [if_neg (by decide +kernel)]; exact ⟨rfl, rfl⟩))
    (fun os started H enc _ => lifted os started H enc)

theorem proved : Rows.LinesBadSaid := over
#print axioms proved
end Go.Proofs.Ytiofdlkdpmomlaa.linesBad
