/- Ledgers: a map of pointers by places. -/
import Derived.Test.YtegfjndlkjfepaaLgFr
import Derived.Maps.OwnSet
import Derived.Maps.RangeWalk
import Derived.Deep.LoopGhost
import Derived.IntWalk
import Derived.Laws.Strings
import Derived.Deep.QuietTactic
namespace Go.Proofs.Ytegfjndlkjfepaa
open Go Go.Proofs Go.RowKit Go.Shelf
open Go.Maps (Keyed int_keyed keyOf_int_mk)
set_option linter.unusedVariables false

/-- a pointer as an element is the number of its block -/
def pR (v : Value) : Option (DataW Unit × List MemPlace) :=
  match v with
  | .pointer none => some (.nil, [])
  | .pointer (some ⟨b, 0, none⟩) => some (.lit (.int .i64 (b : Int)), [])
  | _ => none
theorem pR_nil : pR (.pointer none) = some (.nil, []) := rfl
theorem pR_mk (b : Nat) : pR (.pointer (some ⟨b, 0, none⟩)) = some (.lit (.int .i64 (b : Int)), []) := rfl
theorem pR_inv {v : Value} {y : DataW Unit × List MemPlace} (h : pR v = some y) : (v = .pointer none ∧ y = (.nil, [])) ∨ ∃ b : Nat, v = .pointer (some ⟨b, 0, none⟩) ∧ y = (.lit (.int .i64 (b : Int)), []) := by
  unfold pR at h
  split at h
  · cases h; exact .inl ⟨rfl, rfl⟩
  · cases h; exact .inr ⟨_, rfl, rfl⟩
  · cases h
theorem pR_at {v : Value} {b : Nat} {ps : List MemPlace} (h : pR v = some (.lit (.int .i64 (b : Int)), ps)) : v = .pointer (some ⟨b, 0, none⟩) := by
  rcases pR_inv h with ⟨_, e⟩ | ⟨c, rfl, e⟩
  · cases e
  · simp only [Prod.mk.injEq, DataW.lit.injEq, Lit.int.injEq] at e
    have : b = c := by omega
    rw [this]
theorem pR_none {v : Value} {ps : List MemPlace} (h : pR v = some (.nil, ps)) : v = .pointer none := by
  rcases pR_inv h with ⟨rfl, _⟩ | ⟨c, rfl, e⟩
  · rfl
  · cases e
theorem lawP : Keyed Try.prog 3 := int_keyed Try.underlying3
theorem keyP {x : Int} (h : (Lit.int .i64 x).wf = true) : keyOf Try.prog 3 (.int .i64 x) = some (.int .i64 x) := keyOf_int_mk Try.underlying3 h
theorem zeroP (w : World) : (zeroValue 61).run Try.prog w = .ok (.pointer none) w := by kernel_rfl
theorem i64_ne {a b : Int} (h : a ≠ b) : Lit.int .i64 a ≠ Lit.int .i64 b := fun e => by cases e; exact h rfl
theorem isK (x : Int) : WideAt.IsKeyLit (.int .i64 x) := by trivial
/-- what a map of the first n places says: at place i the block bl i -/
def PD (D : DataW Unit) (n : Nat) (bl : Nat → Nat) : Prop :=
  Maps.size D = n ∧ (∀ x : Int, Maps.has D (.int .i64 x) = decide (0 ≤ x ∧ x < n)) ∧ ∀ (i : Nat) (z : DataW Unit), i < n → D.atKey (.int .i64 (i : Int)) z = .lit (.int .i64 (bl i : Int))
theorem PD.empty (bl : Nat → Nat) : PD (.map []) 0 bl := by
  refine ⟨rfl, fun x => ?_, fun i z h => by omega⟩
  have : ¬ (0 ≤ x ∧ x < ((0 : Nat) : Int)) := by omega
  rw [decide_eq_false this]; rfl
theorem PD.put {D : DataW Unit} {n : Nat} {bl : Nat → Nat} (h : PD D n bl) (hD : Maps.Tidy D) {b : Nat} : PD (D.put (.int .i64 (n : Int)) (.lit (.int .i64 (b : Int)))) (n + 1) (fun i => if i = n then b else bl i) := by
  obtain ⟨h1, h2, h3⟩ := h
  refine ⟨?_, fun x => ?_, fun i z hi => ?_⟩
  · rw [Maps.size_put hD, h2, decide_eq_false (by omega : ¬ (0 ≤ (n : Int) ∧ (n : Int) < n)), h1]; rfl
  · by_cases hx : x = (n : Int)
    · subst hx
      rw [Maps.has_put_same hD.isMap (isK _)]
      exact (decide_eq_true (by omega)).symm
    · rw [Maps.has_put_other (i64_ne hx), h2]
      apply decide_eq_decide.2
      omega
  · by_cases hx : i = n
    · subst hx
      rw [Maps.atKey_put_same hD.isMap (isK _)]
      exact congrArg (fun z : Nat => DataW.lit (.int .i64 (z : Int))) (if_pos rfl).symm
    · rw [Maps.atKey_put_other (i64_ne (by omega)), h3 i z (by omega)]
      exact congrArg (fun z : Nat => DataW.lit (.int .i64 (z : Int))) (if_neg hx).symm
theorem PD.congr {D : DataW Unit} {n : Nat} {bl bl' : Nat → Nat} (h : PD D n bl) (e : ∀ i, i < n → bl' i = bl i) : PD D n bl' := ⟨h.1, h.2.1, fun i z hi => by rw [h.2.2 i z hi, e i hi]⟩
/-- the map in memory -/
def PMap (W : World) (M n : Nat) (bl : Nat → Nat) : Prop := ∃ c D, c ≤ 1000 ∧ W.ownsMap Try.prog 3 pR M c D ∧ PD D n bl
section
variable {W W' : World} {M n : Nat} {bl : Nat → Nat}
theorem PMap.lt (h : PMap W M n bl) : M < W.heap.size := by obtain ⟨c, D, _, h, _⟩ := h; exact h.lt
theorem PMap.stay (h : PMap W M n bl) (e : W'.heap[M]? = W.heap[M]?) : PMap W' M n bl := by
  obtain ⟨c, D, hc, ⟨es, clock, hb, F, hs, hD⟩, hp⟩ := h
  exact ⟨c, D, hc, ⟨es, clock, e.trans hb, F, hs, hD⟩, hp⟩
theorem pm_look_yes (h : PMap W M n bl) {x : Int} (hx : 0 ≤ x ∧ x < n) (hw : (Lit.int .i64 x).wf = true) : (Instr.lookup 55 (.map (some M)) (.int .i64 x) true).run Try.prog W = .ok (.tuple #[.pointer (some ⟨bl x.toNat, 0, none⟩), .bool true]) W := by
  obtain ⟨c, D, _, ho, h1, h2, h3⟩ := h
  obtain ⟨v, ps, hr, hv⟩ := ho.look_ok lawP Try.underlying55 (zeroP W) pR_nil (keyP hw)
  obtain ⟨i, rfl⟩ : ∃ i : Nat, x = (i : Int) := ⟨x.toNat, by omega⟩
  rw [h3 i _ (by omega)] at hv
  rw [h2, decide_eq_true hx, pR_at hv] at hr
  exact hr
theorem pm_look_no (h : PMap W M n bl) {x : Int} (hx : ¬ (0 ≤ x ∧ x < n)) (hw : (Lit.int .i64 x).wf = true) : (Instr.lookup 55 (.map (some M)) (.int .i64 x) true).run Try.prog W = .ok (.tuple #[.pointer none, .bool false]) W := by
  obtain ⟨c, D, _, ho, h1, h2, h3⟩ := h
  obtain ⟨v, ps, hr, hv⟩ := ho.look_ok lawP Try.underlying55 (zeroP W) pR_nil (keyP hw)
  have hh : Maps.has D (.int .i64 x) = false := by rw [h2, decide_eq_false hx]
  rw [Maps.atKey_of_not_has hh] at hv
  rw [hh, pR_none hv] at hr
  exact hr
theorem pm_len (h : PMap W M n bl) (ty : TypeId) : (Builtin.len_ #[55] ty #[.map (some M)]).run Try.prog W = .ok (.int .i64 (n : Int)) W := by
  obtain ⟨c, D, _, ho, h1, _⟩ := h
  rw [← h1]
  exact ho.len Try.underlying55 ty
end
end Go.Proofs.Ytegfjndlkjfepaa
