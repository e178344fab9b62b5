/- NatsPairs: the walk. The document's answer: a number divided by one part, by hand. Bits moved up and down; what the heads of two numbers are. Bits moved down, as the program does it, in place. The document's answer: bits moved down, by hand. The document's answer: bits moved up, by hand: the mathematics, and the walk. Of division: a guess by the highest parts. How often a number goes into one of one part more: a guess by the highest parts. A number taken out of one of one part more, as often as it goes in. The document's answer: how often, guessed by the highest parts, by hand. The document's answer: a number so many times taken off parts, and given back, by hand: the mathematics, and the walks. The document's answer: how often a number goes into another one, of many parts, by hand. The document's answer: a number of 64 bits, by hand, and as one; a text's number. The document's answer: how often a number goes into another one, of any two, and the greatest by which both can be divided. The bits of 0 ahead of a part. The heads of two numbers. Lehmer's way: what some divisions, one behind the other, make of two numbers, told by their heads. -/
import Derived.Test.YtlfanbjpfoaipaaGreatDoorGGreatP
import Derived.Test.YtlfanbjpfoaipaaGreatDoorGPart
import Derived.Test.YtlfanbjpfoaipaaGreatDoorGLoop
import Derived.Test.YtlfanbjpfoaipaaGreatDoorGCmp
import Derived.Test.YtlfanbjpfoaipaaGreatDoorGSubT
import Derived.Test.YtlfanbjpfoaipaaGreatDoorLay
namespace Go.Proofs.YtlfanbjpfoaipaaGreatDoor
open Go Go.Proofs Go.RowKit Go.Shelf Nu

attribute [local go_sem] Oper.semAt_some

/-- what a difference is, or whether it is refused -/
def subOk (A B : List Nat) : Prop := chk A = true ∧ chk B = true ∧ val B ≤ val A
instance (A B : List Nat) : Decidable (subOk A B) := inferInstanceAs (Decidable (_ ∧ _))
def subL (A B : List Nat) : List Nat := if subOk A B then digs (val A - val B) else []
def subE (A B : List Nat) : Int := if subOk A B then 0 else 1
theorem nsub_own {w : World} {va vb : Value} {A B : List Nat} (hA : Reads w va A) (hB : Reads w vb B) (hlA : A.length ≤ 100000) (hlB : B.length ≤ 100000) (hSA : Sm A) (hSB : Sm B) :
    Calls Tryz.prog 227 #[va, vb] w fun e w' => ∃ v, e = .returned (.tuple #[v, .int .i64 (subE A B)]) ∧ Fresh w' w.heap.size v (subL A B) ∧ Below w.heap.size w w' := by
  unfold subE subL
  by_cases h : subOk A B
  · rw [if_pos h, if_pos h]
    exact sub_any hA hB hlA hlB hSA hSB h.1 h.2.1 h.2.2
  · rw [if_neg h, if_neg h]
    refine (sub_bad hA hB hlA hlB hSA hSB ?_).mono ?_
    · unfold subOk at h
      cases h1 : chk A with
      | false => exact .inl rfl
      | true =>
        cases h2 : chk B with
        | false => exact .inr (.inl rfl)
        | true => exact .inr (.inr (Nat.lt_of_not_le fun h3 => h ⟨h1, h2, h3⟩))
    · rintro e w' ⟨rfl, q⟩
      exact ⟨_, rfl, Fresh.nil _ _, q⟩
theorem rsub_own {w : World} {va vb : Value} {A B : List Nat} (hA : Reads w va A) (hB : Reads w vb B) (hlA : A.length ≤ 100000) (hlB : B.length ≤ 100000) (hSA : Sm A) (hSB : Sm B) :
    Calls Tryz.prog 192 #[va, vb] w fun e w' => ∃ v, e = .returned (.tuple #[v, .int .i64 (subE A B)]) ∧ Reads w' v (subL A B) ∧ Below w.heap.size w w' := rsub_any hA hB hlA hlB hSA hSB
theorem subL_len {A B : List Nat} (h : Sm A) : (subL A B).length ≤ A.length := by
  unfold subL
  split
  · have h1 : val A - val B < 4294967296 ^ A.length := Nat.lt_of_le_of_lt (Nat.sub_le _ _) (val_lt h)
    exact digs_length_le h1
  · simp
theorem same_lists {w : World} {v u : Value} {l : List Nat} (h1 : Reads w v l) (h2 : Reads w u l) (hl : l.length ≤ 100000) :
    Calls Tryz.prog 11 #[v, u] w fun e w' => e = .returned (.bool true) ∧ Below w.heap.size w w' := by
  refine (sameNat_any h1 h2 (by omega) (by omega)).mono ?_
  rintro e w' ⟨rfl, n, rfl⟩
  exact ⟨by simp, ⟨rfl, rfl, rfl, Nat.le_refl _, fun k hk => rfl⟩⟩
theorem bk_nat {W : World} {B n : Nat} {hv : Value} {es : List (Value × Nat)} {a : Option Addr} {l c : Nat} (h : BookAt W B n hv) (hr : HRow W (B + 1) hv es) (hn : n ≤ 100000) (hl : es.length ≤ 100000) :
    Calls Tryz.prog 14 #[.pointer (some ⟨B, 0, none⟩), .slice a l c] W fun e w' => e = .returned (.tuple #[]) ∧ ∃ hv', BookAt w' B (n + 1) hv' ∧ HRow w' (B + 1) hv' (es ++ [(.slice a l c, n + 1)]) ∧ Below B W w' := by
  have k := bk_keep (a := a) (l := l) (c := c) h hr hn hl
  clear h hr hn hl
  go_enter Tryz.func14, Tryz.ntmps14
  go_wp2_with (go_at_call 73; refine k.mono ?_; clear k; rintro e w' ⟨rfl, q⟩)
  go_end0
  exact ⟨rfl, q⟩
theorem below_to {base : Nat} {w a b : World} (h : Below base w a) (k : Below a.heap.size a b) (hb : base ≤ a.heap.size) : Below base w b := h.trans (k.mono hb)
/-- a slice of the call's own, made between two worlds -/
def Mine (b0 b1 b2 : Nat) (W : World) (v : Value) (l : List Nat) : Prop := Fresh W b0 v l ∧ ∀ g, v.ownBlock = some g → b1 ≤ g ∧ g < b2
theorem Mine.of {b0 : Nat} {w W : World} {v : Value} {l : List Nat} (h : Fresh W w.heap.size v l) (hb : b0 ≤ w.heap.size) : Mine b0 w.heap.size W.heap.size W v l := ⟨h.mono hb, fun _ e => h.lt' e⟩
theorem Mine.below {b0 b1 b2 N : Nat} {W W' : World} {v : Value} {l : List Nat} (h : Mine b0 b1 b2 W v l) (hb : Below N W W') (hN : W.heap.size ≤ N) : Mine b0 b1 b2 W' v l := ⟨h.1.below (hb.mono hN), h.2⟩
theorem Mine.apart {b0 b1 b2 c1 c2 : Nat} {W W' : World} {v u : Value} {l m : List Nat} (h : Mine b0 b1 b2 W v l) (k : Mine b0 c1 c2 W' u m) (hb : b2 ≤ c1) : v.ownBlock = none ∨ v.ownBlock ≠ u.ownBlock := by
  cases e : v.ownBlock with
  | none => exact .inl rfl
  | some g =>
    refine .inr (fun e2 => ?_)
    have h1 := h.2 g e
    have h2 := k.2 g e2.symm
    omega
theorem Mine.row {b0 b1 b2 B : Nat} {W : World} {v : Value} {l : List Nat} (h : Mine b0 b1 b2 W v l) (hl : l.length ≤ 100000) (hb : b2 ≤ B) : ∃ l : List Nat, l.length ≤ 100000 ∧ Fresh W b0 v l ∧ ∀ g, v.ownBlock = some g → g < B :=
  ⟨l, hl, h.1, fun g e => Nat.lt_of_lt_of_le (h.2 g e).2 hb⟩

end Go.Proofs.YtlfanbjpfoaipaaGreatDoor

namespace Go.Proofs.YtlfanbjpfoaipaaGreatDoor
open Go Go.Proofs Go.RowKit Go.Shelf Nu

attribute [local go_sem] Oper.semAt_some

theorem getD_of_take {l A : List Nat} {g p : Nat} (h : l.take g = A.take g) (hp : p < g) : l.getD p 0 = A.getD p 0 := by
  have e := congrArg (fun t => t.getD p 0) h
  simp only [List.getD_eq_getElem?_getD, List.getElem?_take] at e
  rw [if_pos hp, if_pos hp, ← List.getD_eq_getElem?_getD, ← List.getD_eq_getElem?_getD] at e
  exact e
theorem drop_at {l : List Nat} {p : Nat} (h : p < l.length) : l.drop p = l.getD p 0 :: l.drop (p + 1) := by
  rw [List.drop_eq_getElem_cons h, List.getD_eq_getElem?_getD, List.getElem?_eq_getElem h]; rfl
theorem small_step {A l : List Nat} {p t q x m' q' r' : Nat} (hA : p < A.length) (hl : p < l.length) (hx : x = A.getD p 0) (hv : val (A.drop (p + 1)) = t * val (l.drop (p + 1)) + q) (e1 : m' = q * 4294967296 + x) (e2 : m' = t * q' + r') :
    val (A.drop p) = t * val ((l.set p q').drop p) + r' := by
  rw [drop_at hA, ← hx, drop_at (l := l.set p q') (by simpa using hl), set_drop, val, val, hv]
  have : (l.set p q').getD p 0 = q' := by rw [List.getD_eq_getElem?_getD, List.getElem?_eq_getElem (by simpa using hl)]; simp
  rw [this]
  generalize val (l.drop (p + 1)) = Z
  grind
theorem small_take {A l : List Nat} {p q' : Nat} (h : l.take (p + 1) = A.take (p + 1)) : (l.set p q').take p = A.take p := by
  rw [List.take_set, List.set_eq_of_length_le (by rw [List.length_take]; omega)]
  have := congrArg (List.take p) h
  simpa [List.take_take] using this

set_option maxRecDepth 100000 in
set_option maxHeartbeats 4000000 in
theorem rsmall_any {w : World} {va : Value} {A : List Nat} {t : Nat} (hA : Reads w va A) (hlA : A.length ≤ 100000) (hSA : Sm A) (ht0 : 0 < t) (ht : t < 4294967296) :
    Calls Tryz.prog 64 #[va, .int .u32 t] w fun e w' => ∃ v, e = .returned (.tuple #[v, .int .u32 (val A % t : Nat)]) ∧ Reads w' v (digs (val A / t)) ∧ Below w.heap.size w w' := by
  have kT := rtwin_any hA hlA
  have SA := Lib.hid hSA
  obtain ⟨a1, c1, rfl⟩ := hA.form
  obtain ⟨m, hm⟩ : ∃ m, m = A.length := ⟨_, rfl⟩
  have HM := Lib.hid hm
  rw [← hm] at hlA kT
  rw [← hm]
  have u1 := w64_of t (by omega)
  have u4 : ¬ (t : Int) = 0 := by omega
  have u5 : ¬ t = 0 := by omega
  clear hA hSA hm
  go_enter Tryz.func64, Tryz.ntmps64
  go_wp2_with (go_at_call 63; refine kT.mono ?_; clear kT; rintro e w1 ⟨u, rfl, fu, hb1⟩; obtain ⟨au, cu, eu⟩ := fu.reads.form; rw [← HM.out] at eu; subst eu)
  go_loopg [7, 8] m (fun g sn si wr => ∃ (z : Int) (q : Nat) (l : List Nat), si = .int .i64 z ∧ z = (g : Int) - 1 ∧ g ≤ m ∧ sn = .int .u64 (q : Int) ∧ q < t ∧ l.length = m ∧ Hid (Fresh wr w.heap.size (.slice au m cu) l) ∧ Hid (Sm l ∧ l.take g = A.take g ∧ val (A.drop g) = t * val (l.drop g) + q) ∧ Hid (Below w.heap.size w wr))
  case atStart => exact ⟨_, 0, A, rfl, rfl, Nat.le_refl _, rfl, ht0, HM.out.symm, Lib.hid fu, Lib.hid ⟨SA.out, rfl, by rw [HM.out, List.drop_length]; simp [val]⟩, Lib.hid hb1⟩
  case round =>
    obtain ⟨z, q, l, rfl, hz, hg, rfl, hq, hl, HF, HV, HB⟩ := hrel
    have HL := Lib.hid hl
    by_cases hg0 : gk = 0
    · have hz1 : z = -1 := by omega
      subst hz1
      have hv : val A = t * val l + q := by
        have h := HV.out.2.2
        rw [hg0, List.drop_zero, List.drop_zero] at h
        exact h
      have e1 : val l = val A / t := by rw [hv, Nat.add_comm, Nat.add_mul_div_left _ _ ht0, Nat.div_eq_of_lt hq]; omega
      have e2 : q = val A % t := by rw [hv, Nat.add_comm, Nat.add_mul_mod_self_left, Nat.mod_eq_of_lt hq]
      have kt := rtrim_any HF.out.reads (by omega)
      rw [cut_eq HV.out.1, e1] at kt
      have KT := Lib.hid kt
      have E2 := Lib.hid e2
      have u2 := w32_of q (by omega)
      clear hz hv e1 e2 hl kt
      go_wp2_with fail
      go_at_call 67
      refine KT.out.mono ?_
      rintro e w' ⟨⟨u, rfl, hu⟩, rfl⟩
      have HU := Lib.hid hu
      clear hu
      go_wp2_with fail
      go_ret2
      rw [← E2.out]
      exact ⟨u, by simp, HU.out, HB.out⟩
    · obtain ⟨p, hp⟩ : ∃ p : Nat, z = (p : Int) := ⟨gk - 1, by omega⟩
      subst hp
      have hgp : gk = p + 1 := by omega
      have hpm : p < m := by omega
      obtain ⟨g, rfl⟩ : ∃ g, au = some ⟨g, 0, none⟩ := by
        rcases HF.out.form with ⟨e, _⟩ | ⟨g, c, e, _⟩
        · simp only [Value.slice.injEq] at e; omega
        · simp only [Value.slice.injEq] at e; exact ⟨g, e.1⟩
      have hF0 := HF.out
      have hfr : wr.frozen? ⟨g, p, none⟩ = false := by
        unfold Fresh at hF0
        rw [hl] at hF0
        exact World.ownsRow.frozenAt hF0 p
      obtain ⟨x, hx⟩ : ∃ x, x = A.getD p 0 := ⟨_, rfl⟩
      have hxb : x < 4294967296 := by rw [hx]; exact SA.out.getD p
      have hxl : l.getD p 0 = x := by rw [hx]; exact getD_of_take HV.out.2.1 (by omega)
      have hc : wr.cell? ⟨g, p, none⟩ = some (.int .u32 (x : Int)) := by
        rcases HF.out.form with ⟨e, _⟩ | ⟨g', c, e, _, _, hn', hcc⟩
        · cases e
        · simp only [Value.slice.injEq, Option.some.injEq, Addr.mk.injEq, and_true] at e
          obtain ⟨rfl, _⟩ := e
          have := hcc p (by omega)
          rwa [Nat.zero_add, hxl] at this
      obtain ⟨m', q', r', e1, e2, e3, hor, hdiv, hmod, hq', hr', hmq, hmb⟩ := part_facts hq ht hxb
      have hP := (HF.out.put hl.symm p q').1
      have hgw : w.heap.size ≤ g := (HF.out.lt' (g := g) rfl).1
      have hst := small_step (A := A) (l := l) (by rw [← HM.out]; exact hpm) (by omega) hx (by have h := HV.out.2.2; rw [hgp] at h; exact h) e1 hmq
      have htk := small_take (A := A) (l := l) (p := p) (q' := q') (by have h := HV.out.2.1; rw [hgp] at h; exact h)
      have fin : ∃ (z : Int) (q : Nat) (l : List Nat), Value.int .i64 ((p : Int) - 1) = .int .i64 z ∧ z = (p : Int) - 1 ∧ p ≤ m ∧ Value.int .u64 (r' : Int) = .int .u64 (q : Int) ∧ q < t ∧ l.length = m ∧ Hid (Fresh (wr.setCell ⟨g, p, none⟩ (.int .u32 (q' : Int))) w.heap.size (.slice (some ⟨g, 0, none⟩) m cu) l) ∧ Hid (Sm l ∧ l.take p = A.take p ∧ val (A.drop p) = t * val (l.drop p) + q) ∧ Hid (Below w.heap.size w (wr.setCell ⟨g, p, none⟩ (.int .u32 (q' : Int)))) :=
        ⟨_, r', l.set p q', rfl, rfl, by omega, rfl, hr', by rw [List.length_set, hl], Lib.hid hP, Lib.hid ⟨HV.out.1.set p _ hq', htk, hst⟩, Lib.hid (HB.out.setCell (p := ⟨g, p, none⟩) hgw _)⟩
      have FIN := Lib.hid fin
      have HG := Lib.hid hgp
      have u2 := w64_of q' (by omega)
      have u3 := w32_of q' hq'
      clear hF0 hx hxl hP hst htk fin e1 e2 e3 hmq hz hgp hg0 HB HF hl
      go_wp2
      go_roundg p
      case measure => have := HG.out; omega
      case rel => rw [hmod]; exact FIN.out

end Go.Proofs.YtlfanbjpfoaipaaGreatDoor

namespace Go.Proofs.YtlfanbjpfoaipaaGreatDoor.Nu

theorem pow32 {s : Nat} (h : s ≤ 32) : 2 ^ s * 2 ^ (32 - s) = 4294967296 := by
  rw [← Nat.pow_add, Nat.add_sub_cancel' h]
theorem two_pos (s : Nat) : 0 < 2 ^ s := Nat.pow_pos (by decide)
theorem pow31 {s : Nat} (h : s ≤ 31) : 2 ^ s ≤ 2147483648 := Nat.le_trans (Nat.pow_le_pow_right (by decide) h) (by decide)

/-- one part more of a number moved up -/
theorem up_step {la out : List Nat} {k c S : Nat} (hk : out.length = k) (h : val out + 4294967296 ^ k * c = val (la.take k) * S) :
    val (out ++ [(c + la.getD k 0 * S) % 4294967296]) + 4294967296 ^ (k + 1) * ((c + la.getD k 0 * S) / 4294967296) = val (la.take (k + 1)) * S := by
  rw [val_snoc, val_take_succ, hk, Nat.pow_succ]
  have := ring_add _ _ c (la.getD k 0 * S) _ _ ((c + la.getD k 0 * S) % 4294967296) ((c + la.getD k 0 * S) / 4294967296) h rfl (by omega)
  rw [this, Nat.add_mul, Nat.mul_assoc]
theorem up_bound {c x S : Nat} (hc : c < S) (hx : x < 4294967296) (hS : S ≤ 2147483648) : c + x * S < 9223372036854775808 ∧ (c + x * S) / 4294967296 < S := by
  have h1 : x * S ≤ 4294967295 * S := Nat.mul_le_mul_right _ (by omega)
  exact ⟨by omega, by omega⟩

/-- one part more of a number moved down -/
theorem down_part {S T a x V : Nat} (hS : 0 < S) (hB : S * T = 4294967296) (ha : V % 4294967296 = a) (hx : x < 4294967296) :
    (a * 4294967296 + x) / S % 4294967296 + 4294967296 * (V / S) = (x + 4294967296 * V) / S := by
  have e1 : V = S * (V / S) + V % S := (Nat.div_add_mod V S).symm
  have e2 : a % S = V % S := by rw [← ha, ← hB, Nat.mod_mul_right_mod]
  have e3 : a = S * (a / S) + V % S := by have := (Nat.div_add_mod a S).symm; rwa [e2] at this
  generalize V / S = c at *
  have hd : V % S < S := Nat.mod_lt _ hS
  generalize V % S = d at *
  generalize a / S = f at *
  have hlt : (x + 4294967296 * d) / S < 4294967296 := by
    refine Nat.div_lt_of_lt_mul ?_
    have := Nat.mul_le_mul_right 4294967296 (show d + 1 ≤ S by omega)
    omega
  have h1 : (a * 4294967296 + x) / S = (x + 4294967296 * d) / S + 4294967296 * f := by
    rw [e3, show (S * f + d) * 4294967296 + x = (x + 4294967296 * d) + S * (4294967296 * f) by grind, Nat.add_mul_div_left _ _ hS]
  have h2 : (x + 4294967296 * V) / S = (x + 4294967296 * d) / S + 4294967296 * c := by
    rw [e1, show x + 4294967296 * (S * c + d) = (x + 4294967296 * d) + S * (4294967296 * c) by grind, Nat.add_mul_div_left _ _ hS]
  rw [h1, h2, Nat.add_mul_mod_self_left, Nat.mod_eq_of_lt hlt]
theorem val_mod (l : List Nat) (hs : Sm l) : val l % 4294967296 = l.getD 0 0 := by
  cases l with
  | nil => rfl
  | cons x t =>
    have := hs.head
    simp [val, Nat.add_mul_mod_self_left, Nat.mod_eq_of_lt this]
theorem down_step {l cur : List Nat} {S T j : Nat} (hS : 0 < S) (hB : S * T = 4294967296) (hs : Sm l) (hj : j < l.length) (hc : j < cur.length)
    (h : val (cur.drop (j + 1)) = val (l.drop (j + 1)) / S) (a x : Nat) (ha : a = l.getD (j + 1) 0) (hx : x = l.getD j 0) :
    val ((cur.set j ((a * 4294967296 + x) / S % 4294967296)).drop j) = val (l.drop j) / S := by
  have hl1 : l.drop j = x :: l.drop (j + 1) := by
    rw [List.drop_eq_getElem_cons hj, hx, List.getD_eq_getElem?_getD, List.getElem?_eq_getElem hj]; rfl
  have hc1 : (cur.set j ((a * 4294967296 + x) / S % 4294967296)).drop j = ((a * 4294967296 + x) / S % 4294967296) :: cur.drop (j + 1) := by
    rw [List.drop_eq_getElem_cons (by simpa using hc), set_drop]
    simp
  have hm : val (l.drop (j + 1)) % 4294967296 = a := by
    rw [val_mod _ (hs.drop _), ha, List.getD_eq_getElem?_getD, List.getD_eq_getElem?_getD, List.getElem?_drop, Nat.add_zero]
  rw [hl1, hc1, val, val, h]
  exact down_part hS hB hm (by rw [hx]; exact hs.getD j)

/-! the head of a number -/

theorem val_top3p {l : List Nat} {n : Nat} (hl : l.length ≤ n + 3) : val l = val (l.take n) + 4294967296 ^ n * (l.getD n 0 + 4294967296 * (l.getD (n + 1) 0 + 4294967296 * l.getD (n + 2) 0)) := by
  have h1 := val_take_succ l (n + 2)
  have h2 := val_take_succ l (n + 1)
  have h3 := val_take_succ l n
  rw [List.take_of_length_le (by omega)] at h1
  have e1 : 4294967296 ^ (n + 1) = 4294967296 * 4294967296 ^ n := by rw [Nat.pow_succ, Nat.mul_comm]
  have e2 : 4294967296 ^ (n + 2) = 4294967296 * (4294967296 * 4294967296 ^ n) := by rw [Nat.pow_succ, e1, Nat.mul_comm]
  rw [e1] at h2
  rw [e2] at h1
  rw [h1, show n + 2 = n + 1 + 1 from rfl, h2, h3]
  generalize 4294967296 ^ n = P
  generalize l.getD n 0 = x
  generalize l.getD (n + 1) 0 = y
  generalize l.getD (n + 1 + 1) 0 = z
  clear h1 h2 h3 e1 e2 hl
  grind
theorem val_take_lt' {l : List Nat} (h : Sm l) (n : Nat) : val (l.take n) < 4294967296 ^ n := by
  refine Nat.lt_of_lt_of_le (val_lt (h.take n)) (Nat.pow_le_pow_right (by decide) ?_)
  rw [List.length_take]; omega
/-- the highest 64 bits behind s of n + 3 parts -/
def hd (v n s : Nat) : Nat := v / (4294967296 ^ n * 2 ^ (32 - s))
theorem hd_eq {l : List Nat} {n s : Nat} (hl : l.length ≤ n + 3) (hs : Sm l) (h : s ≤ 31) :
    hd (val l) n s = (l.getD (n + 2) 0 * 4294967296 + l.getD (n + 1) 0) * 2 ^ s + l.getD n 0 / 2 ^ (32 - s) := by
  unfold hd
  rw [← Nat.div_div_eq_div_mul, val_top3p hl, Nat.add_mul_div_left _ _ (Nat.pow_pos (by decide)), Nat.div_eq_of_lt (val_take_lt' hs n), Nat.zero_add]
  have hp := pow32 (show s ≤ 32 by omega)
  have hq := two_pos (32 - s)
  generalize 2 ^ (32 - s) = q at *
  generalize 2 ^ s = p at *
  rw [show l.getD n 0 + 4294967296 * (l.getD (n + 1) 0 + 4294967296 * l.getD (n + 2) 0) = l.getD n 0 + q * ((l.getD (n + 2) 0 * 4294967296 + l.getD (n + 1) 0) * p) by rw [← hp]; grind, Nat.add_mul_div_left _ _ hq, Nat.add_comm]
theorem hd_low {s x : Nat} (h : s ≤ 31) (hx : x < 4294967296) : x / 2 ^ (32 - s) < 2 ^ s := by
  refine Nat.div_lt_of_lt_mul ?_
  rw [Nat.mul_comm, pow32 (by omega)]; exact hx
theorem hd_mono {a b n s : Nat} (h : b ≤ a) : hd b n s ≤ hd a n s := Nat.div_le_div_right h
/-- .. of a number whose highest part has s bits of 0 ahead -/
theorem hd_lt {l : List Nat} {n s : Nat} (hl : l.length ≤ n + 3) (hs : Sm l) (h : s ≤ 31) (ht : l.getD (n + 2) 0 * 2 ^ s < 4294967296) : hd (val l) n s < 18446744073709551616 := by
  rw [hd_eq hl hs h]
  have h1 := hs.getD (n + 1)
  have h2 := hd_low h (hs.getD n)
  have h3 := Nat.mul_le_mul_right (2 ^ s) (show l.getD (n + 1) 0 + 1 ≤ 4294967296 by omega)
  rw [Nat.add_mul, Nat.one_mul] at h3
  rw [Nat.add_mul, Nat.mul_right_comm]
  have h4 := Nat.mul_le_mul_right 4294967296 (show l.getD (n + 2) 0 * 2 ^ s + 2 ^ s ≤ 4294967296 by
    have hp := pow32 (show s ≤ 32 by omega)
    generalize 2 ^ (32 - s) = q at *
    generalize 2 ^ s = p at *
    have h5 : l.getD (n + 2) 0 < q := by
      rw [← hp, Nat.mul_comm p q] at ht
      exact Nat.lt_of_mul_lt_mul_right ht
    have h6 := Nat.mul_le_mul_right p (show l.getD (n + 2) 0 + 1 ≤ q by omega)
    rw [Nat.add_mul, Nat.one_mul, Nat.mul_comm q p, hp] at h6
    exact h6)
  rw [Nat.add_mul] at h4
  omega
theorem hd_heads (v n s : Nat) : hd v n s * (4294967296 ^ n * 2 ^ (32 - s)) ≤ v ∧ v < (hd v n s + 1) * (4294967296 ^ n * 2 ^ (32 - s)) := by
  have hp : 0 < 4294967296 ^ n * 2 ^ (32 - s) := Nat.mul_pos (Nat.pow_pos (by decide)) (two_pos _)
  unfold hd
  generalize 4294967296 ^ n * 2 ^ (32 - s) = K at *
  refine ⟨Nat.div_mul_le_self v K, ?_⟩
  have := Nat.lt_div_mul_add (a := v) hp
  rw [Nat.add_mul, Nat.one_mul]
  exact this

/-! division, part by part -/

/-- between two steps of the division: i places are left -/
def Dv (V D i : Nat) (q : List Nat) (r : Nat) : Prop := V = D * (4294967296 ^ i * val (q.drop i)) + r ∧ r < 4294967296 ^ i * D
theorem Dv.step {V D i m : Nat} {q cur row' : List Nat} (hm : D < 4294967296 ^ m) (h : Dv V D (i + 1) q (val cur)) (hs : Sm cur) (hi : i < q.length) (hl : i + m < cur.length) (hr : row'.length = m + 1)
    (hv : val row' = val ((cur.drop i).take (m + 1)) % D) :
    val ((cur.drop i).take (m + 1)) < 4294967296 * D ∧
      Dv V D i (q.set i (val ((cur.drop i).take (m + 1)) / D)) (val (cur.take i ++ row' ++ cur.drop (i + m + 1))) := by
  obtain ⟨h1, h2⟩ := h
  have e1 := val_split cur i (by omega)
  have e2 := val_split (cur.drop i) (m + 1) (by simp; omega)
  have e3 : (cur.drop i).drop (m + 1) = cur.drop (i + m + 1) := by rw [List.drop_drop]; rfl
  rw [e3] at e2
  have lt1 := val_take_lt' hs i
  have hP : 0 < 4294967296 ^ i := Nat.pow_pos (by decide)
  -- nothing stands above the row
  have hz : val (cur.drop (i + m + 1)) = 0 := by
    rcases Nat.eq_zero_or_pos (val (cur.drop (i + m + 1))) with h | h
    · exact h
    · exfalso
      have a1 : 4294967296 ^ i * (4294967296 ^ (m + 1) * 1) ≤ 4294967296 ^ i * (4294967296 ^ (m + 1) * val (cur.drop (i + m + 1))) := Nat.mul_le_mul_left _ (Nat.mul_le_mul_left _ h)
      have a2 : 4294967296 ^ (i + 1) * D < 4294967296 ^ (i + 1) * 4294967296 ^ m := Nat.mul_lt_mul_of_pos_left hm (Nat.pow_pos (by decide))
      have a3 : 4294967296 ^ (i + 1) * 4294967296 ^ m = 4294967296 ^ i * (4294967296 ^ (m + 1) * 1) := by
        rw [Nat.mul_one, ← Nat.pow_add, ← Nat.pow_add]; congr 1; omega
      rw [e2, Nat.mul_add] at e1
      omega
  rw [hz, Nat.mul_zero, Nat.add_zero] at e2
  have hD0 : 0 < D := by
    rcases Nat.eq_zero_or_pos D with h | h
    · rw [h, Nat.mul_zero] at h2; omega
    · exact h
  have hlen : (cur.take i).length = i := by rw [List.length_take]; omega
  have e4 : val (cur.take i ++ row' ++ cur.drop (i + m + 1)) = val (cur.take i) + 4294967296 ^ i * val row' := by
    rw [List.append_assoc, val_append, val_append, hz, Nat.mul_zero, Nat.add_zero, hlen]
  have e5 : (q.set i (val ((cur.drop i).take (m + 1)) / D)).drop i = (val ((cur.drop i).take (m + 1)) / D) :: q.drop (i + 1) := by
    rw [List.drop_eq_getElem_cons (by simpa using hi), set_drop]
    simp
  rw [e2] at e1
  unfold Dv
  rw [e4, e5, val, hv]
  rw [Nat.pow_succ] at h1 h2
  generalize val ((cur.drop i).take (m + 1)) = R at *
  have hdm := (Nat.div_add_mod R D).symm
  have hml := Nat.mod_lt R hD0
  generalize R / D = Q at *
  generalize R % D = r at *
  generalize 4294967296 ^ i = P at *
  generalize val (q.drop (i + 1)) = Z at *
  generalize val (cur.take i) = Y at *
  refine ⟨?_, ?_, ?_⟩
  · have : P * R < P * (4294967296 * D) := by rw [← Nat.mul_assoc]; omega
    exact Nat.lt_of_mul_lt_mul_left this
  · rw [h1, e1, hdm]; grind
  · have := Nat.mul_le_mul_left P (show r + 1 ≤ D by omega)
    rw [Nat.mul_add, Nat.mul_one] at this
    omega
theorem Dv.start {V D n : Nat} (h : V < 4294967296 ^ n * D) : Dv V D n (List.replicate n 0) V := by
  refine ⟨?_, h⟩
  rw [List.drop_of_length_le (by simp), val, Nat.mul_zero, Nat.mul_zero, Nat.zero_add]
theorem Dv.done {V D r : Nat} {q : List Nat} (h : Dv V D 0 q r) : val q = V / D ∧ r = V % D := by
  obtain ⟨h1, h2⟩ := h
  rw [Nat.pow_zero, Nat.one_mul] at h1 h2
  rw [List.drop_zero] at h1
  have hD : 0 < D := by omega
  rw [h1, Nat.add_comm, Nat.add_mul_div_left _ _ hD, Nat.add_mul_mod_self_left, Nat.div_eq_of_lt h2, Nat.mod_eq_of_lt h2, Nat.zero_add]
  exact ⟨rfl, rfl⟩
theorem dv_room {a b m n S : Nat} (ha : a < 4294967296 ^ n) (hb : 2147483648 * 4294967296 ^ m ≤ b * S) (hS : S ≤ 2147483648) (hmn : m + 1 ≤ n) : a * S < 4294967296 ^ (n - (m + 1) + 1) * (b * S) := by
  have h1 : a * S < 4294967296 ^ n * S + 1 := by
    have := Nat.mul_le_mul_right S (Nat.le_of_lt ha)
    omega
  have hSp : 0 < S := by
    rcases Nat.eq_zero_or_pos S with h | h
    · subst h
      have := Nat.pow_pos (n := m) (show 0 < 4294967296 by decide)
      omega
    · exact h
  have h0 : a * S < 4294967296 ^ n * S := Nat.mul_lt_mul_of_pos_right ha hSp
  have h2 : 4294967296 ^ (n - (m + 1) + 1) * (2147483648 * 4294967296 ^ m) ≤ 4294967296 ^ (n - (m + 1) + 1) * (b * S) := Nat.mul_le_mul_left _ hb
  have h3 : 4294967296 ^ (n - (m + 1) + 1) * (2147483648 * 4294967296 ^ m) = 4294967296 ^ n * 2147483648 := by
    rw [Nat.mul_left_comm, ← Nat.pow_add, Nat.mul_comm, show n - (m + 1) + 1 + m = n by omega]
  have h4 : 4294967296 ^ n * S ≤ 4294967296 ^ n * 2147483648 := Nat.mul_le_mul_left _ hS
  omega
/-! a number moved up until its highest bit is set -/

theorem up_fits {l : List Nat} {p sh : Nat} (hl : l.length = p + 1) (hs : Sm l) (hsh : sh ≤ 31) (ht : l.getD p 0 * 2 ^ sh < 4294967296) : val l * 2 ^ sh < 4294967296 ^ (p + 1) := by
  have h1 := val_take_succ l p
  rw [List.take_of_length_le (by omega)] at h1
  have h2 := val_take_lt' hs p
  have hp := pow32 (show sh ≤ 32 by omega)
  have hq := two_pos sh
  generalize l.getD p 0 = T at *
  generalize val (l.take p) = Y at *
  rw [Nat.pow_succ]
  generalize 4294967296 ^ p = P at *
  generalize 2 ^ (32 - sh) = q at *
  generalize 2 ^ sh = S at *
  have h3 : T < q := by
    rw [← hp, Nat.mul_comm S q] at ht
    exact Nat.lt_of_mul_lt_mul_right ht
  have h4 : val l < P * (T + 1) := by rw [h1, Nat.mul_add, Nat.mul_one]; omega
  have h5 : P * (T + 1) ≤ P * q := Nat.mul_le_mul_left _ h3
  have h6 : val l * S < P * q * S := Nat.mul_lt_mul_of_pos_right (by omega) hq
  rwa [Nat.mul_assoc, Nat.mul_comm q S, hp] at h6
theorem up_low {l : List Nat} {p S : Nat} (hl : l.length = p + 1) (ht : 2147483648 ≤ l.getD p 0 * S) : 2147483648 * 4294967296 ^ p ≤ val l * S := by
  have h1 := val_take_succ l p
  rw [List.take_of_length_le (by omega)] at h1
  have h2 := Nat.mul_le_mul_right (4294967296 ^ p) ht
  rw [h1]
  generalize 4294967296 ^ p = P at *
  generalize l.getD p 0 = T at *
  generalize val (l.take p) = Y at *
  have h3 : (Y + P * T) * S = Y * S + T * S * P := by grind
  omega
theorem up_by {l : List Nat} {m V : Nat} (hl : l.length = m + 1) (hv : val l = V) (hV : V < 4294967296 ^ m) : val (l.take m) = V := by
  have h1 := val_take_succ l m
  rw [List.take_of_length_le (by omega), hv] at h1
  rcases Nat.eq_zero_or_pos (l.getD m 0) with h | h
  · rw [h, Nat.mul_zero] at h1; omega
  · have := Nat.mul_le_mul_left (4294967296 ^ m) h
    omega
theorem top_of {l : List Nat} {p V : Nat} (hl : l.length = p + 1) (hs : Sm l) (hv : val l = V) (h : 2147483648 * 4294967296 ^ p ≤ V) : 2147483648 ≤ l.getD p 0 := by
  have h1 := val_take_succ l p
  rw [List.take_of_length_le (by omega), hv] at h1
  have h2 := val_take_lt' hs p
  rcases Nat.lt_or_ge (l.getD p 0) 2147483648 with h3 | h3
  · have := Nat.mul_le_mul_left (4294967296 ^ p) (show l.getD p 0 + 1 ≤ 2147483648 by omega)
    rw [Nat.mul_add, Nat.mul_one, Nat.mul_comm _ 2147483648] at this
    omega
  · exact h3
end Go.Proofs.YtlfanbjpfoaipaaGreatDoor.Nu

namespace Go.Proofs.YtlfanbjpfoaipaaGreatDoor
open Go Go.Proofs Go.RowKit Go.Shelf Nu

attribute [local go_sem] Oper.semAt_some

/-- what holds between two rounds of moveDown's loop -/
def DownInv (w : World) (g : Nat) (post : List Value) (l : List Nat) (sh : Nat) (va : Value) (k : Nat) (W : World) : Prop :=
  (∃ (cur : List Nat) (a : Nat), Blk W g [] cur post ∧ cur.length = l.length ∧ Sm cur ∧ a = l.getD (l.length - k) 0 ∧ cur.take (l.length - k) = l.take (l.length - k) ∧ val (cur.drop (l.length - k)) = val (l.drop (l.length - k)) / 2 ^ sh ∧ Boxed W (w.heap.size + 1 + 1) 71 (.int .u32 a)) ∧
  Boxed W w.heap.size 23 va ∧ Boxed W (w.heap.size + 1) 83 (.int .u64 sh) ∧ Boxed W (w.heap.size + 1 + 1 + 1) 23 va ∧ w.grownBy W (some g)

theorem down_or {a x sh : Nat} (ha : a < 4294967296) (hx : x < 4294967296) :
    ∃ O P : Nat, bits BinOp.or IntKind.u64 ((a : Int) * 4294967296) (x : Int) = (O : Int) ∧ (O : Int) / 2 ^ sh = (P : Int) ∧ P = (a * 4294967296 + x) / 2 ^ sh ∧ O < 18446744073709551616 ∧ P < 18446744073709551616 := by
  refine ⟨a * 4294967296 + x, (a * 4294967296 + x) / 2 ^ sh, or_shl a x ha hx, ?_, rfl, by omega, Nat.lt_of_le_of_lt (Nat.div_le_self _ _) (by omega)⟩
  generalize a * 4294967296 + x = O
  rw [Int.natCast_ediv, Int.natCast_pow]; rfl

set_option maxRecDepth 100000 in
set_option maxHeartbeats 4000000 in
theorem moveDown_any {w : World} {g cap sh : Nat} {l : List Nat} {post : List Value} (hb : Blk w g [] l post) (hl : l.length ≤ 100001) (hs : Sm l) (hsh : sh ≤ 31) :
    Calls Tryz.prog 205 #[.slice (some ⟨g, 0, none⟩) l.length cap, .int .u64 sh] w fun e w' => ∃ (r : Value) (l' : List Nat), e = .returned r ∧ Blk w' g [] l' post ∧ l'.length = l.length ∧ Sm l' ∧ val l' = val l / 2 ^ sh ∧ w.grownBy w' (some g) := by
  have hgw := hb.lt
  obtain ⟨n, hn⟩ : ∃ n, n = l.length := ⟨_, rfl⟩
  have HN := Lib.hid hn
  rw [← hn] at hl ⊢
  clear hn
  refine (callsIn_wide (n := 0)).1 ?_
  refine callsIn_of_wp_marks Tryz.func205 rfl trivial ?_ rfl
  simp only [Tryz.ntmps205, List.size_toArray, List.length_cons, List.length_nil, Nat.reduceAdd, Nat.reduceSub, Array.replicate_succ, Array.replicate_zero, List.push_toArray, List.append_toArray, List.nil_append, List.cons_append]
  refine wpIn_wide.2 ?_
  go_wp2_with (go_at_call 156; refine (back_any _ _ _ _).mono ?_; rintro e w' ⟨rfl, rfl⟩)
  refine (wpIn_wide (n := 0)).1 ?_
  refine wp_rangeAt (gf := 207) rfl (enters_of Tryz.func207 (by kernel_rfl) rfl)
    (back_iter n g 0 cap (w.heap.size + 1 + 1 + 1) _ (fun j => l.getD j 0) (by omega) (fun _ => rfl)) (fun _ => rfl)
    (DownInv w g post l sh (.slice (some ⟨g, 0, none⟩) n cap)) (fun _ _ => False) ?own (fun _ _ _ _ h _ _ => h) ?reads ?start ?round ?done ?stop
  case own =>
    rintro k W W' r ⟨⟨cur, a, h1, h2, h3, h4, h5, h6, h7⟩, g1, g2, g3, g4⟩ hg hr
    exact ⟨⟨cur, a, h1.keep hg hr, h2, h3, h4, h5, h6, keepBox h7 hg hr⟩, keepBox g1 hg hr, keepBox g2 hg hr, keepBox g3 hg hr, grown_keep g4 (by simp; omega) hg hr⟩
  case reads =>
    rintro k W ⟨⟨cur, a, h1, h2, h3, h4, h5, h6, h7⟩, g1, g2, g3, g4⟩
    refine ⟨g3.cell, fun hk => ?_⟩
    have hn := HN.out
    have e := h1.cell (o := 0) rfl (n - 1 - k) (by omega)
    have e2 := congrArg (fun t => t.getD (n - 1 - k) 0) h5
    simp only [List.getD_eq_getElem?_getD, List.getElem?_take] at e2
    rw [if_pos (by omega), if_pos (by omega), ← List.getD_eq_getElem?_getD, ← List.getD_eq_getElem?_getD] at e2
    rw [e2] at e
    exact e
  case start =>
    have hn := HN.out
    refine ⟨⟨l, 0, (((hb.alloc _).alloc _).alloc _).alloc _, rfl, hs, ?_, by simp, by simp [val], (boxed_new2 w _ _ _ _).alloc _⟩, (((Boxed.new w _ _).alloc _).alloc _).alloc _, ((boxed_new1 w _ _ _).alloc _).alloc _, boxed_new3 w _ _ _ _ _, ?_⟩
    · rw [Nat.sub_zero, List.getD_eq_getElem?_getD, List.getElem?_eq_none (by omega)]; rfl
    · exact grown_alloc (grown_alloc (grown_alloc (grown_alloc (grown_refl w _) _) _) _) _
  case round =>
    intro lp k W hk
    obtain ⟨j, hj⟩ : ∃ j, j = n - 1 - k := ⟨_, rfl⟩
    have hx := hs.getD j
    obtain ⟨x, hxe⟩ : ∃ x, x = l.getD j 0 := ⟨_, rfl⟩
    dsimp only
    rw [← hj, ← hxe]
    rw [← hxe] at hx
    have HX := Lib.hid hxe
    have HJ := Lib.hid hj
    have hjn : j < n := by omega
    have HS := Lib.hid hs
    clear hxe hj hb hs
    gi_wp2
    refine NextRound.mk ?_
    rintro W2 ⟨⟨cur, a, h1, h2, h3, h4, h5, h6, h7⟩, g1, g2, g3, g4⟩
    have hjc : j < cur.length := by rw [h2, ← HN.out]; exact hjn
    have ha : a < 4294967296 := by rw [h4]; exact HS.out.getD _
    obtain ⟨O, P, hor, hsh2, hP, hO1, hP1⟩ := down_or (sh := sh) ha hx
    have r1 := h1.cell (o := 0) rfl j hjc
    have r2 := h1.frozen j
    rw [Nat.zero_add] at r1
    obtain ⟨y, hy⟩ : ∃ y, y = cur.getD j 0 := ⟨_, rfl⟩
    rw [← hy] at r1
    clear hy
    have HP := Lib.hid hP
    have H2 := Lib.hid h2
    have H4 := Lib.hid h4
    have H5 := Lib.hid h5
    have H6 := Lib.hid h6
    have q1 := h7.cell
    have q2 := h7.frozen
    have q3 := g1.cell
    have q4 := g2.cell
    clear hP h2 h4 h5 h6
    gi_wp2
    have hgS : g ≠ w.heap.size + 1 + 1 := by omega
    have hn := HN.out
    have hjj : l.length - (k + 1) = j := by have := HJ.out; omega
    have hjk : l.length - k = j + 1 := by have := HJ.out; omega
    have h5 := H5.out
    have h6 := H6.out
    rw [hjk] at h5 h6
    have e4 := H4.out
    rw [hjk] at e4
    refine ⟨((KeepsOthers.setCell W2 _ _).trans (KeepsOthers.setCell _ _ _)).from _,
      ⟨cur.set j (P % 4294967296), x, ?_, ?_, h3.set _ _ (by omega), ?_, ?_, ?_, ?_⟩, ?_, ?_, ?_, ?_⟩
    · have e := (h1.set (o := 0) rfl j (P % 4294967296) hjc).box hgS (.int .u32 (x : Int))
      rw [Nat.zero_add, show ((P % 4294967296 : Nat) : Int) = (P : Int) % 4294967296 by omega] at e
      exact e
    · rw [List.length_set]; exact H2.out
    · rw [hjj]; exact HX.out
    · rw [hjj, List.take_set, List.set_eq_of_length_le (by rw [List.length_take]; omega)]
      have := congrArg (List.take j) h5
      simpa [List.take_take] using this
    · rw [hjj, HP.out]
      exact down_step (T := 2 ^ (32 - sh)) (two_pos sh) (pow32 (by omega)) HS.out (by omega) hjc h6 a x e4 HX.out
    · exact (boxed_row h7 (by omega) _).set _
    · exact (boxed_row g1 (by omega) _).other (by omega) _
    · exact (boxed_row g2 (by omega) _).other (by omega) _
    · exact (boxed_row g3 (by omega) _).other (by omega) _
    · exact grown_box (grown_setCell g4 _ _) (by omega) _
  case done =>
    rintro D W hD ⟨⟨cur, a, h1, h2, h3, h4, h5, h6, h7⟩, g1, g2, g3, g4⟩ hK
    have hn := HN.out
    rw [← hn, Nat.sub_self, List.drop_zero, List.drop_zero] at h6
    have H6 := Lib.hid h6
    have H2 := Lib.hid h2
    clear h2 h4 h5 h6 hn hb hs
    go_wp2
    refine ⟨by simp, .inl ⟨_, _, rfl, run_takeDeferred hK, ?_⟩⟩
    exact ⟨_, results_none rfl _ _ _, _, cur, rfl, h1.left _ hK rfl, by rw [H2.out, HN.out], h3, H6.out, grown_left _ g4 (by simp at hD; omega) hK rfl⟩
  case stop =>
    rintro D c W _ h _
    exact h.elim

end Go.Proofs.YtlfanbjpfoaipaaGreatDoor

namespace Go.Proofs.YtlfanbjpfoaipaaGreatDoor
open Go Go.Proofs Go.RowKit Go.Shelf Nu

attribute [local go_sem] Oper.semAt_some

theorem down_math {x y h sh : Nat} (hx : x < 4294967296) (hsh : sh ≤ 31) : (x + 4294967296 * (y + 4294967296 * h)) / 2 ^ sh = ((y * 4294967296 + x) / 2 ^ sh) % 4294967296 + 4294967296 * ((y + 4294967296 * h) / 2 ^ sh) := by
  obtain ⟨c, hc⟩ : ∃ c, c = 2 ^ (32 - sh) := ⟨_, rfl⟩
  obtain ⟨p, hp⟩ : ∃ p, p = 2 ^ sh := ⟨_, rfl⟩
  have hpos : 0 < p := by rw [hp]; exact Nat.pow_pos (by decide)
  have hB : 4294967296 = p * c := by
    rw [hp, hc, ← Nat.pow_add, show sh + (32 - sh) = 32 by omega]
  rw [← hp]
  have e1 : x + 4294967296 * (y + 4294967296 * h) = (y * 4294967296 + x) + p * (c * 4294967296 * h) := by
    have : 4294967296 * (4294967296 * h) = p * (c * 4294967296 * h) := by
      conv => lhs; rw [show (4294967296 * (4294967296 * h) : Nat) = (p * c) * (4294967296 * h) by rw [← hB]]
      rw [Nat.mul_assoc, Nat.mul_assoc]
    rw [Nat.mul_add, this]; omega
  have e2 : y + 4294967296 * h = y + p * (c * h) := by
    rw [← Nat.mul_assoc, ← hB]
  rw [e1, e2, Nat.add_mul_div_left _ _ hpos, Nat.add_mul_div_left _ _ hpos]
  have e3 : (y * 4294967296 + x) / p / 4294967296 = y / p := by
    rw [Nat.div_div_eq_div_mul, Nat.mul_comm p, ← Nat.div_div_eq_div_mul]
    congr 1; omega
  have e4 := Nat.mod_add_div ((y * 4294967296 + x) / p) 4294967296
  rw [e3] at e4
  rw [Nat.mul_add, ← Nat.mul_assoc, ← Nat.add_assoc, e4, Nat.mul_comm c]
theorem down_head {A : List Nat} {k : Nat} (hk : k < A.length) : ∃ h, val (A.drop k) = A.getD k 0 + 4294967296 * (A.getD (k + 1) 0 + 4294967296 * h) ∧ val (A.drop (k + 1)) = A.getD (k + 1) 0 + 4294967296 * h := by
  rw [drop_at hk, val]
  by_cases h : k + 1 < A.length
  · rw [drop_at h, val]
    exact ⟨_, rfl, rfl⟩
  · rw [List.drop_eq_nil_of_le (by omega), List.getD_eq_getElem?_getD (i := k + 1), List.getElem?_eq_none (by omega)]
    exact ⟨0, by simp [val], by simp [val]⟩
theorem down_next {A l : List Nat} {k sh P : Nat} (hs : Sm A) (hk : k < A.length) (hl : l.length = A.length) (hsh : sh ≤ 31) (hP : P = (A.getD (k + 1) 0 * 4294967296 + A.getD k 0) / 2 ^ sh)
    (hv : val (l.take k) + 4294967296 ^ k * (val (A.drop k) / 2 ^ sh) = val A / 2 ^ sh) :
    val ((l.set k (P % 4294967296)).take (k + 1)) + 4294967296 ^ (k + 1) * (val (A.drop (k + 1)) / 2 ^ sh) = val A / 2 ^ sh := by
  obtain ⟨h, h1, h2⟩ := down_head hk
  have hx : A.getD k 0 < 4294967296 := hs.getD k
  rw [h1, down_math hx hsh, ← hP, ← h2] at hv
  have ht : (l.set k (P % 4294967296)).take (k + 1) = l.take k ++ [P % 4294967296] := by
    rw [List.take_succ_eq_append_getElem (by simp; omega), List.take_set, List.set_eq_of_length_le (by rw [List.length_take]; omega)]
    simp
  rw [ht, val_append, List.length_take, Nat.min_eq_left (by omega), ← hv, Nat.mul_add]
  simp only [val]
  rw [Nat.pow_succ]
  generalize val (A.drop (k + 1)) / 2 ^ sh = Z
  generalize 4294967296 ^ k = W
  generalize P % 4294967296 = Q
  grind

set_option maxRecDepth 100000 in
set_option maxHeartbeats 4000000 in
theorem rdown_any {w : World} {va : Value} {A : List Nat} {sh : Nat} (hA : Reads w va A) (hlA : A.length ≤ 100000) (hSA : Sm A) (hsh : sh ≤ 31) :
    Calls Tryz.prog 71 #[va, .int .u64 sh] w fun e w' => ∃ v, e = .returned v ∧ Reads w' v (digs (val A / 2 ^ sh)) ∧ Below w.heap.size w w' := by
  have kT := rtwin_any hA hlA
  have SA := Lib.hid hSA
  obtain ⟨a1, c1, rfl⟩ := hA.form
  obtain ⟨m, hm⟩ : ∃ m, m = A.length := ⟨_, rfl⟩
  have HM := Lib.hid hm
  rw [← hm] at hlA kT
  rw [← hm]
  have hb0 : Below w.heap.size w w := Below.refl _ w
  have HSH := Lib.hid hsh
  have hs64 : sh < 64 := by omega
  clear hA hSA hm hsh
  go_enter Tryz.func71, Tryz.ntmps71
  go_wp2_with (go_at_call 63; refine kT.mono ?_; clear kT; rintro e w1 ⟨u, rfl, fu, hb1⟩; obtain ⟨au, cu, eu⟩ := fu.reads.form; rw [← HM.out] at eu; subst eu)
  go_loopg [6] m (fun g si wr => ∃ (k : Nat) (l : List Nat), k + g = m ∧ si = .int .i64 (k : Int) ∧ l.length = m ∧ Hid (Fresh wr w.heap.size (.slice au m cu) l) ∧ Hid (Sm l ∧ l.drop k = A.drop k ∧ val (l.take k) + 4294967296 ^ k * (val (A.drop k) / 2 ^ sh) = val A / 2 ^ sh) ∧ Hid (Below w.heap.size w wr))
  case atStart => exact ⟨0, A, by omega, rfl, HM.out.symm, Lib.hid fu, Lib.hid ⟨SA.out, rfl, by simp [val]⟩, Lib.hid hb1⟩
  case round =>
    obtain ⟨k, l, hk, rfl, hl, HF, HV, HB⟩ := hrel
    have HL := Lib.hid hl
    by_cases hkm : k < m
    · obtain ⟨g, rfl⟩ : ∃ g, au = some ⟨g, 0, none⟩ := by
        rcases HF.out.form with ⟨e, _⟩ | ⟨g, c, e, _⟩
        · simp only [Value.slice.injEq] at e; omega
        · simp only [Value.slice.injEq] at e; exact ⟨g, e.1⟩
      have hF0 := HF.out
      have hfr : wr.frozen? ⟨g, k, none⟩ = false := by
        unfold Fresh at hF0
        rw [hl] at hF0
        exact World.ownsRow.frozenAt hF0 k
      have hcc : ∀ j, j < m → k ≤ j → wr.cell? ⟨g, j, none⟩ = some (.int .u32 ((A.getD j 0 : Nat) : Int)) := by
        intro j hj hkj
        rcases HF.out.form with ⟨e, _⟩ | ⟨g', c, e, _, _, hn', hcc⟩
        · cases e
        · simp only [Value.slice.injEq, Option.some.injEq, Addr.mk.injEq, and_true] at e
          obtain ⟨rfl, _⟩ := e
          have := hcc j (by omega)
          rwa [Nat.zero_add, getD_of_drop HV.out.2.1 j hkj] at this
      obtain ⟨x, hx⟩ : ∃ x, x = A.getD k 0 := ⟨_, rfl⟩
      obtain ⟨y, hy⟩ : ∃ y, y = A.getD (k + 1) 0 := ⟨_, rfl⟩
      have hxb : x < 4294967296 := by rw [hx]; exact SA.out.getD k
      have hyb : y < 4294967296 := by rw [hy]; exact SA.out.getD (k + 1)
      have hc := hcc k hkm (Nat.le_refl _)
      rw [← hx] at hc
      obtain ⟨O, P, e1, e2, e3, e4, e5⟩ := down_or (a := y) (x := x) (sh := sh) hyb hxb
      have hgw : w.heap.size ≤ g := (HF.out.lt' (g := g) rfl).1
      have hP := (HF.out.put hl.symm k (P % 4294967296)).1
      rw [show ((P % 4294967296 : Nat) : Int) = (P : Int) % 4294967296 by omega] at hP
      have hnx := down_next (sh := sh) (P := P) SA.out (by rw [← HM.out]; exact hkm) (by rw [hl, ← HM.out]) HSH.out (by rw [e3, hx, hy]) HV.out.2.2
      have fin : ∃ (k' : Nat) (l' : List Nat), k' + (m - (k + 1)) = m ∧ Value.int .i64 ((k : Int) + 1) = .int .i64 (k' : Int) ∧ l'.length = m ∧ Hid (Fresh (wr.setCell ⟨g, k, none⟩ (.int .u32 ((P : Int) % 4294967296))) w.heap.size (.slice (some ⟨g, 0, none⟩) m cu) l') ∧ Hid (Sm l' ∧ l'.drop k' = A.drop k' ∧ val (l'.take k') + 4294967296 ^ k' * (val (A.drop k') / 2 ^ sh) = val A / 2 ^ sh) ∧ Hid (Below w.heap.size w (wr.setCell ⟨g, k, none⟩ (.int .u32 ((P : Int) % 4294967296)))) :=
        ⟨k + 1, l.set k (P % 4294967296), by omega, by simp, by rw [List.length_set, hl], Lib.hid hP, Lib.hid ⟨HV.out.1.set k _ (by omega), by rw [set_drop]; exact drop_succ_of_drop HV.out.2.1, hnx⟩, Lib.hid (HB.out.setCell (p := ⟨g, k, none⟩) hgw _)⟩
      have FIN := Lib.hid fin
      have HY := Lib.hid hy
      have E3 := Lib.hid e3
      by_cases hkn : k + 1 < m
      · have hc2 := hcc (k + 1) hkn (by omega)
        rw [← hy] at hc2
        have hor : bits BinOp.or IntKind.u64 (x : Int) ((y : Int) * 4294967296) = (O : Int) := by
          have h1 := or_side' y x 32 hxb (by omega)
          have h2 := or_shl y x hyb hxb
          rw [e1] at h2
          rw [show ((2 ^ 32 * y : Nat) : Int) = (y : Int) * 4294967296 by omega] at h1
          rw [h1, h2]; omega
        clear hF0 hcc hx hy hP hnx fin e1 e3 HB HF hl
        go_wp2
        go_roundg (m - (k + 1))
        case measure => omega
        case rel => exact FIN.out
      · have hy0 : y = 0 := by rw [HY.out]; exact getD_cut0 (by have := HM.out; omega)
        have hsh2 : (x : Int) / 2 ^ sh = (P : Int) := by
          rw [E3.out, hy0, Nat.zero_mul, Nat.zero_add, Int.natCast_ediv, Int.natCast_pow]; rfl
        clear hF0 hcc hx hy hP hnx fin e1 e2 e3 HB HF hl
        go_wp2
        go_roundg (m - (k + 1))
        case measure => omega
        case rel => exact FIN.out
    · obtain rfl : k = m := by omega
      have hv : val l = val A / 2 ^ sh := by
        have h := HV.out.2.2
        rw [List.take_of_length_le (by omega), List.drop_eq_nil_of_le (by have := HM.out; omega)] at h
        simp only [val, Nat.zero_div, Nat.mul_zero, Nat.add_zero] at h
        exact h
      have HVL := Lib.hid hv
      have kt := rtrim_any HF.out.reads (by omega)
      clear hv hl
      go_wp2_with (go_at_call 67; refine kt.mono ?_; clear kt; rintro e w' ⟨⟨u, rfl, hu⟩, rfl⟩)
      go_ret
      refine ⟨u, rfl, ?_, HB.out⟩
      rw [← HVL.out, ← cut_eq HV.out.1]
      exact hu

end Go.Proofs.YtlfanbjpfoaipaaGreatDoor

namespace Go.Proofs.YtlfanbjpfoaipaaGreatDoor
open Go Go.Proofs Go.RowKit Go.Shelf Nu

attribute [local go_sem] Oper.semAt_some

theorem bits_or_u32_nat (a b : Nat) (ha : a < 4294967296) (hb : b < 4294967296) : bits .or .u32 (a : Int) (b : Int) = ((a ||| b : Nat) : Int) := by
  have hx : a ||| b < 2 ^ 32 := Nat.or_lt_two_pow (by omega) (by omega)
  have h1 : (BitVec.ofInt 32 (a : Int)).toNat = a := by
    rw [BitVec.ofInt_natCast, BitVec.toNat_ofNat]; exact Nat.mod_eq_of_lt (by omega)
  have h2 : (BitVec.ofInt 32 (b : Int)).toNat = b := by
    rw [BitVec.ofInt_natCast, BitVec.toNat_ofNat]; exact Nat.mod_eq_of_lt (by omega)
  show IntKind.u32.wrap ((BitVec.ofInt 32 (a : Int) ||| BitVec.ofInt 32 (b : Int)).toNat : Int) = _
  rw [BitVec.toNat_or, h1, h2, IntKind.wrap_u32']
  omega
theorem up_bits {c x sh : Nat} (hc : c < 2 ^ sh) (hx : x < 4294967296) (hsh : sh ≤ 31) : ∃ z O H : Nat, IntKind.u64.wrap ((x : Int) * 2 ^ sh) = (z : Int) ∧ z = x * 2 ^ sh ∧ bits .or .u32 (c : Int) ((z : Int) % 4294967296) = (O : Int) ∧ O = c + z % 4294967296 ∧ O < 4294967296 ∧ H = z / 4294967296 ∧ H < 2 ^ sh ∧ H < 4294967296 ∧ z < 18446744073709551616 := by
  obtain ⟨p, hp⟩ : ∃ p, p = 2 ^ sh := ⟨_, rfl⟩
  obtain ⟨q, hq⟩ : ∃ q, q = 2 ^ (32 - sh) := ⟨_, rfl⟩
  have hB : p * q = 4294967296 := by rw [hp, hq, ← Nat.pow_add, show sh + (32 - sh) = 32 by omega]
  have hp31 : p ≤ 2147483648 := by rw [hp]; exact Nat.pow_le_pow_right (n := 2) (by decide) hsh
  have hz : x * p < 4294967296 * p := Nat.mul_lt_mul_of_pos_right hx (by rw [hp]; exact Nat.pow_pos (by decide))
  have hm : x * p % 4294967296 = p * (x % q) := by rw [← hB, Nat.mul_comm x, Nat.mul_mod_mul_left]
  have hle : p * (x % q) + c < 4294967296 := by
    have hq0 : 0 < q := by rw [hq]; exact Nat.pow_pos (by decide)
    have h1 : x % q + 1 ≤ q := Nat.mod_lt _ hq0
    have h2 := Nat.mul_le_mul_left p h1
    rw [hB, Nat.mul_add, Nat.mul_one] at h2
    rw [← hp] at hc
    omega
  have hd : x * p / 4294967296 < p := by
    rw [Nat.div_lt_iff_lt_mul (by decide), Nat.mul_comm p]; exact hz
  rw [← hp] at hc ⊢
  refine ⟨x * p, c + x * p % 4294967296, x * p / 4294967296, ?_, rfl, ?_, rfl, by rw [hm]; omega, rfl, hd, by omega, by omega⟩
  · have : (x : Int) * 2 ^ sh = ((x * p : Nat) : Int) := by rw [hp]; push_cast; rfl
    rw [this]; exact w64_of _ (by omega)
  · have e : ((x * p : Nat) : Int) % 4294967296 = ((x * p % 4294967296 : Nat) : Int) := by omega
    rw [e, bits_or_u32_nat c _ (by omega) (by omega), hm]
    have h3 : p * (x % q) ||| c = p * (x % q) + c := by rw [hp] at hc ⊢; exact (Nat.two_pow_add_eq_or_of_lt hc _).symm
    rw [Nat.or_comm, h3, Nat.add_comm]
theorem set_val {l : List Nat} {j : Nat} (hj : j < l.length) (v : Nat) : val (l.set j v) + 4294967296 ^ j * l.getD j 0 = val l + 4294967296 ^ j * v := by
  induction l generalizing j with
  | nil => simp at hj
  | cons a l ih =>
    cases j with
    | zero => simp [val]; omega
    | succ j =>
      have := ih (j := j) (by simpa using hj)
      simp only [List.set_cons_succ, List.getD_cons_succ, val, Nat.pow_succ]
      generalize l.getD j 0 = D at *
      generalize val (l.set j v) = S at *
      generalize val l = V at *
      generalize 4294967296 ^ j = W at *
      grind
theorem up_next {A l : List Nat} {k sh z O H : Nat} (hk : k < A.length) (hl : l.length = A.length + 1) (hz : z = A.getD k 0 * 2 ^ sh) (hO : O = l.getD k 0 + z % 4294967296) (hH : H = z / 4294967296) (h0 : l.getD (k + 1) 0 = 0)
    (hv : val l = val (A.take k) * 2 ^ sh) : val ((l.set k O).set (k + 1) H) = val (A.take (k + 1)) * 2 ^ sh := by
  have e1 := set_val (l := l) (j := k) (by omega) O
  have e2 := set_val (l := l.set k O) (j := k + 1) (by simp; omega) H
  have e3 : (l.set k O).getD (k + 1) 0 = 0 := by
    rw [List.getD_eq_getElem?_getD, List.getElem?_set_ne (by omega), ← List.getD_eq_getElem?_getD]; exact h0
  rw [e3] at e2
  have e4 : val (A.take (k + 1)) = val (A.take k) + 4294967296 ^ k * A.getD k 0 := by
    rw [List.take_succ_eq_append_getElem hk, val_append, List.length_take, Nat.min_eq_left (by omega), List.getD_eq_getElem?_getD, List.getElem?_eq_getElem hk]
    simp [val]
  have e5 := Nat.mod_add_div z 4294967296
  rw [e4, Nat.add_mul, Nat.mul_assoc, ← hz, ← hv]
  rw [hO] at e1
  rw [← hH] at e5
  rw [Nat.pow_succ] at e2
  subst hO
  generalize val ((l.set k (l.getD k 0 + z % 4294967296)).set (k + 1) H) = R at *
  generalize val (l.set k (l.getD k 0 + z % 4294967296)) = S at *
  generalize l.getD k 0 = D at *
  generalize val l = V at *
  generalize 4294967296 ^ k = W at *
  generalize z % 4294967296 = M at *
  rw [← e5]
  grind

theorem getD_set_self {l : List Nat} {j v : Nat} (h : j < l.length) : (l.set j v).getD j 0 = v := by
  rw [List.getD_eq_getElem?_getD, List.getElem?_set_self h]; rfl
theorem getD_set_other {l : List Nat} {j i v : Nat} (h : j ≠ i) : (l.set j v).getD i 0 = l.getD i 0 := by
  rw [List.getD_eq_getElem?_getD, List.getElem?_set_ne h, ← List.getD_eq_getElem?_getD]

set_option maxRecDepth 100000 in
set_option maxHeartbeats 4000000 in
theorem rup_any {w : World} {va : Value} {A : List Nat} {sh : Nat} (hA : Reads w va A) (hlA : A.length ≤ 100000) (hSA : Sm A) (hsh : sh ≤ 31) :
    Calls Tryz.prog 66 #[va, .int .u64 sh] w fun e w' => ∃ (v : Value) (l : List Nat), e = .returned v ∧ Fresh w' w.heap.size v l ∧ l.length = A.length + 1 ∧ Sm l ∧ val l = val A * 2 ^ sh ∧ Below w.heap.size w w' := by
  obtain ⟨i0, hi, hz0, hz1, hz2⟩ := info_parts info_u32
  have RA := Lib.hid hA
  have SA := Lib.hid hSA
  obtain ⟨a1, c1, rfl⟩ := hA.form
  obtain ⟨m, hm⟩ : ∃ m, m = A.length := ⟨_, rfl⟩
  have HM := Lib.hid hm
  obtain ⟨N, hN⟩ : ∃ N, N = m + 1 := ⟨_, rfl⟩
  have hNN : (m : Int) + 1 = (N : Int) := by omega
  rw [← hm] at hlA
  rw [← hm]
  have hN1 : N ≤ 200000 := by omega
  have HN := Lib.hid hN
  have HSH := Lib.hid hsh
  have hs64 : sh < 64 := by omega
  have hb0 : Below w.heap.size w w := Below.refl _ w
  clear hA hSA hm hN hsh
  go_enter Tryz.func66, Tryz.ntmps66
  go_wp2_with (at_make; go_loud (refine wpList_make_full _ rfl _ _ 23 rfl w.heap.size 71 i0 (.int .u32 0) 1 Tryz.underlying23 hi hz0 hz1 .i64 .i64 _ _ N rfl rfl (by omega) (by omega) (by rw [hz2]; omega) (by unfold maxLen; omega) (by simp) ?_); intro w1 hown1 hgrow1)
  have hbel1 : Below w.heap.size w w1 := hb0.grown hgrow1 (Nat.le_refl _) (fun _ e => by cases e)
  have hF : Fresh w1 w.heap.size (.slice (some ⟨w.heap.size, 0, none⟩) N N) (List.replicate N 0) := by unfold Fresh; rw [List.length_replicate, ← replicate_zero_u32]; exact hown1
  obtain ⟨g, hg⟩ : ∃ g, g = w.heap.size := ⟨_, rfl⟩
  have HG := Lib.hid hg
  rw [← hg] at hF ⊢
  have hwg : w.heap.size ≤ g := by omega
  have HF1 := Lib.hid hF
  have HB1 := Lib.hid hbel1
  clear hown1 hgrow1 hF hbel1 hg
  have cellg : ∀ (W : World) (l : List Nat) (j : Nat), Fresh W g (.slice (some ⟨g, 0, none⟩) N N) l → l.length = N → j < N → W.cell? ⟨g, j, none⟩ = some (.int .u32 (l.getD j 0 : Nat)) ∧ W.frozen? ⟨g, j, none⟩ = false := by
    intro W l j hf hl hj
    have hf0 := hf
    unfold Fresh at hf0
    rw [hl] at hf0
    refine ⟨?_, World.ownsRow.frozenAt hf0 j⟩
    rcases hf.form with ⟨e, _⟩ | ⟨g', c, e, _, _, _, hcc⟩
    · cases e
    · simp only [Value.slice.injEq, Option.some.injEq, Addr.mk.injEq, and_true] at e
      obtain ⟨rfl, _⟩ := e
      have := hcc j (by omega)
      rwa [Nat.zero_add] at this
  have CG := Lib.hid cellg
  clear cellg
  go_loopg [6] m (fun gk s wr => ∃ (k : Nat) (l : List Nat), k + gk = m ∧ s = .int .i64 (k : Int) ∧ l.length = N ∧ Hid (Fresh wr g (.slice (some ⟨g, 0, none⟩) N N) l) ∧ Hid (Sm l ∧ l.getD k 0 < 2 ^ sh ∧ (∀ j, k < j → l.getD j 0 = 0) ∧ val l = val (A.take k) * 2 ^ sh) ∧ Hid (Below w.heap.size w wr))
  case atStart =>
    have hz : ∀ j, (List.replicate N 0).getD j 0 = 0 := fun j => by
      rw [List.getD_eq_getElem?_getD, List.getElem?_replicate]; split <;> rfl
    exact ⟨0, List.replicate N 0, by omega, rfl, by simp, HF1, Lib.hid ⟨Sm.replicate N, by rw [hz]; exact Nat.pow_pos (by decide), fun j _ => hz j, by rw [val_replicate]; simp [val]⟩, HB1⟩
  case round =>
    obtain ⟨k, l, hk, rfl, hl, HF, HV, HB⟩ := hrel
    have HL := Lib.hid hl
    by_cases hkm : k < m
    · obtain ⟨bb, ob, hbb, hcb⟩ := (RA.out.below HB.out).addr
      rw [← HM.out] at hbb hcb
      have r2 := hcb k hkm
      have eb := (hbb (by omega)).1
      subst eb
      obtain ⟨x, hx⟩ : ∃ x, x = A.getD k 0 := ⟨_, rfl⟩
      rw [← hx] at r2
      have hxb : x < 4294967296 := by rw [hx]; exact SA.out.getD k
      obtain ⟨c, hc⟩ : ∃ c, c = l.getD k 0 := ⟨_, rfl⟩
      have hN := HN.out
      obtain ⟨q1, q2⟩ := CG.out wr l k HF.out hl (by omega)
      have q3 := (CG.out wr l (k + 1) HF.out hl (by omega)).2
      rw [← hc] at q1
      obtain ⟨z, O, H, e1, e2, e3, e4, e5, e6, e7, e8, e9⟩ := up_bits (c := c) (x := x) (sh := sh) (by rw [hc]; exact HV.out.2.1) hxb HSH.out
      have hP1 := (HF.out.put hl.symm k O).1
      have hP2 := (hP1.put (by rw [List.length_set, hl]) (k + 1) H).1
      obtain ⟨q5, q4⟩ := CG.out _ _ (k + 1) hP1 (by rw [List.length_set, hl]) (by omega)
      obtain ⟨y, hy⟩ : ∃ y, y = (l.set k O).getD (k + 1) 0 := ⟨_, rfl⟩
      rw [← hy] at q5
      clear hy
      have hnx := up_next (A := A) (l := l) (k := k) (sh := sh) (z := z) (O := O) (H := H) (by rw [← HM.out]; exact hkm) (by rw [hl, hN, HM.out]) (by rw [e2, hx]) (by rw [e4, hc]) e6 (HV.out.2.2.1 (k + 1) (by omega)) HV.out.2.2.2
      have hfin : ∃ (k' : Nat) (l' : List Nat), k' + (m - (k + 1)) = m ∧ Value.int .i64 ((k : Int) + 1) = .int .i64 (k' : Int) ∧ l'.length = N ∧ Hid (Fresh ((wr.setCell ⟨g, k, none⟩ (.int .u32 (O : Int))).setCell ⟨g, k + 1, none⟩ (.int .u32 (H : Int))) g (.slice (some ⟨g, 0, none⟩) N N) l') ∧ Hid (Sm l' ∧ l'.getD k' 0 < 2 ^ sh ∧ (∀ j, k' < j → l'.getD j 0 = 0) ∧ val l' = val (A.take k') * 2 ^ sh) ∧ Hid (Below w.heap.size w ((wr.setCell ⟨g, k, none⟩ (.int .u32 (O : Int))).setCell ⟨g, k + 1, none⟩ (.int .u32 (H : Int)))) := by
        refine ⟨k + 1, (l.set k O).set (k + 1) H, by omega, by simp, by simp [hl], Lib.hid hP2, Lib.hid ⟨(HV.out.1.set k _ e5).set (k + 1) _ e8, ?_, ?_, hnx⟩, Lib.hid ((HB.out.setCell (p := ⟨g, k, none⟩) hwg _).setCell (p := ⟨g, k + 1, none⟩) hwg _)⟩
        · rw [getD_set_self (by rw [List.length_set, hl]; omega)]; exact e7
        · intro j hj
          rw [getD_set_other (by omega), getD_set_other (by omega)]
          exact HV.out.2.2.1 j (by omega)
      have FIN := Lib.hid hfin
      have u1 : (z : Int) / 4294967296 = (H : Int) := by rw [e6]; omega
      have u2 := w32_of H e8
      have u3 := w32_of O e5
      have E2 := Lib.hid e2
      have E4 := Lib.hid e4
      have E6 := Lib.hid e6
      clear hbb hcb hx hc e2 e4 e6 e7 hP1 hP2 hnx hfin HB HF hl hN
      go_wp2
      go_roundg (m - (k + 1))
      case measure => omega
      case rel => exact FIN.out
    · obtain rfl : k = m := by omega
      have hv : val l = val A * 2 ^ sh := by
        have h := HV.out.2.2.2
        rw [List.take_of_length_le (by have := HM.out; omega)] at h
        exact h
      have HVL := Lib.hid hv
      clear hv hl
      go_wp2
      go_ret
      exact ⟨_, l, rfl, by rw [← HG.out]; exact HF.out, by rw [HL.out, HN.out], HV.out.1, HVL.out, HB.out⟩

end Go.Proofs.YtlfanbjpfoaipaaGreatDoor

namespace Go.Proofs.YtlfanbjpfoaipaaGreatDoor.Nu

/-- a number by its lower parts and its highest two -/
theorem val_top2 {l : List Nat} {n : Nat} (hn : l.length = n + 2) : val l = val (l.take n) + 4294967296 ^ n * (l.getD n 0 + 4294967296 * l.getD (n + 1) 0) := by
  have h1 := val_take_succ l (n + 1)
  have h2 := val_take_succ l n
  rw [List.take_of_length_le (by omega)] at h1
  rw [h1, h2, Nat.pow_succ, Nat.mul_add]
  rw [Nat.add_assoc, Nat.mul_assoc]
/-- .. its highest three -/
theorem val_top3 {l : List Nat} {n : Nat} (hn : l.length = n + 3) : val l = val (l.take n) + 4294967296 ^ n * (l.getD n 0 + 4294967296 * (l.getD (n + 1) 0 + 4294967296 * l.getD (n + 2) 0)) := by
  have h1 := val_take_succ l (n + 2)
  have h2 := val_take_succ l (n + 1)
  have h3 := val_take_succ l n
  rw [List.take_of_length_le (by omega)] at h1
  have e1 : 4294967296 ^ (n + 1) = 4294967296 * 4294967296 ^ n := by rw [Nat.pow_succ, Nat.mul_comm]
  have e2 : 4294967296 ^ (n + 2) = 4294967296 * (4294967296 * 4294967296 ^ n) := by rw [Nat.pow_succ, e1, Nat.mul_comm]
  rw [e1] at h2
  rw [e2] at h1
  rw [h1, show n + 2 = n + 1 + 1 from rfl, h2, h3]
  generalize 4294967296 ^ n = P
  generalize l.getD n 0 = x
  generalize l.getD (n + 1) 0 = y
  generalize l.getD (n + 1 + 1) 0 = z
  clear h1 h2 h3 e1 e2 hn
  grind
theorem val_take_lt {l : List Nat} (h : Sm l) {n : Nat} (hn : n ≤ l.length) : val (l.take n) < 4294967296 ^ n := by
  have := val_lt (h.take n)
  rwa [List.length_take, Nat.min_eq_left hn] at this

section
variable {R D X r0 d0 v1 v2 rn rm rk T left : Nat}
/-- the guess at the start is not too small -/
theorem guess_start (hR : R = r0 + X * (rk + 4294967296 * (rm + 4294967296 * rn))) (hr : r0 < X) (hD : D = d0 + X * (v2 + 4294967296 * v1)) (hk : rk < 4294967296) (hv : 0 < v1) :
    R < ((rm + 4294967296 * rn) / v1 + 1) * D := by
  generalize hq : (rm + 4294967296 * rn) / v1 = q
  have h1 : rm + 4294967296 * rn + 1 ≤ (q + 1) * v1 := by
    have := Nat.div_add_mod (rm + 4294967296 * rn) v1
    have := Nat.mod_lt (rm + 4294967296 * rn) hv
    rw [hq] at *
    rw [Nat.add_mul, Nat.mul_comm q, Nat.one_mul]
    omega
  have h2 : R < X * (4294967296 * (rm + 4294967296 * rn + 1)) := by
    have : X * (rk + 4294967296 * (rm + 4294967296 * rn)) + X ≤ X * (4294967296 * (rm + 4294967296 * rn + 1)) := by
      rw [← Nat.mul_succ]; exact Nat.mul_le_mul_left _ (by omega)
    omega
  have h3 : X * (4294967296 * (rm + 4294967296 * rn + 1)) ≤ X * (4294967296 * ((q + 1) * v1)) := Nat.mul_le_mul_left _ (Nat.mul_le_mul_left _ h1)
  have h4 : X * (4294967296 * ((q + 1) * v1)) ≤ (q + 1) * D := by
    rw [hD]
    have : X * (4294967296 * ((q + 1) * v1)) = (q + 1) * (X * (4294967296 * v1)) := by
      rw [Nat.mul_left_comm 4294967296, Nat.mul_left_comm X]
    rw [this]
    refine Nat.mul_le_mul_left _ ?_
    rw [Nat.mul_add]; omega
  omega
/-- where the next part says so, it is too great -/
theorem guess_down (hR : R = r0 + X * (rk + 4294967296 * (rm + 4294967296 * rn))) (hr : r0 < X) (hD : D = d0 + X * (v2 + 4294967296 * v1)) (hh : rm + 4294967296 * rn = T * v1 + left)
    (hc : left * 4294967296 + rk < T * v2) : R < T * D := by
  have h1 : rk + 4294967296 * (rm + 4294967296 * rn) + 1 ≤ T * (v2 + 4294967296 * v1) := by
    rw [hh, Nat.mul_add T, Nat.mul_left_comm T, Nat.mul_add 4294967296]; omega
  have h2 : X * (rk + 4294967296 * (rm + 4294967296 * rn)) + X ≤ X * (T * (v2 + 4294967296 * v1)) := by
    rw [← Nat.mul_succ]; exact Nat.mul_le_mul_left _ h1
  have h3 : X * (T * (v2 + 4294967296 * v1)) ≤ T * D := by
    rw [hD, Nat.mul_add T (d0), Nat.mul_left_comm T X]; omega
  omega
theorem guess_down_top (h : R < 4294967296 * D) (hT : 4294967295 < T) : R < T * D :=
  Nat.lt_of_lt_of_le h (Nat.mul_le_mul_right _ (by omega))
/-- a guess that stands is at most one too great -/
theorem guess_end (hR : R = r0 + X * (rk + 4294967296 * (rm + 4294967296 * rn))) (hD : D = d0 + X * (v2 + 4294967296 * v1)) (hd : d0 < X) (hv : 2147483648 ≤ v1) (hT : T ≤ 4294967295)
    (hc : T * v2 + 4294967296 * (T * v1) ≤ rk + 4294967296 * (rm + 4294967296 * rn)) : (T - 1) * D ≤ R := by
  rcases Nat.eq_zero_or_pos T with rfl | hp
  · simp
  · obtain ⟨t, rfl⟩ : ∃ t, T = t + 1 := ⟨T - 1, by omega⟩
    rw [Nat.add_sub_cancel]
    have h1 : t * (v2 + 4294967296 * v1 + 1) ≤ rk + 4294967296 * (rm + 4294967296 * rn) := by
      have e1 : (t + 1) * v2 = t * v2 + v2 := by rw [Nat.add_mul, Nat.one_mul]
      have e2 : (t + 1) * v1 = t * v1 + v1 := by rw [Nat.add_mul, Nat.one_mul]
      rw [e1, e2] at hc
      rw [Nat.mul_add, Nat.mul_add, Nat.mul_left_comm t, Nat.mul_one]
      omega
    have h2 : t * D ≤ t * (X * (v2 + 4294967296 * v1 + 1)) := Nat.mul_le_mul_left _ (by rw [hD, Nat.mul_succ]; omega)
    have h3 : t * (X * (v2 + 4294967296 * v1 + 1)) = X * (t * (v2 + 4294967296 * v1 + 1)) := Nat.mul_left_comm ..
    have h4 := Nat.mul_le_mul_left X h1
    omega
theorem guess_end1 (hh : rm + 4294967296 * rn = T * v1 + left) (hc : T * v2 ≤ left * 4294967296 + rk) : T * v2 + 4294967296 * (T * v1) ≤ rk + 4294967296 * (rm + 4294967296 * rn) := by
  rw [hh, Nat.mul_add]; omega
theorem guess_end2 (hh : rm + 4294967296 * rn = T * v1 + left) (hl : 4294967295 < left) (hT : T ≤ 4294967295) (hv : v2 < 4294967296) : T * v2 + 4294967296 * (T * v1) ≤ rk + 4294967296 * (rm + 4294967296 * rn) := by
  have : T * v2 ≤ 4294967295 * 4294967295 := Nat.mul_le_mul hT (by omega)
  rw [hh, Nat.mul_add]; omega
/-- where much is left, the guess goes into a part -/
theorem guess_part (hR : R = r0 + X * (rk + 4294967296 * (rm + 4294967296 * rn))) (hD : D = d0 + X * (v2 + 4294967296 * v1)) (hd : d0 < X) (hv : v2 < 4294967296) (h : R < 4294967296 * D)
    (hh : rm + 4294967296 * rn = T * v1 + left) (hl : 4294967295 < left) : T ≤ 4294967295 := by
  have h1 : X * (4294967296 * (rm + 4294967296 * rn)) ≤ R := by rw [hR, Nat.mul_add X]; omega
  have h2 : D < X * (4294967296 * (v1 + 1)) := by
    have : X * (v2 + 4294967296 * v1) + X ≤ X * (4294967296 * (v1 + 1)) := by rw [← Nat.mul_succ]; exact Nat.mul_le_mul_left _ (by omega)
    omega
  have h3 : X * (4294967296 * (rm + 4294967296 * rn)) < X * (4294967296 * (4294967296 * (v1 + 1))) := by
    have : X * (4294967296 * (4294967296 * (v1 + 1))) = 4294967296 * (X * (4294967296 * (v1 + 1))) := Nat.mul_left_comm ..
    omega
  have h4 := Nat.lt_of_mul_lt_mul_left h3
  have h5 : T * v1 < 4294967296 * v1 := by omega
  have := Nat.lt_of_mul_lt_mul_right h5
  omega
end

/-- what one times too much makes -/
theorem take_out {R D T : Nat} (h1 : (T - 1) * D ≤ R) (h2 : R < (T + 1) * D) : (T * D ≤ R ∧ R / D = T ∧ R - T * D = R % D) ∨ (R < T * D ∧ R / D = T - 1 ∧ R + D - T * D = R % D ∧ 0 < T) := by
  have hD : 0 < D := by
    rcases Nat.eq_zero_or_pos D with h | h
    · subst h; simp at h2
    · exact h
  rcases Nat.lt_or_ge R (T * D) with h | h
  · have hT : 0 < T := by
      rcases Nat.eq_zero_or_pos T with h0 | h0
      · subst h0; simp at h
      · exact h0
    obtain ⟨t, rfl⟩ : ∃ t, T = t + 1 := ⟨T - 1, by omega⟩
    rw [Nat.add_sub_cancel] at h1 ⊢
    have e : (t + 1) * D = t * D + D := by rw [Nat.add_mul, Nat.one_mul]
    have hq : R / D = t := by
      rw [Nat.div_eq_iff hD]
      constructor <;> omega
    refine .inr ⟨h, hq, ?_, hT⟩
    have := Nat.div_add_mod R D
    rw [hq, Nat.mul_comm] at this
    omega
  · have e : (T + 1) * D = T * D + D := by rw [Nat.add_mul, Nat.one_mul]
    have hq : R / D = T := by
      rw [Nat.div_eq_iff hD]
      constructor <;> omega
    refine .inl ⟨h, hq, ?_⟩
    have := Nat.div_add_mod R D
    rw [hq, Nat.mul_comm] at this
    omega

/-- one part more of a number less another one so many times, in place -/
theorem ring_less (A P a b x t p c bo r c2 bo2 : Int) (h : A + x * b = a + P * (c + bo)) (hr : r - bo2 * 4294967296 = t - (c + p * x - c2 * 4294967296) - bo) :
    (A + P * r) + x * (b + P * p) = (a + P * t) + P * 4294967296 * (c2 + bo2) := by grind
end Go.Proofs.YtlfanbjpfoaipaaGreatDoor.Nu

namespace Go.Proofs.YtlfanbjpfoaipaaGreatDoor
open Go Go.Proofs Go.RowKit Go.Shelf Nu

attribute [local go_sem] Oper.semAt_some

theorem head_or (a b : Nat) (ha : a < 4294967296) (hb : b < 4294967296) : ∃ H : Nat, bits BinOp.or IntKind.u64 ((a : Int) * 4294967296) (b : Int) = (H : Int) ∧ H = b + 4294967296 * a ∧ H < 18446744073709551616 :=
  ⟨a * 4294967296 + b, or_shl a b ha hb, by omega, by omega⟩

theorem guess_next {H T v1 l R D : Nat} (h : H = T * v1 + l) (hd : R < T * D) (hT : 0 < T) : H = (T - 1) * v1 + (l + v1) ∧ R < (T - 1 + 1) * D := by
  obtain ⟨t, rfl⟩ : ∃ t, T = t + 1 := ⟨T - 1, by omega⟩
  rw [Nat.add_sub_cancel]
  refine ⟨?_, hd⟩
  rw [h, Nat.add_mul, Nat.one_mul]
  omega
theorem drew3 (w : World) (a b c : Nat) : ∃ m, ((w.drewN a).drewN b).drewN c = w.drewN m := ⟨_, (congrArg (fun x => x.drewN c) (World.drewN_drewN ..)).trans (World.drewN_drewN ..)⟩
theorem or_shl' (l k : Nat) (hl : l < 4294967296) (hk : k < 4294967296) : ∃ O : Nat, bits BinOp.or IntKind.u64 ((l : Int) * 4294967296) (k : Int) = (O : Int) ∧ O = l * 4294967296 + k := ⟨_, or_shl l k hl hk, rfl⟩

set_option maxRecDepth 100000 in
set_option maxHeartbeats 4000000 in
theorem guess_any {w : World} {br bb or_ ob cr cb n : Nat} {lr lb : List Nat} (hcr : ∀ j, j < n + 3 → w.cell? ⟨br, or_ + j, none⟩ = some (.int .u32 (lr.getD j 0 : Nat))) (hcb : ∀ j, j < n + 2 → w.cell? ⟨bb, ob + j, none⟩ = some (.int .u32 (lb.getD j 0 : Nat)))
    (hr : lr.length = n + 3) (hb : lb.length = n + 2) (hn : n ≤ 100000) (hsr : Sm lr) (hsb : Sm lb) (hv : 2147483648 ≤ lb.getD (n + 1) 0) (h : val lr < 4294967296 * val lb) :
    Calls Tryz.prog 224 #[.slice (some ⟨br, or_, none⟩) (n + 3 : Nat) cr, .slice (some ⟨bb, ob, none⟩) (n + 2 : Nat) cb] w fun e w' => ∃ T : Nat, e = .returned (.int .u32 T) ∧ T < 4294967296 ∧ (T - 1) * val lb ≤ val lr ∧ val lr < (T + 1) * val lb ∧ ∃ m, w' = w.drewN m := by
  have eR := val_top3 hr
  have eD := val_top2 hb
  have lR := val_take_lt hsr (n := n) (by omega)
  have lD := val_take_lt hsb (n := n) (by omega)
  have c1 := hcb (n + 1) (by omega)
  have c2 := hcb n (by omega)
  have c3 := hcr (n + 2) (by omega)
  have c4 := hcr (n + 1) (by omega)
  have c5 := hcr n (by omega)
  have b1 := hsb.getD (n + 1)
  have b2 := hsb.getD n
  have b3 := hsr.getD (n + 2)
  have b4 := hsr.getD (n + 1)
  have b5 := hsr.getD n
  obtain ⟨v1, hv1⟩ : ∃ x, x = lb.getD (n + 1) 0 := ⟨_, rfl⟩
  obtain ⟨v2, hv2⟩ : ∃ x, x = lb.getD n 0 := ⟨_, rfl⟩
  obtain ⟨rn, hrn⟩ : ∃ x, x = lr.getD (n + 2) 0 := ⟨_, rfl⟩
  obtain ⟨rm, hrm⟩ : ∃ x, x = lr.getD (n + 1) 0 := ⟨_, rfl⟩
  obtain ⟨rk, hrk⟩ : ∃ x, x = lr.getD n 0 := ⟨_, rfl⟩
  obtain ⟨R, hR⟩ : ∃ x, x = val lr := ⟨_, rfl⟩
  obtain ⟨D, hD⟩ : ∃ x, x = val lb := ⟨_, rfl⟩
  obtain ⟨X, hX⟩ : ∃ x, x = 4294967296 ^ n := ⟨_, rfl⟩
  obtain ⟨r0, hr0⟩ : ∃ x, x = val (lr.take n) := ⟨_, rfl⟩
  obtain ⟨d0, hd0⟩ : ∃ x, x = val (lb.take n) := ⟨_, rfl⟩
  rw [← hR, ← hX, ← hr0, ← hrn, ← hrm, ← hrk] at eR
  rw [← hD, ← hX, ← hd0, ← hv1, ← hv2] at eD
  rw [← hX, ← hr0] at lR
  rw [← hX, ← hd0] at lD
  rw [← hv1] at c1 b1 hv
  rw [← hv2] at c2 b2
  rw [← hrn] at c3 b3
  rw [← hrm] at c4 b4
  rw [← hrk] at c5 b5
  rw [← hR, ← hD] at h ⊢
  clear hv1 hv2 hrn hrm hrk hR hD hX hr0 hd0 hr hb hsr hsb hcr hcb
  obtain ⟨H, hH1, hH2, hH3⟩ := head_or rn rm b3 b4
  have g0 := guess_start eR lR eD b5 (show 0 < v1 by omega)
  rw [← hH2] at g0
  have gd := @guess_down R D X r0 d0 v1 v2 rn rm rk
  have gt := @guess_down_top R D
  have ge := @guess_end R D X r0 d0 v1 v2 rn rm rk
  have ge1 := @guess_end1 v1 v2 rn rm rk
  have ge2 := @guess_end2 v1 v2 rn rm rk
  have gp := @guess_part R D X r0 d0 v1 v2 rn rm rk
  have HE : Hid ((∀ T left, H = T * v1 + left → left * 4294967296 + rk < T * v2 → R < T * D) ∧ (∀ T, 4294967295 < T → R < T * D) ∧ (∀ T left, H = T * v1 + left → T ≤ 4294967295 → (4294967295 < left ∨ T * v2 ≤ left * 4294967296 + rk) → (T - 1) * D ≤ R) ∧ (∀ T left, H = T * v1 + left → 4294967295 < left → T ≤ 4294967295)) := Lib.hid
    ⟨fun T left e hc => gd eR lR eD (hH2 ▸ e) hc, fun T hT => gt h hT, fun T left e hT hc => ge eR eD lD hv hT (hc.elim (fun hl => ge2 (hH2 ▸ e) hl hT b2) (fun hc => ge1 (hH2 ▸ e) hc)), fun T left e hl => gp eR eD lD b2 h (hH2 ▸ e) hl⟩
  clear gd gt ge ge1 ge2 gp eR eD lR lD h hH2
  obtain ⟨q, hq⟩ : ∃ q, q = H / v1 := ⟨_, rfl⟩
  obtain ⟨l0, hl0⟩ : ∃ l, l = H % v1 := ⟨_, rfl⟩
  have hq1 : H = q * v1 + l0 := by rw [hq, hl0, Nat.mul_comm]; exact (Nat.div_add_mod H v1).symm
  have hq2 : q < 8589934592 := by
    rw [hq]; exact Nat.lt_of_le_of_lt (Nat.div_le_div_left hv (by decide)) (by omega)
  have hl2 : l0 < 4294967296 := by rw [hl0]; exact Nat.lt_trans (Nat.mod_lt _ (by omega)) b1
  rw [← hq] at g0
  have e1 : (H : Int) / (v1 : Int) = (q : Int) := by rw [hq]; push_cast; rfl
  have e2 : (H : Int) % (v1 : Int) = (l0 : Int) := by rw [hl0]; push_cast; rfl
  have G0 := Lib.hid g0
  have HQ := Lib.hid hq1
  clear hq hl0 hq1 g0
  have i1 : ((n + 2 : Nat) : Int) - 1 = ((n + 1 : Nat) : Int) := by omega
  have i2 : ((n + 2 : Nat) : Int) - 2 = (n : Int) := by omega
  obtain ⟨N, hN⟩ : ∃ N, N = n + 2 := ⟨_, rfl⟩
  obtain ⟨M, hM⟩ : ∃ M, M = n + 1 := ⟨_, rfl⟩
  obtain ⟨K, hK⟩ : ∃ K, K = n + 3 := ⟨_, rfl⟩
  rw [← hN] at i1 i2 c3 ⊢
  rw [← hM] at i1 c1 c4
  rw [← hK]
  have l1 : N < K := by omega
  have l2 : M < N := by omega
  have l3 : n < M := by omega
  have l4 : N ≤ 100002 := by omega
  have u1 := w64_of q (by omega)
  have u2 := w64_of l0 (by omega)
  have u0 : ¬ (v1 : Int) = 0 := by omega
  clear hN hM hK hv
  go_enter Tryz.func224, Tryz.ntmps224
  go_wp2
  go_quiet (fail)
  go_wp2
  go_quiet (fail)
  go_wp2
  go_quiet (fail)
  go_wp2
  go_loopw [9, 10] (fun x y wr => ∃ T l m : Nat, T < 8589934592 ∧ l < 8589934592 ∧ x = .int .u64 T ∧ y = .int .u64 l ∧ Hid (H = T * v1 + l ∧ R < (T + 1) * D) ∧ wr = w.drewN m) (fun x _ _ => (intOf x).toNat)
  case atStart =>
    obtain ⟨m, hm⟩ := drew3 w _ _ _
    exact ⟨q, l0, m, hq2, by omega, by first | rfl | rw [e1], by first | rfl | rw [e2], Lib.hid ⟨HQ.out, G0.out⟩, hm⟩
  case round =>
    obtain ⟨T, l, m, hT, hl, rfl, rfl, HI, rfl⟩ := hrel
    clear e1 e2 u1 u2 c1 c2 c3 c4 hH1 HQ G0 hq2 hl2 i1
    by_cases hl1 : 4294967295 < l
    · have hT1 := HE.out.2.2.2 T l HI.out.1 hl1
      have hfin := Lib.hid (HE.out.2.2.1 T l HI.out.1 hT1 (.inl hl1))
      have hi1 : ¬ (l : Int) ≤ 4294967295 := by omega
      have u3 := w32_of T (by omega)
      go_wp2
      go_ret
      exact ⟨T, rfl, by omega, hfin.out, HI.out.2, m, rfl⟩
    · have hi1 : (l : Int) ≤ 4294967295 := by omega
      by_cases hT1 : 4294967295 < T
      · have hd := Lib.hid (HE.out.2.1 T hT1)
        have hTp : 0 < T := by omega
        have hi2 : (4294967295 : Int) < (T : Int) := by omega
        go_wp2
        exact ⟨⟨T - 1, l + v1, m, by omega, by omega, by congr 1; omega, by congr 1, Lib.hid (guess_next HI.out.1 hd.out hTp), rfl⟩, by simp [intOf]; omega⟩
      · obtain ⟨P, hP, HP, hPb⟩ := mul_bound (x := T) (t := v2) (by omega) b2
        obtain ⟨O, hO, HO⟩ := or_shl' l rk (by omega) b5
        have hi2 : ¬ (4294967295 : Int) < (T : Int) := by omega
        by_cases hc : O < P
        · have hd := Lib.hid (HE.out.1 T l HI.out.1 (by rw [← HP, ← HO]; exact hc))
          have hi4 : (O : Int) < (P : Int) := by omega
          have hTp : 0 < T := by
            rcases Nat.eq_zero_or_pos T with h | h
            · rw [h, Nat.zero_mul] at HP; omega
            · exact h
          have HP' := Lib.hid HP
          have HO' := Lib.hid HO
          clear HP HO
          go_wp2
          exact ⟨⟨T - 1, l + v1, m, by omega, by omega, by congr 1; omega, by congr 1, Lib.hid (guess_next HI.out.1 hd.out hTp), rfl⟩, by simp [intOf]; omega⟩
        · have hfin := Lib.hid (HE.out.2.2.1 T l HI.out.1 (by omega) (.inr (by rw [← HP, ← HO]; omega)))
          have hi4 : ¬ (O : Int) < (P : Int) := by omega
          have HP' := Lib.hid HP
          have HO' := Lib.hid HO
          have u3 := w32_of T (by omega)
          clear HP HO
          go_wp2
          go_ret
          exact ⟨T, rfl, by omega, hfin.out, HI.out.2, m, rfl⟩

end Go.Proofs.YtlfanbjpfoaipaaGreatDoor

namespace Go.Proofs.YtlfanbjpfoaipaaGreatDoor
open Go Go.Proofs Go.RowKit Go.Shelf Nu

attribute [local go_sem] Oper.semAt_some

/-- guess, of a row in a block that is written -/
theorem guess_row {w : World} {g o cap n : Nat} {pre post : List Value} {row lb : List Nat} {vb : Value} (hb : Blk w g pre row post) (ho : pre.length = o) (hB : Reads w vb lb) (hl : lb.length = n + 2) (hr : row.length = n + 3) (hn : n ≤ 100000) (hsr : Sm row) (hsb : Sm lb) (hv : 2147483648 ≤ lb.getD (n + 1) 0) (h : val row < 4294967296 * val lb) :
    Calls Tryz.prog 224 #[.slice (some ⟨g, o, none⟩) row.length cap, vb] w fun e w' => ∃ T : Nat, e = .returned (.int .u32 T) ∧ T < 4294967296 ∧ (T - 1) * val lb ≤ val row ∧ val row < (T + 1) * val lb ∧ ∃ m, w' = w.drewN m := by
  rcases hB with ⟨_, e⟩ | ⟨bb, ob, cb, rfl, hbb, hcb, hc⟩ | ⟨_, _, e⟩
  rotate_right
  · rw [e] at hl; simp at hl
  · rw [e] at hl; simp at hl
  · rw [hr, hl]
    exact guess_any (fun j hj => hb.cell ho j (by omega)) (fun j hj => hc j (by omega)) hr hl hn hsr hsb hv h

/-- one time too much was taken -/
def R_take (T : Nat) (row lb : List Nat) : Prop := val row < T * val lb ∧ val row / val lb = T - 1 ∧ val row + val lb - T * val lb = val row % val lb ∧ 0 < T
theorem back_once {P r2 c z X u : Nat} (hx : X < P * 4294967296) (hu : u = r2 + P * ((z + c) % 4294967296)) (hul : u < P * 4294967296)
    (h2 : r2 + P * (c + z) = X + P * 4294967296) : u = X := by
  have e : P * (c + z) = P * ((z + c) % 4294967296) + P * 4294967296 * ((z + c) / 4294967296) := by
    rw [Nat.mul_assoc, ← Nat.mul_add]
    congr 1
    omega
  generalize (z + c) / 4294967296 = k at e
  generalize P * 4294967296 = M at *
  rcases Nat.lt_or_ge k 1 with h | h
  · obtain rfl : k = 0 := by omega
    omega
  · rcases Nat.lt_or_ge 1 k with h3 | h3
    · have : M * 2 ≤ M * k := Nat.mul_le_mul_left _ h3
      omega
    · obtain rfl : k = 1 := by omega
      omega

theorem take_less {T : Nat} (hT : T < 4294967296) (h : 0 < T) : IntKind.u32.wrap ((T : Int) - 1) = ((T - 1 : Nat) : Int) := by
  rw [IntKind.wrap_u32']; omega
theorem take_val {row row' lb r2 : List Nat} {n q z c T : Nat} (h1 : row'.length = row.length) (h2 : row.length = n + 3) (h3 : lb.length = n + 2) (h4 : q = lb.length) (h5 : z = row'.getD q 0) (hs : Sm row') (hsb : Sm lb) (s2 : Sm r2) (_hc : c < 4294967296)
    (l2 : r2.length = q) (e5 : val r2 + 4294967296 ^ q * c = val (row'.take q) + 1 * val lb) (hv : val row' + T * val lb = val row + 4294967296 ^ row.length) (hT : R_take T row lb) :
    val ((r2 ++ row'.drop q).set q ((z + c) % 4294967296)) = val row % val lb := by
  obtain ⟨t1, t2, t3, t4⟩ := hT
  have hq : row'.length = q + 1 := by omega
  have hzb : z < 4294967296 := by rw [h5]; exact hs.getD q
  have ed : row'.drop q = [z] := by
    rw [List.drop_eq_getElem_cons (by omega), List.drop_of_length_le (by omega), h5, List.getD_eq_getElem?_getD, List.getElem?_eq_getElem (by omega)]; rfl
  have es : (r2 ++ [z]).set q ((z + c) % 4294967296) = r2 ++ [(z + c) % 4294967296] := by
    rw [List.set_append_right _ _ (by omega), l2, Nat.sub_self]; rfl
  have ev := val_take_succ row' q
  rw [List.take_of_length_le (by omega), ← h5] at ev
  rw [ed, es, val_snoc, l2]
  have hD0 : 0 < val lb := by
    rcases Nat.eq_zero_or_pos (val lb) with h | h
    · rw [h] at t1; simp at t1
    · exact h
  have hdl := val_lt hsb
  rw [← h4] at hdl
  have hm := Nat.mod_lt (val row) hD0
  have hdiv := Nat.div_mul_le_self (val row) (val lb)
  rw [t2] at hdiv
  have hTD : T * val lb = (T - 1) * val lb + val lb := by
    obtain ⟨t, rfl⟩ : ∃ t, T = t + 1 := ⟨T - 1, by omega⟩
    rw [Nat.add_sub_cancel, Nat.add_mul, Nat.one_mul]
  have hlen : row.length = q + 1 := by omega
  rw [hlen, Nat.pow_succ] at hv
  have hul := val_lt (s2.snoc (x := (z + c) % 4294967296) (by omega))
  rw [List.length_append, l2, List.length_singleton, Nat.pow_succ, val_snoc, l2] at hul
  have hP : 0 < 4294967296 ^ q := Nat.pow_pos (by decide)
  refine back_once (P := 4294967296 ^ q) (r2 := val r2) (c := c) (z := z) ?_ rfl hul ?_
  · generalize 4294967296 ^ q = P at *; omega
  · rw [Nat.mul_add]
    generalize 4294967296 ^ q = P at *
    generalize P * z = a at *
    generalize P * c = b at *
    omega

set_option maxRecDepth 100000 in
set_option maxHeartbeats 4000000 in
theorem takeOut_any {w : World} {g o cap n : Nat} {pre post : List Value} {row lb : List Nat} {vb : Value} (hb : Blk w g pre row post) (ho : pre.length = o) (hcap : row.length ≤ cap) (hB : Reads w vb lb) (hne : vb.ownBlock ≠ some g) (hl : lb.length = n + 2) (hr : row.length = n + 3) (hn : n ≤ 90000) (hso : o ≤ 1000000)
    (hsr : Sm row) (hsb : Sm lb) (hv : 2147483648 ≤ lb.getD (n + 1) 0) (h : val row < 4294967296 * val lb) :
    Calls Tryz.prog 204 #[.slice (some ⟨g, o, none⟩) row.length cap, vb] w fun e w' => ∃ (row' : List Nat) (q : Nat), e = .returned (.int .u32 q) ∧ q = val row / val lb ∧ q < 4294967296 ∧ Blk w' g pre row' post ∧ row'.length = row.length ∧ Sm row' ∧ val row' = val row % val lb ∧ w.grownBy w' (some g) := by
  have kg := guess_row (cap := cap) hb ho hB hl hr (by omega) hsr hsb hv h
  have ks : ∀ (T m : Nat), T < 4294967296 → _ := fun T m hT => subTimes_any (w := w.drewN m) (cap := cap) (t := T) (hb.kept (row := none) ⟨rfl, rfl, rfl, Nat.le_refl _, fun _ _ _ => rfl⟩ (by simp)) ho hcap (hB.below (W' := w.drewN m) ⟨rfl, rfl, rfl, Nat.le_refl _, fun _ _ => rfl⟩) hne (by omega) (by omega) hso hsr hsb hT
  have hB0 := hB
  obtain ⟨b1, d1, rfl⟩ := hB.form
  have hgl : ∀ m, (w.drewN m).heap.size = w.heap.size := fun _ => rfl
  go_enter Tryz.func204, Tryz.ntmps204
  have HV := Lib.hid hv
  have HH := Lib.hid h
  have HR := Lib.hid hr
  have HL := Lib.hid hl
  have HB := Lib.hid hB0
  clear hv h hr hl hB hB0
  go_wp2_with (first
    | (go_at_call 224; refine kg.mono ?_; clear kg; rintro e w' ⟨T, rfl, hT, hlo, hhi, m, rfl⟩; have HTO := Lib.hid (take_out hlo hhi); clear hlo hhi)
    | (go_at_call 225; refine (ks T m hT).mono ?_; clear ks; rintro e w2 ⟨row', b, rfl, hb2, hlen, hs2, hval, hg2⟩; have HVAL := Lib.hid hval; have HLEN := Lib.hid hlen; clear hval hlen; cases b))
  · have hv2 := HVAL.out
    simp only [Bool.false_eq_true, if_false, Nat.add_zero] at hv2
    go_ret
    rcases HTO.out with ⟨h1, h2, h3⟩ | ⟨h1, h2, h3, h4⟩
    · exact ⟨row', T, rfl, h2.symm, hT, hb2, HLEN.out, hs2, by omega, ⟨hg2.os, hg2.tape, hg2.output, hg2.size, hg2.block⟩⟩
    · omega
  · have hv2 := HVAL.out
    simp only [if_true] at hv2
    have hT0 : R_take T row lb := by
      rcases HTO.out with ⟨h1, h2, h3⟩ | h
      · have := val_lt hs2
        rw [HLEN.out] at this
        omega
      · exact h
    have HV2 := Lib.hid hv2
    have HT0 := Lib.hid hT0
    obtain ⟨q, hq⟩ : ∃ q, q = lb.length := ⟨_, rfl⟩
    have hq1 : q < row'.length := by rw [HLEN.out, HR.out, hq, HL.out]; omega
    have hbT : Blk w2 g pre (row'.take q ++ row'.drop q) post := by rw [List.take_append_drop]; exact hb2
    have hbS : Blk w2 g pre (row'.take q) ((row'.drop q).map u32v ++ post) := by
      have := (Blk.split (a := []) (b := row'.take q) (c := row'.drop q)).1 (by simpa using hbT)
      simpa using this
    have htl : (row'.take q).length = q := by rw [List.length_take]; omega
    have hgw := hb2.lt
    have hg2s := hg2.size
    have kadd := addTimes_any (w := w2.drew) (cap := cap) (t := 1) (lb := lb) (vb := .slice b1 lb.length d1) (hbS.kept (row := none) ⟨rfl, rfl, rfl, Nat.le_refl _, fun _ _ _ => rfl⟩ (by simp)) ho (by rw [htl]; have := HLEN.out; omega)
      ((HB.out.below (W' := w.drewN m) ⟨rfl, rfl, rfl, Nat.le_refl _, fun _ _ => rfl⟩).grown (g := g) (W := w2.drew) ⟨hg2.os, hg2.tape, hg2.output, hg2.size, hg2.block⟩ hne) (fun _ => hne) (by rw [htl, hq]) (by have := HL.out; omega) hso (hs2.take q) hsb (by decide)
    rw [htl] at kadd
    have c1 := hb2.cell ho q hq1
    obtain ⟨z, hz⟩ : ∃ z, z = row'.getD q 0 := ⟨_, rfl⟩
    rw [← hz] at c1
    rw [← hq] at kadd ⊢
    have HZ := Lib.hid hz
    have HQ := Lib.hid hq
    have HQ1 := Lib.hid hq1
    have HTL := Lib.hid htl
    clear hz hq hv2 hT0 hbT
    have hqr : (q : Int) < (row.length : Int) := by have := HLEN.out; have := HQ1.out; omega
    have hqc : ¬ (cap : Int) < (q : Int) := by have := HLEN.out; have := HQ1.out; omega
    have hqc2 : ¬ cap < q := by omega
    have hzb : z < 4294967296 := by rw [HZ.out]; exact hs2.getD q
    refine wp_region_held (S := fun _ => True) (by kernel_rfl) ?_
    change wpAnyH _ _ _ _ _ _ _ _ w2.drew
    have c2 : w2.drew.cell? ⟨g, o + q, none⟩ = some (.int .u32 z) := c1
    refine wpAnyH_take (i := 0) (v := .slice (some ⟨g, o, none⟩) row.length cap) rfl (by kernel_rfl) (by kernel_rfl) (by kernel_rfl) (fun _ _ _ h => h) (Or.inl ⟨by rfl, fun W3 _ => by go_simp⟩) trivial ?_
    refine wpAnyH_take (i := 1) (v := .slice b1 q d1) rfl (by kernel_rfl) (by kernel_rfl) (by kernel_rfl) (fun _ _ _ h => h) (Or.inl ⟨by rfl, fun W3 _ => by go_simp⟩) trivial ?_
    refine wpAnyH_take (i := 2) (v := .int .i64 q) rfl (by kernel_rfl) (by kernel_rfl) (by kernel_rfl) (fun _ _ _ h => h) (Or.inl ⟨by rfl, fun W3 _ => by go_simp⟩) trivial ?_
    refine wpAnyH_take (i := 3) (v := .pointer (some ⟨g, o + q, none⟩)) rfl (by kernel_rfl) (by kernel_rfl) (by kernel_rfl) (fun _ _ _ h => h) (Or.inl ⟨by rfl, fun W3 _ => by go_simp⟩) trivial ?_
    refine wpAnyH_take (i := 5) (v := .slice (some ⟨g, o, none⟩) row.length cap) rfl (by kernel_rfl) (by kernel_rfl) (by kernel_rfl) (fun _ _ _ h => h) (Or.inl ⟨by rfl, fun W3 _ => by go_simp⟩) trivial ?_
    refine wpAnyH_take (i := 6) (v := .slice b1 q d1) rfl (by kernel_rfl) (by kernel_rfl) (by kernel_rfl) (fun _ _ _ h => h) (Or.inl ⟨by rfl, fun W3 _ => by go_simp⟩) trivial ?_
    refine wpAnyH_take (i := 7) (v := .int .i64 q) rfl (by kernel_rfl) (by kernel_rfl) (by kernel_rfl) (fun _ _ _ h => h) (Or.inl ⟨by rfl, fun W3 _ => by go_simp⟩) trivial ?_
    refine wpAnyH_take (i := 8) (v := .slice (some ⟨g, o, none⟩) q cap) rfl (by kernel_rfl) (by kernel_rfl) (by kernel_rfl) (fun _ _ _ h => h) (Or.inl ⟨by rfl, fun W3 _ => by go_simp⟩) trivial ?_
    refine wpAnyH_take (i := 9) (v := .slice b1 q d1) rfl (by kernel_rfl) (by kernel_rfl) (by kernel_rfl) (fun _ _ _ h => h) (Or.inl ⟨by rfl, fun W3 _ => by go_simp⟩) trivial ?_
    refine wpAnyH_all (rs := [4, 10]) (by kernel_rfl) (by simp) ?_
    intro i hi
    have hi2 : i = 4 ∨ i = 10 := by simpa using hi
    clear hi
    rcases hi2 with rfl | rfl
    · refine wpOp_intro rfl (fun K4 hK => ?_)
      go_simp
      refine hK _ _ ⟨trivial, ?_⟩
      clear hK K4
      refine wpAnyH_all (rs := [10]) (by kernel_rfl) (by simp) ?_
      intro i hi
      obtain rfl : i = 10 := by simpa using hi
      refine wpOp_intro rfl (fun K10 hK => ?_)
      clear hi
      go_simp
      refine kadd.mono ?_
      rintro e w4 ⟨r2, c, rfl, q1, q2, q3, q4, q5, q6⟩
      have Q5 := Lib.hid q5
      have Q2 := Lib.hid q2
      have q7 : Blk w4 g pre (r2 ++ row'.drop q) post := by
        have := (Blk.split (W := w4) (g := g) (pre := pre) (post := post) (a := []) (b := r2) (c := row'.drop q)).2 (by simpa using q1)
        simpa using this
      have hl7 : q < (r2 ++ row'.drop q).length := by have := HQ1.out; rw [List.length_append, List.length_drop, q2]; omega
      have ez : (r2 ++ row'.drop q).getD q 0 = z := by
        rw [List.getD_eq_getElem?_getD, List.getElem?_append_right (by omega), q2, Nat.sub_self, List.getElem?_drop, Nat.add_zero, ← List.getD_eq_getElem?_getD]
        exact HZ.out.symm
      have c7 := q7.cell ho q hl7
      have f7 := q7.frozen (o + q)
      rw [ez] at c7
      have q8 := q7.set ho q ((z + c) % 4294967296) hl7
      have HL7 := Lib.hid hl7
      refine hK _ _ ⟨trivial, ?_⟩
      clear hK K10 kadd q5 q2 q7 hl7 ez
      refine wpAnyH_take (i := 11) (v := .int .u32 (((z : Int) + (c : Int)) % 4294967296)) rfl (by kernel_rfl) (by kernel_rfl) (by kernel_rfl) (fun _ _ _ h => h) (Or.inl ⟨by rfl, fun W3 _ => by go_simp; rw [IntKind.wrap_u32']⟩) trivial ?_
      refine wpAnyH_take (i := 12) (v := .pointer (some ⟨g, o + q, none⟩)) rfl (by kernel_rfl) (by kernel_rfl) (by kernel_rfl) (fun _ _ _ h => h) (Or.inl ⟨by rfl, fun W3 _ => by go_simp⟩) trivial ?_
      refine wpAnyH_all (rs := [13]) (by kernel_rfl) (by simp) ?_
      intro i hi
      obtain rfl : i = 13 := by simpa using hi
      refine wpOp_intro rfl (fun K13 hK => ?_)
      clear hi
      go_simp
      refine hK _ _ ⟨trivial, ?_⟩
      clear hK K13
      refine wpAnyH_done (by kernel_rfl) ?_ _
      have uT := take_less hT HT0.out.2.2.2
      go_wp2
      go_ret
      rw [show (((z + c) % 4294967296 : Nat) : Int) = ((z : Int) + (c : Int)) % 4294967296 by omega] at q8
      refine ⟨_, T - 1, rfl, HT0.out.2.1.symm, by omega, q8, ?_, (q3.append (hs2.drop q)).set _ _ (by omega), ?_, grown_setCell (show w.grownBy w4 (some g) from ⟨q6.os.trans hg2.os, q6.tape.trans hg2.tape, q6.output.trans hg2.output, Nat.le_trans hg2.size q6.size, fun k hk hne => (q6.block k (Nat.lt_of_lt_of_le hk hg2.size) hne).trans (hg2.block k hk hne)⟩) _ _⟩
      · rw [List.length_set, List.length_append, List.length_drop, Q2.out]; have := HQ1.out; have := HLEN.out; omega
      · exact take_val HLEN.out HR.out HL.out HQ.out HZ.out hs2 hsb q3 q4 Q2.out Q5.out HV2.out HT0.out
    · refine wpOp_intro rfl (fun K10 hK => ?_)
      go_simp
      refine kadd.mono ?_
      rintro e w4 ⟨r2, c, rfl, q1, q2, q3, q4, q5, q6⟩
      have Q5 := Lib.hid q5
      have Q2 := Lib.hid q2
      have q7 : Blk w4 g pre (r2 ++ row'.drop q) post := by
        have := (Blk.split (W := w4) (g := g) (pre := pre) (post := post) (a := []) (b := r2) (c := row'.drop q)).2 (by simpa using q1)
        simpa using this
      have hl7 : q < (r2 ++ row'.drop q).length := by have := HQ1.out; rw [List.length_append, List.length_drop, q2]; omega
      have ez : (r2 ++ row'.drop q).getD q 0 = z := by
        rw [List.getD_eq_getElem?_getD, List.getElem?_append_right (by omega), q2, Nat.sub_self, List.getElem?_drop, Nat.add_zero, ← List.getD_eq_getElem?_getD]
        exact HZ.out.symm
      have c7 := q7.cell ho q hl7
      have f7 := q7.frozen (o + q)
      rw [ez] at c7
      have q8 := q7.set ho q ((z + c) % 4294967296) hl7
      have HL7 := Lib.hid hl7
      refine hK _ _ ⟨trivial, ?_⟩
      clear hK K10 kadd q5 q2 q7 hl7 ez
      refine wpAnyH_all (rs := [4]) (by kernel_rfl) (by simp) ?_
      intro i hi
      obtain rfl : i = 4 := by simpa using hi
      refine wpOp_intro rfl (fun K4 hK => ?_)
      clear hi
      go_simp
      refine hK _ _ ⟨trivial, ?_⟩
      clear hK K4
      refine wpAnyH_take (i := 11) (v := .int .u32 (((z : Int) + (c : Int)) % 4294967296)) rfl (by kernel_rfl) (by kernel_rfl) (by kernel_rfl) (fun _ _ _ h => h) (Or.inl ⟨by rfl, fun W3 _ => by go_simp; rw [IntKind.wrap_u32']⟩) trivial ?_
      refine wpAnyH_take (i := 12) (v := .pointer (some ⟨g, o + q, none⟩)) rfl (by kernel_rfl) (by kernel_rfl) (by kernel_rfl) (fun _ _ _ h => h) (Or.inl ⟨by rfl, fun W3 _ => by go_simp⟩) trivial ?_
      refine wpAnyH_all (rs := [13]) (by kernel_rfl) (by simp) ?_
      intro i hi
      obtain rfl : i = 13 := by simpa using hi
      refine wpOp_intro rfl (fun K13 hK => ?_)
      clear hi
      go_simp
      refine hK _ _ ⟨trivial, ?_⟩
      clear hK K13
      refine wpAnyH_done (by kernel_rfl) ?_ _
      have uT := take_less hT HT0.out.2.2.2
      go_wp2
      go_ret
      rw [show (((z + c) % 4294967296 : Nat) : Int) = ((z : Int) + (c : Int)) % 4294967296 by omega] at q8
      refine ⟨_, T - 1, rfl, HT0.out.2.1.symm, by omega, q8, ?_, (q3.append (hs2.drop q)).set _ _ (by omega), ?_, grown_setCell (show w.grownBy w4 (some g) from ⟨q6.os.trans hg2.os, q6.tape.trans hg2.tape, q6.output.trans hg2.output, Nat.le_trans hg2.size q6.size, fun k hk hne => (q6.block k (Nat.lt_of_lt_of_le hk hg2.size) hne).trans (hg2.block k hk hne)⟩) _ _⟩
      · rw [List.length_set, List.length_append, List.length_drop, Q2.out]; have := HQ1.out; have := HLEN.out; omega
      · exact take_val HLEN.out HR.out HL.out HQ.out HZ.out hs2 hsb q3 q4 Q2.out Q5.out HV2.out HT0.out

end Go.Proofs.YtlfanbjpfoaipaaGreatDoor

namespace Go.Proofs.YtlfanbjpfoaipaaGreatDoor
open Go Go.Proofs Go.RowKit Go.Shelf Nu

attribute [local go_sem] Oper.semAt_some

set_option maxRecDepth 100000 in
set_option maxHeartbeats 4000000 in
theorem rguess_any {w : World} {br bb ob cr cb n a L : Nat} {lr lb : List Nat} (hcr : ∀ j, j < n + 3 → w.cell? ⟨br, a + j, none⟩ = some (.int .u32 (lr.getD j 0 : Nat))) (hcb : ∀ j, j < n + 2 → w.cell? ⟨bb, ob + j, none⟩ = some (.int .u32 (lb.getD j 0 : Nat)))
    (hr : lr.length = n + 3) (hb : lb.length = n + 2) (hn : n ≤ 100000) (ha : a + n + 3 ≤ L) (hL : L ≤ 300000) (hsr : Sm lr) (hsb : Sm lb) (hv : 2147483648 ≤ lb.getD (n + 1) 0) (h : val lr < 4294967296 * val lb) :
    Calls Tryz.prog 68 #[.slice (some ⟨br, 0, none⟩) L cr, .slice (some ⟨bb, ob, none⟩) (n + 2 : Nat) cb, .int .i64 a] w fun e w' => ∃ T : Nat, e = .returned (.int .u64 T) ∧ T < 4294967296 ∧ (T - 1) * val lb ≤ val lr ∧ val lr < (T + 1) * val lb ∧ Below w.heap.size w w' := by
  have eR := val_top3 hr
  have eD := val_top2 hb
  have lR := val_take_lt hsr (n := n) (by omega)
  have lD := val_take_lt hsb (n := n) (by omega)
  have c1 := hcb (n + 1) (by omega)
  have c2 := hcb n (by omega)
  have c3 := hcr (n + 2) (by omega)
  have c4 := hcr (n + 1) (by omega)
  have c5 := hcr n (by omega)
  have b1 := hsb.getD (n + 1)
  have b2 := hsb.getD n
  have b3 := hsr.getD (n + 2)
  have b4 := hsr.getD (n + 1)
  have b5 := hsr.getD n
  obtain ⟨v1, hv1⟩ : ∃ x, x = lb.getD (n + 1) 0 := ⟨_, rfl⟩
  obtain ⟨v2, hv2⟩ : ∃ x, x = lb.getD n 0 := ⟨_, rfl⟩
  obtain ⟨rn, hrn⟩ : ∃ x, x = lr.getD (n + 2) 0 := ⟨_, rfl⟩
  obtain ⟨rm, hrm⟩ : ∃ x, x = lr.getD (n + 1) 0 := ⟨_, rfl⟩
  obtain ⟨rk, hrk⟩ : ∃ x, x = lr.getD n 0 := ⟨_, rfl⟩
  obtain ⟨R, hR⟩ : ∃ x, x = val lr := ⟨_, rfl⟩
  obtain ⟨D, hD⟩ : ∃ x, x = val lb := ⟨_, rfl⟩
  obtain ⟨X, hX⟩ : ∃ x, x = 4294967296 ^ n := ⟨_, rfl⟩
  obtain ⟨r0, hr0⟩ : ∃ x, x = val (lr.take n) := ⟨_, rfl⟩
  obtain ⟨d0, hd0⟩ : ∃ x, x = val (lb.take n) := ⟨_, rfl⟩
  rw [← hR, ← hX, ← hr0, ← hrn, ← hrm, ← hrk] at eR
  rw [← hD, ← hX, ← hd0, ← hv1, ← hv2] at eD
  rw [← hX, ← hr0] at lR
  rw [← hX, ← hd0] at lD
  rw [← hv1] at c1 b1 hv
  rw [← hv2] at c2 b2
  rw [← hrn] at c3 b3
  rw [← hrm] at c4 b4
  rw [← hrk] at c5 b5
  rw [← hR, ← hD] at h ⊢
  clear hv1 hv2 hrn hrm hrk hR hD hX hr0 hd0 hr hb hsr hsb hcr hcb
  obtain ⟨H, hH1, hH2, hH3⟩ := head_or rn rm b3 b4
  have g0 := guess_start eR lR eD b5 (show 0 < v1 by omega)
  rw [← hH2] at g0
  have gd := @guess_down R D X r0 d0 v1 v2 rn rm rk
  have gt := @guess_down_top R D
  have ge := @guess_end R D X r0 d0 v1 v2 rn rm rk
  have ge1 := @guess_end1 v1 v2 rn rm rk
  have ge2 := @guess_end2 v1 v2 rn rm rk
  have gp := @guess_part R D X r0 d0 v1 v2 rn rm rk
  have HE : Hid ((∀ T left, H = T * v1 + left → left * 4294967296 + rk < T * v2 → R < T * D) ∧ (∀ T, 4294967295 < T → R < T * D) ∧ (∀ T left, H = T * v1 + left → T ≤ 4294967295 → (4294967295 < left ∨ T * v2 ≤ left * 4294967296 + rk) → (T - 1) * D ≤ R) ∧ (∀ T left, H = T * v1 + left → 4294967295 < left → T ≤ 4294967295)) := Lib.hid
    ⟨fun T left e hc => gd eR lR eD (hH2 ▸ e) hc, fun T hT => gt h hT, fun T left e hT hc => ge eR eD lD hv hT (hc.elim (fun hl => ge2 (hH2 ▸ e) hl hT b2) (fun hc => ge1 (hH2 ▸ e) hc)), fun T left e hl => gp eR eD lD b2 h (hH2 ▸ e) hl⟩
  clear gd gt ge ge1 ge2 gp eR eD lR lD h hH2
  obtain ⟨q, hq⟩ : ∃ q, q = H / v1 := ⟨_, rfl⟩
  obtain ⟨l0, hl0⟩ : ∃ l, l = H % v1 := ⟨_, rfl⟩
  have hq1 : H = q * v1 + l0 := by rw [hq, hl0, Nat.mul_comm]; exact (Nat.div_add_mod H v1).symm
  have hq2 : q < 8589934592 := by
    rw [hq]; exact Nat.lt_of_le_of_lt (Nat.div_le_div_left hv (by decide)) (by omega)
  have hl2 : l0 < 4294967296 := by rw [hl0]; exact Nat.lt_trans (Nat.mod_lt _ (by omega)) b1
  rw [← hq] at g0
  have e1 : (H : Int) / (v1 : Int) = (q : Int) := by rw [hq]; push_cast; rfl
  have e2 : (H : Int) % (v1 : Int) = (l0 : Int) := by rw [hl0]; push_cast; rfl
  have G0 := Lib.hid g0
  have HQ := Lib.hid hq1
  clear hq hl0 hq1 g0
  have i1 : ((n + 2 : Nat) : Int) - 1 = ((n + 1 : Nat) : Int) := by omega
  have i2 : ((n + 2 : Nat) : Int) - 2 = (n : Int) := by omega
  obtain ⟨N, hN⟩ : ∃ N, N = n + 2 := ⟨_, rfl⟩
  obtain ⟨M, hM⟩ : ∃ M, M = n + 1 := ⟨_, rfl⟩
  obtain ⟨P3, hP3⟩ : ∃ P, P = a + (n + 2) := ⟨_, rfl⟩
  obtain ⟨P2, hP2⟩ : ∃ P, P = a + (n + 1) := ⟨_, rfl⟩
  obtain ⟨P1, hP1⟩ : ∃ P, P = a + n := ⟨_, rfl⟩
  rw [← hP3] at c3
  rw [← hP2] at c4
  rw [← hP1] at c5
  have i3 : (a : Int) + (N : Int) = (P3 : Int) := by omega
  have i4 : (P3 : Int) - 1 = (P2 : Int) := by omega
  have i5 : (P3 : Int) - 2 = (P1 : Int) := by omega
  rw [← hN] at i1 i2 ⊢
  rw [← hM] at i1 c1
  have l1 : P3 < L := by omega
  have l2 : P2 < L := by omega
  have l3 : P1 < L := by omega
  have l4 : M < N := by omega
  have l5 : n < N := by omega
  have l6 : N ≤ 100002 := by omega
  have l7 : a ≤ 300000 := by omega
  have u1 := w64_of q (by omega)
  have u2 := w64_of l0 (by omega)
  have u0 : ¬ (v1 : Int) = 0 := by omega
  clear hN hM hP3 hP2 hP1 hv ha
  go_enter Tryz.func68, Tryz.ntmps68
  go_wp2
  go_quiet (fail)
  go_wp2
  go_loopw [9, 10] (fun x y wr => ∃ T l : Nat, T < 8589934592 ∧ l < 8589934592 ∧ x = .int .u64 T ∧ y = .int .u64 l ∧ Hid (H = T * v1 + l ∧ R < (T + 1) * D) ∧ ∃ m, wr = w.drewN m) (fun x _ _ => (intOf x).toNat)
  case atStart =>
    exact ⟨q, l0, hq2, by omega, by first | rfl | rw [e1], by first | rfl | rw [e2], Lib.hid ⟨HQ.out, G0.out⟩, _, rfl⟩
  case round =>
    obtain ⟨T, l, hT, hl, rfl, rfl, HI, m, rfl⟩ := hrel
    have hdrew : ∀ k : Nat, ∃ j, (w.drewN m).drewN k = w.drewN j := fun k => ⟨_, World.drewN_drewN ..⟩
    have HDR := Lib.hid hdrew
    have hbel : ∀ k : Nat, Below w.heap.size w ((w.drewN m).drewN k) := fun k => ⟨rfl, rfl, rfl, Nat.le_refl _, fun k hk => rfl⟩
    have HBL := Lib.hid hbel
    have c2' := c2
    have c5' := c5
    clear e1 e2 u1 u2 c3 c4 hH1 HQ G0 hq2 hl2 hdrew hbel c2 c5
    have c2 : (w.drewN m).cell? ⟨bb, ob + n, none⟩ = some (.int .u32 (v2 : Int)) := c2'
    have c5 : (w.drewN m).cell? ⟨br, P1, none⟩ = some (.int .u32 (rk : Int)) := c5'
    by_cases hl1 : 4294967295 < l
    · have hT1 := HE.out.2.2.2 T l HI.out.1 hl1
      have hfin := Lib.hid (HE.out.2.2.1 T l HI.out.1 hT1 (.inl hl1))
      have hi1 : ((l : Int) / 4294967296 == 0) = false := by simp; omega
      go_wp2
      go_quiet (fail)
      go_wp2
      go_ret
      exact ⟨T, rfl, by omega, hfin.out, HI.out.2, HBL.out _⟩
    · have hi1 : ((l : Int) / 4294967296 == 0) = true := by simp; omega
      by_cases hT1 : 4294967295 < T
      · have hd := Lib.hid (HE.out.2.1 T hT1)
        have hTp : 0 < T := by omega
        have hi2 : decide ((0 : Int) < (T : Int) / 4294967296) = true := by simp; omega
        go_wp2
        go_quiet (fail)
        go_wp2
        exact ⟨⟨T - 1, l + v1, by omega, by omega, by congr 1; omega, by congr 1, Lib.hid (guess_next HI.out.1 hd.out hTp), _, rfl⟩, by simp [intOf]; omega⟩
      · obtain ⟨P, hP, HP, hPb⟩ := mul_bound (x := T) (t := v2) (by omega) b2
        obtain ⟨O, hO, HO⟩ := or_shl' l rk (by omega) b5
        have hi2 : decide ((0 : Int) < (T : Int) / 4294967296) = false := by simp; omega
        by_cases hc : O < P
        · have hd := Lib.hid (HE.out.1 T l HI.out.1 (by rw [← HP, ← HO]; exact hc))
          have hi4 : decide ((O : Int) < (P : Int)) = true := by simp; omega
          have hTp : 0 < T := by
            rcases Nat.eq_zero_or_pos T with h | h
            · rw [h, Nat.zero_mul] at HP; omega
            · exact h
          have HP' := Lib.hid HP
          have HO' := Lib.hid HO
          clear HP HO
          go_wp2
          go_quiet (fail)
          go_wp2
          exact ⟨⟨T - 1, l + v1, by omega, by omega, by congr 1; omega, by congr 1, Lib.hid (guess_next HI.out.1 hd.out hTp), _, rfl⟩, by simp [intOf]; omega⟩
        · have hfin := Lib.hid (HE.out.2.2.1 T l HI.out.1 (by omega) (.inr (by rw [← HP, ← HO]; omega)))
          have hi4 : decide ((O : Int) < (P : Int)) = false := by simp; omega
          have HP' := Lib.hid HP
          have HO' := Lib.hid HO
          clear HP HO
          go_wp2
          go_quiet (fail)
          go_wp2
          go_ret
          exact ⟨T, rfl, by omega, hfin.out, HI.out.2, HBL.out _⟩

end Go.Proofs.YtlfanbjpfoaipaaGreatDoor

namespace Go.Proofs.YtlfanbjpfoaipaaGreatDoor
open Go Go.Proofs Go.RowKit Go.Shelf Nu

attribute [local go_sem] Oper.semAt_some

theorem sub_one' {x m : Nat} (hx : x < 4294967296) (hm : m < 4294967296) : ∃ d : Nat, IntKind.u64.wrap ((x : Int) - (m : Int)) = (d : Int) ∧ d < 18446744073709551616 ∧ d / 9223372036854775808 ≤ 1 ∧ ((x : Int) - (m : Nat) - (0 : Nat) = (d % 4294967296 : Nat) - 4294967296 * (d / 9223372036854775808 : Nat)) := by
  rcases Nat.lt_or_ge x m with h | h
  · refine ⟨18446744073709551616 + x - m, ?_, by omega, by omega, by omega⟩
    rw [IntKind.wrap_u64]; omega
  · refine ⟨x - m, ?_, by omega, by omega, by omega⟩
    rw [IntKind.wrap_u64]; omega
theorem takes_step {row b cur : List Nat} {k o t d P p : Nat} (hk : k < cur.length) (h : val (cur.take k) + t * val (b.take k) = val (row.take k) + 4294967296 ^ k * o)
    (hP : P = b.getD k 0 * t) (hp : p = o + P) (hs : ((row.getD k 0 : Nat) : Int) - (p % 4294967296 : Nat) - (0 : Nat) = (d % 4294967296 : Nat) - 4294967296 * (d / 9223372036854775808 : Nat)) :
    val ((cur.set k (d % 4294967296)).take (k + 1)) + t * val (b.take (k + 1)) = val (row.take (k + 1)) + 4294967296 ^ (k + 1) * (p / 4294967296 + d / 9223372036854775808) := by
  subst hp
  exact less_step (bo := 0) hk (by rw [Nat.add_zero]; exact h) hP hs
theorem gives_step {row b cur : List Nat} {k c d : Nat} (hk : k < cur.length) (h : val (cur.take k) + 4294967296 ^ k * c = val (row.take k) + val (b.take k))
    (hd : d = c + row.getD k 0 + b.getD k 0) :
    val ((cur.set k (d % 4294967296)).take (k + 1)) + 4294967296 ^ (k + 1) * (d / 4294967296) = val (row.take (k + 1)) + val (b.take (k + 1)) := by
  rw [set_take _ _ _ hk, val_snoc, val_take_succ row, val_take_succ b, List.length_take, Nat.min_eq_left (Nat.le_of_lt hk), Nat.pow_succ]
  have e := Nat.mod_add_div d 4294967296
  have e2 : 4294967296 ^ k * d = 4294967296 ^ k * (c + row.getD k 0 + b.getD k 0) := by rw [hd]
  rw [← e, Nat.mul_add, Nat.mul_add, Nat.mul_add, ← Nat.mul_assoc] at e2
  omega

theorem reads_cell {W : World} {a : Option Addr} {n c : Nat} {l : List Nat} (h : Reads W (.slice a n c) l) (hn : n = l.length) {k : Nat} (hk : k < n) : ∃ b o, a = some ⟨b, o, none⟩ ∧ W.cell? ⟨b, o + k, none⟩ = some (.int .u32 (l.getD k 0 : Nat)) := by
  obtain ⟨b, o, h1, h2⟩ := h.addr
  exact ⟨b, o, (h1 (by omega)).1, h2 k (by omega)⟩

set_option maxRecDepth 100000 in
set_option maxHeartbeats 4000000 in
theorem rtakes_any {w : World} {g c a L q : Nat} {pre post : List Value} {row lb : List Nat} {vb : Value} (hb : Blk w g pre row post) (ha : pre.length = a) (hB : Reads w vb lb) (hne : vb.ownBlock ≠ some g) (hl : row.length = lb.length + 1) (hL : a + row.length ≤ L) (hL2 : L ≤ 300000)
    (hSR : Sm row) (hSB : Sm lb) (hq : q < 4294967296) :
    Calls Tryz.prog 69 #[.slice (some ⟨g, 0, none⟩) L c, vb, .int .i64 a, .int .u64 q] w fun e w' => ∃ (row' : List Nat) (o : Nat), e = .returned (.bool (decide (0 < o))) ∧ Blk w' g pre row' post ∧ row'.length = row.length ∧ Sm row' ∧ val row' + q * val lb = val row + 4294967296 ^ row.length * o ∧ w.grownBy w' (some g) := by
  obtain ⟨b1, d1, rfl⟩ := hB.form
  obtain ⟨m, hm⟩ : ∃ m, m = lb.length := ⟨_, rfl⟩
  obtain ⟨n, hn⟩ : ∃ n, n = row.length := ⟨_, rfl⟩
  have HM := Lib.hid hm
  have HN := Lib.hid hn
  have hnm : n = m + 1 := by omega
  have SB := Lib.hid hSB
  have RB := Lib.hid hB
  have NE := Lib.hid hne
  have HB0 := Lib.hid hb
  have HA := Lib.hid ha
  have HSR := Lib.hid hSR
  rw [← hn] at hL
  rw [← hm, ← hn]
  rw [← hm] at RB NE
  have hm1 : m ≤ 300000 := by omega
  have hnm1 : n ≤ m + 1 := by omega
  have hnm2 : m < n := by omega
  have NM := Lib.hid hnm
  clear hb ha hB hne hl hSR hSB hm hn hnm
  go_enter Tryz.func69, Tryz.ntmps69
  go_wp2
  go_loopg [9, 10] n (fun gk so si wr => ∃ (k o : Nat) (cur : List Nat), k + gk = n ∧ si = .int .i64 (k : Int) ∧ so = .int .u64 (o : Int) ∧ o ≤ 4294967296 ∧ cur.length = n ∧ Hid (Blk wr g pre cur post) ∧ Hid (Sm cur ∧ cur.drop k = row.drop k ∧ val (cur.take k) + q * val (lb.take k) = val (row.take k) + 4294967296 ^ k * o) ∧ Hid (w.grownBy wr (some g)))
  case atStart => exact ⟨0, 0, row, by omega, rfl, rfl, by omega, HN.out.symm, HB0, Lib.hid ⟨HSR.out, rfl, by simp [val]⟩, Lib.hid (grown_refl w _)⟩
  case round =>
    obtain ⟨k, o, cur, hk, rfl, rfl, ho, hl, HF, HV, HG⟩ := hrel
    have HL := Lib.hid hl
    by_cases hkn : k < n
    · obtain ⟨A, hA⟩ : ∃ A, A = a + k := ⟨_, rfl⟩
      have i1 : (a : Int) + (k : Int) = (A : Int) := by omega
      have i2 : A < L := by omega
      have i3 : (k : Int) ≤ (m : Int) := by omega
      have r1 := HF.out.cell HA.out k (by omega)
      have r2 := HF.out.frozen (a + k)
      obtain ⟨x, hx⟩ : ∃ x, x = cur.getD k 0 := ⟨_, rfl⟩
      have hxb : x < 4294967296 := by rw [hx]; exact HV.out.1.getD k
      have hxr : x = row.getD k 0 := by rw [hx]; exact getD_of_drop HV.out.2.1 k (Nat.le_refl _)
      rw [← hx, ← hA] at r1
      rw [← hA] at r2
      obtain ⟨y, hy⟩ : ∃ y, y = lb.getD k 0 := ⟨_, rfl⟩
      have hyb : y < 4294967296 := by rw [hy]; exact SB.out.getD k
      obtain ⟨P, hP, HP, hPb⟩ := mul_bound hq hyb
      obtain ⟨p, hp⟩ : ∃ p, p = o + P := ⟨_, rfl⟩
      have hpp : (o : Int) + (P : Int) = (p : Int) := by omega
      have hp64 : p < 18446744073709551616 := by omega
      have ha1 := and_top p hp64
      obtain ⟨M, hM⟩ : ∃ M, M = p % 4294967296 := ⟨_, rfl⟩
      rw [← hM] at ha1
      obtain ⟨d, hd1, hd2, hd3, hd4⟩ := sub_one' (x := x) (m := M) hxb (by omega)
      have hst := takes_step (row := row) (b := lb) (cur := cur) (k := k) (o := o) (t := q) (d := d) (P := P) (p := p) (by omega) HV.out.2.2 (by rw [HP, hy, Nat.mul_comm]) hp (by rw [← hxr, ← hM]; exact hd4)
      have hB2 := HF.out.set HA.out k (d % 4294967296) (by omega)
      rw [← hA, show ((d % 4294967296 : Nat) : Int) = (d : Int) % 4294967296 by omega] at hB2
      have hup : p / 4294967296 + d / 9223372036854775808 ≤ 4294967296 := by omega
      have fin : ∃ (k' o' : Nat) (cur' : List Nat), k' + (n - (k + 1)) = n ∧ Value.int .i64 ((k : Int) + 1) = .int .i64 (k' : Int) ∧ Value.int .u64 ((p : Int) / 4294967296 + (d : Int) / 9223372036854775808) = .int .u64 (o' : Int) ∧ o' ≤ 4294967296 ∧ cur'.length = n ∧ Hid (Blk (wr.setCell ⟨g, A, none⟩ (.int .u32 ((d : Int) % 4294967296))) g pre cur' post) ∧ Hid (Sm cur' ∧ cur'.drop k' = row.drop k' ∧ val (cur'.take k') + q * val (lb.take k') = val (row.take k') + 4294967296 ^ k' * o') ∧ Hid (w.grownBy (wr.setCell ⟨g, A, none⟩ (.int .u32 ((d : Int) % 4294967296))) (some g)) :=
        ⟨k + 1, _, _, by omega, by simp, by congr 1, hup, by rw [List.length_set, hl], Lib.hid hB2, Lib.hid ⟨HV.out.1.set k _ (by omega), by rw [set_drop]; exact drop_succ_of_drop HV.out.2.1, hst⟩, Lib.hid (grown_setCell HG.out _ _)⟩
      have FIN := Lib.hid fin
      have HP' := Lib.hid HP
      have HY := Lib.hid hy
      have hdb : (d : Int) / 9223372036854775808 + (p : Int) / 4294967296 < 18446744073709551616 := by omega
      have RBk := Lib.hid (RB.out.grown HG.out NE.out)
      clear hx hxr HP hp hM hd4 hst hB2 fin HF HV HG hl hA
      by_cases hkm : k < m
      · obtain ⟨bb, ob, rfl, hcb⟩ := reads_cell RBk.out HM.out hkm
        rw [← HY.out] at hcb
        clear hy
        go_wp2
        go_roundg (n - (k + 1))
        case measure => omega
        case rel => exact FIN.out
      · have hy0 : y = 0 := by rw [HY.out]; exact getD_cut0 (by have := HM.out; omega)
        have hP0 : P = 0 := by rw [HP'.out, hy0, Nat.mul_zero]
        have hop : o = p := by omega
        subst hP0
        subst hop
        clear hy0 hpp
        go_wp2
        go_roundg (n - (k + 1))
        case measure => omega
        case rel => exact FIN.out
    · obtain rfl : k = n := by omega
      have i3 : ¬ (k : Int) ≤ (m : Int) := by omega
      have h := HV.out.2.2
      rw [List.take_of_length_le (by omega), List.take_of_length_le (by have := HM.out; omega), List.take_of_length_le (by have := HN.out; omega)] at h
      have HH := Lib.hid h
      have hd : decide ((0 : Int) < (o : Int)) = decide (0 < o) := by simp
      clear h
      go_wp2
      go_ret
      exact ⟨cur, o, by first | rfl | rw [hd], HF.out, by rw [HL.out], HV.out.1, HH.out, HG.out⟩

set_option maxRecDepth 100000 in
set_option maxHeartbeats 4000000 in
theorem rgives_any {w : World} {g c a L : Nat} {pre post : List Value} {row lb : List Nat} {vb : Value} (hb : Blk w g pre row post) (ha : pre.length = a) (hB : Reads w vb lb) (hne : vb.ownBlock ≠ some g) (hl : row.length = lb.length + 1) (hL : a + row.length ≤ L) (hL2 : L ≤ 300000)
    (hSR : Sm row) (hSB : Sm lb) :
    Calls Tryz.prog 70 #[.slice (some ⟨g, 0, none⟩) L c, vb, .int .i64 a] w fun e w' => e = .returned (.tuple #[]) ∧ ∃ row' : List Nat, Blk w' g pre row' post ∧ row'.length = row.length ∧ Sm row' ∧ (∃ o : Nat, val row' + 4294967296 ^ row.length * o = val row + val lb) ∧ w.grownBy w' (some g) := by
  obtain ⟨b1, d1, rfl⟩ := hB.form
  obtain ⟨m, hm⟩ : ∃ m, m = lb.length := ⟨_, rfl⟩
  obtain ⟨n, hn⟩ : ∃ n, n = row.length := ⟨_, rfl⟩
  have HM := Lib.hid hm
  have HN := Lib.hid hn
  have hnm : n = m + 1 := by omega
  have SB := Lib.hid hSB
  have RB := Lib.hid hB
  have NE := Lib.hid hne
  have HB0 := Lib.hid hb
  have HA := Lib.hid ha
  have HSR := Lib.hid hSR
  rw [← hn] at hL
  rw [← hm, ← hn]
  rw [← hm] at RB NE
  have hm1 : m ≤ 300000 := by omega
  have hnm1 : n ≤ m + 1 := by omega
  have hnm2 : m < n := by omega
  have NM := Lib.hid hnm
  clear hb ha hB hne hl hSR hSB hm hn hnm
  go_enter Tryz.func70, Tryz.ntmps70
  go_wp2
  go_loopg [6, 7] n (fun gk so si wr => ∃ (k o : Nat) (cur : List Nat), k + gk = n ∧ si = .int .i64 (k : Int) ∧ so = .int .u64 (o : Int) ∧ o < 4294967296 ∧ cur.length = n ∧ Hid (Blk wr g pre cur post) ∧ Hid (Sm cur ∧ cur.drop k = row.drop k ∧ val (cur.take k) + 4294967296 ^ k * o = val (row.take k) + val (lb.take k)) ∧ Hid (w.grownBy wr (some g)))
  case atStart => exact ⟨0, 0, row, by omega, rfl, rfl, by omega, HN.out.symm, HB0, Lib.hid ⟨HSR.out, rfl, by simp [val]⟩, Lib.hid (grown_refl w _)⟩
  case round =>
    obtain ⟨k, o, cur, hk, rfl, rfl, ho, hl, HF, HV, HG⟩ := hrel
    have HL := Lib.hid hl
    by_cases hkn : k < n
    · obtain ⟨A, hA⟩ : ∃ A, A = a + k := ⟨_, rfl⟩
      have i1 : (a : Int) + (k : Int) = (A : Int) := by omega
      have i2 : A < L := by omega
      have i3 : (k : Int) ≤ (m : Int) := by omega
      have r1 := HF.out.cell HA.out k (by omega)
      have r2 := HF.out.frozen (a + k)
      obtain ⟨x, hx⟩ : ∃ x, x = cur.getD k 0 := ⟨_, rfl⟩
      have hxb : x < 4294967296 := by rw [hx]; exact HV.out.1.getD k
      have hxr : x = row.getD k 0 := by rw [hx]; exact getD_of_drop HV.out.2.1 k (Nat.le_refl _)
      rw [← hx, ← hA] at r1
      rw [← hA] at r2
      obtain ⟨y, hy⟩ : ∃ y, y = lb.getD k 0 := ⟨_, rfl⟩
      have hyb : y < 4294967296 := by rw [hy]; exact SB.out.getD k
      obtain ⟨s, hs⟩ : ∃ s, s = o + x := ⟨_, rfl⟩
      obtain ⟨d, hd⟩ : ∃ d, d = s + y := ⟨_, rfl⟩
      have hss : (o : Int) + (x : Int) = (s : Int) := by omega
      have hdd : (s : Int) + (y : Int) = (d : Int) := by omega
      have hs64 : s < 18446744073709551616 := by omega
      have hd64 : d < 18446744073709551616 := by omega
      have hst := gives_step (row := row) (b := lb) (cur := cur) (k := k) (c := o) (d := d) (by omega) HV.out.2.2 (by rw [hd, hs, hxr, hy])
      have hB2 := HF.out.set HA.out k (d % 4294967296) (by omega)
      rw [← hA, show ((d % 4294967296 : Nat) : Int) = (d : Int) % 4294967296 by omega] at hB2
      have fin : ∃ (k' o' : Nat) (cur' : List Nat), k' + (n - (k + 1)) = n ∧ Value.int .i64 ((k : Int) + 1) = .int .i64 (k' : Int) ∧ Value.int .u64 ((d : Int) / 4294967296) = .int .u64 (o' : Int) ∧ o' < 4294967296 ∧ cur'.length = n ∧ Hid (Blk (wr.setCell ⟨g, A, none⟩ (.int .u32 ((d : Int) % 4294967296))) g pre cur' post) ∧ Hid (Sm cur' ∧ cur'.drop k' = row.drop k' ∧ val (cur'.take k') + 4294967296 ^ k' * o' = val (row.take k') + val (lb.take k')) ∧ Hid (w.grownBy (wr.setCell ⟨g, A, none⟩ (.int .u32 ((d : Int) % 4294967296))) (some g)) :=
        ⟨k + 1, d / 4294967296, _, by omega, by simp, by congr 1, by omega, by rw [List.length_set, hl], Lib.hid hB2, Lib.hid ⟨HV.out.1.set k _ (by omega), by rw [set_drop]; exact drop_succ_of_drop HV.out.2.1, hst⟩, Lib.hid (grown_setCell HG.out _ _)⟩
      have FIN := Lib.hid fin
      have HY := Lib.hid hy
      have RBk := Lib.hid (RB.out.grown HG.out NE.out)
      clear hx hxr hst hB2 fin HF HV HG hl hA hs
      by_cases hkm : k < m
      · obtain ⟨bb, ob, rfl, hcb⟩ := reads_cell RBk.out HM.out hkm
        rw [← HY.out] at hcb
        clear hy hd
        go_wp2
        go_roundg (n - (k + 1))
        case measure => omega
        case rel => exact FIN.out
      · have hy0 : y = 0 := by rw [HY.out]; exact getD_cut0 (by have := HM.out; omega)
        have hsd : s = d := by omega
        subst hsd
        clear hd hy
        go_wp2
        go_roundg (n - (k + 1))
        case measure => omega
        case rel => exact FIN.out
    · obtain rfl : k = n := by omega
      have i3 : ¬ (k : Int) ≤ (m : Int) := by omega
      have h := HV.out.2.2
      rw [List.take_of_length_le (by omega), List.take_of_length_le (by have := HN.out; omega), List.take_of_length_le (l := lb) (by have := HM.out; omega)] at h
      have HH := Lib.hid h
      clear h
      go_wp2
      go_end0
      exact ⟨rfl, cur, HF.out, by rw [HL.out], HV.out.1, ⟨o, HH.out⟩, HG.out⟩

end Go.Proofs.YtlfanbjpfoaipaaGreatDoor

namespace Go.Proofs.YtlfanbjpfoaipaaGreatDoor
open Go Go.Proofs Go.RowKit Go.Shelf Nu

attribute [local go_sem] Oper.semAt_some

/-- trim, by hand, of a slice in a block: it stays there -/
theorem rtrim_in {W : World} {b off cap : Nat} {l : List Nat} (hn : l.length ≤ cap) (hb : b < W.heap.size) (hc : ∀ j, j < l.length → W.cell? ⟨b, off + j, none⟩ = some (.int .u32 (l.getD j 0 : Nat))) (hl : l.length ≤ 1000000) :
    Calls Tryz.prog 67 #[.slice (some ⟨b, off, none⟩) l.length cap] W fun e w' => e = .returned (.slice (some ⟨b, off, none⟩) (cut l).length cap) ∧ Reads W (.slice (some ⟨b, off, none⟩) (cut l).length cap) (cut l) ∧ w' = W := by
  have H := Lib.hid hc
  obtain ⟨L, hL⟩ : ∃ L, L = l.length := ⟨_, rfl⟩
  have HL := Lib.hid hL
  rw [← hL] at hl hn ⊢
  clear hL hc
  go_enter Tryz.func67, Tryz.ntmps67
  go_wp2
  go_loopg [0] L (fun g s wr => ∃ n : Nat, n = g ∧ n ≤ L ∧ s = .slice (some ⟨b, off, none⟩) n cap ∧ Hid (∀ j, n ≤ j → l.getD j 0 = 0) ∧ wr = W)
  case atStart => exact ⟨L, rfl, Nat.le_refl _, rfl, Lib.hid (fun j hj => getD_cut0 (by have := HL.out; omega)), rfl⟩
  case round =>
    obtain ⟨n, hng, hn, rfl, H0, rfl⟩ := hrel
    have fin : (n = 0 ∨ l.getD (n - 1) 0 ≠ 0) → n = (cut l).length ∧ Reads wr (.slice (some ⟨b, off, none⟩) n cap) (cut l) := by
      intro h1
      have e := cut_eq_take l n (by have := HL.out; omega) (fun j hj => H0.out j hj) h1
      have e2 : (l.take n).length = n := by rw [List.length_take]; have := HL.out; omega
      rw [e]
      exact ⟨e2.symm, .inr (.inl ⟨b, off, cap, by rw [e2], hb, by omega, fun j hj => by
        rw [e2] at hj
        have k := H.out j (by have := HL.out; omega)
        rw [k, List.getD_eq_getElem?_getD, List.getD_eq_getElem?_getD, List.getElem?_take, if_pos hj]⟩)⟩
    have FIN := Lib.hid fin
    have HNG := Lib.hid hng
    clear fin hng
    by_cases hn0 : n = 0
    · have F0 := Lib.hid (FIN.out (.inl hn0))
      go_wp2
      go_ret
      rw [← F0.out.1]
      exact ⟨by rw [hn0]; first | rfl | simp, F0.out.2, rfl⟩
    · obtain ⟨p, hp⟩ : ∃ p, n = p + 1 := ⟨n - 1, by omega⟩
      have hx := H.out p (by have := HL.out; omega)
      have hnp : (n : Int) - 1 = (p : Int) := by omega
      have hp0 : (0 : Int) < (n : Int) := by omega
      have hpn : (p : Int) < (n : Int) := by omega
      have hpc : (p : Int) ≤ (cap : Int) := by omega
      have HP := Lib.hid hp
      obtain ⟨y, hy⟩ : ∃ y, y = l.getD p 0 := ⟨_, rfl⟩
      rw [← hy] at hx
      have HY := Lib.hid hy
      clear hy hp hn0
      by_cases hy0 : y = 0
      · have HZ := Lib.hid hy0
        have ht : ((y : Int) == 0) = true := by simp [hy0]
        clear hy0
        go_wp2
        go_roundg p
        case rel => exact ⟨p, rfl, by omega, rfl, Lib.hid (fun j hj => by
          by_cases e : j = p
          · subst e; rw [← HY.out]; exact HZ.out
          · exact H0.out j (by have := HP.out; omega)), rfl⟩
        case measure => have := HP.out; have := HNG.out; omega
      · have ht : ((y : Int) == 0) = false := by simp [hy0]
        have HZ := Lib.hid hy0
        clear hy0
        go_wp2
        go_ret
        have F1 := FIN.out (.inr (by rw [HP.out, Nat.add_sub_cancel, ← HY.out]; exact HZ.out))
        rw [← F1.1]
        exact ⟨rfl, F1.2, rfl⟩

theorem rup_form {w : World} {va : Value} {A : List Nat} {sh N : Nat} (hA : Reads w va A) (hlA : A.length ≤ 100000) (hSA : Sm A) (hsh : sh ≤ 31) (hN : N = A.length + 1) :
    Calls Tryz.prog 66 #[va, .int .u64 sh] w fun e w' => ∃ (g c : Nat) (l : List Nat), e = .returned (.slice (some ⟨g, 0, none⟩) N c) ∧ Fresh w' w.heap.size (.slice (some ⟨g, 0, none⟩) N c) l ∧ Hid (l.length = N ∧ Sm l ∧ val l = val A * 2 ^ sh) ∧ N ≤ c ∧ w.heap.size ≤ g ∧ g < w'.heap.size ∧ Below w.heap.size w w' := by
  refine (rup_any hA hlA hSA hsh).mono ?_
  rintro e w' ⟨v, l, rfl, f, h1, h2, h3, hb⟩
  rcases f.form with ⟨_, h⟩ | ⟨g, c, rfl, hg1, hg2, hc, _⟩
  · rw [h] at h1; simp at h1
  · have : l.length = N := by omega
    rw [this] at f hc
    exact ⟨g, c, l, by rw [this], f, Lib.hid ⟨this, h2, h3⟩, hc, hg1, hg2, hb⟩

theorem len_top {p E : Nat} (h1 : E < 4294967296 ^ (p + 1)) (h2 : 2147483648 * 4294967296 ^ p ≤ E) : (digs E).length = p + 1 := by
  have a := digs_le_iff.2 h1
  rcases Nat.lt_or_ge (digs E).length (p + 1) with h | h
  · have := digs_le_iff.1 (show (digs E).length ≤ p by omega)
    omega
  · omega

/-- one window of the division: what guess, takes and gives make of it -/
theorem window_math {R D T r1 o P : Nat} (hlo : (T - 1) * D ≤ R) (hhi : R < (T + 1) * D) (hD : D < P) (hR : R < P * 4294967296) (hr1 : r1 < P * 4294967296) (h1 : r1 + T * D = R + P * 4294967296 * o) :
    (o = 0 ∧ r1 = R % D ∧ T = R / D) ∨ (0 < o ∧ 0 < T ∧ T - 1 = R / D ∧ ∀ r2 c, r2 < P * 4294967296 → r2 + P * 4294967296 * c = r1 + D → r2 = R % D) := by
  have hQ : D ≤ P * 4294967296 := by omega
  clear hD
  generalize P * 4294967296 = Q at *
  rcases take_out hlo hhi with ⟨h, h2, h3⟩ | ⟨h, h2, h3, h4⟩
  · refine .inl ?_
    have ho : o = 0 := by
      rcases Nat.eq_zero_or_pos o with h0 | h0
      · exact h0
      · have := Nat.mul_le_mul_left Q h0
        omega
    subst ho
    exact ⟨rfl, by omega, h2.symm⟩
  · refine .inr ?_
    have hTD : T * D = (T - 1) * D + D := by
      obtain ⟨t, rfl⟩ : ∃ t, T = t + 1 := ⟨T - 1, by omega⟩
      rw [Nat.add_sub_cancel, Nat.add_mul, Nat.one_mul]
    have ho : o = 1 := by
      rcases Nat.lt_or_ge o 1 with h0 | h0
      · obtain rfl : o = 0 := by omega
        omega
      · rcases Nat.lt_or_ge 1 o with h5 | h5
        · have := Nat.mul_le_mul_left Q (show 2 ≤ o by omega)
          omega
        · omega
    subst ho
    refine ⟨by decide, h4, h2.symm, fun r2 c hr2 hc => ?_⟩
    have hmod := Nat.mod_lt R (show 0 < D from Nat.pos_of_ne_zero (fun (h0 : D = 0) => by rw [h0] at h; simp at h))
    have e : r1 + D = Q + R % D := by omega
    rw [e] at hc
    rcases Nat.lt_or_ge c 1 with h0 | h0
    · obtain rfl : c = 0 := by omega
      omega
    · rcases Nat.lt_or_ge 1 c with h5 | h5
      · have := Nat.mul_le_mul_left Q (show 2 ≤ c by omega)
        omega
      · obtain rfl : c = 1 := by omega
        omega

theorem shift_next {T s : Nat} (hT : 0 < T) (h : T * 2 ^ s < 2147483648) (hs : s ≤ 31) : s + 1 ≤ 31 ∧ T * 2 ^ (s + 1) < 4294967296 := by
  have e : T * 2 ^ (s + 1) = 2 * (T * 2 ^ s) := by rw [Nat.pow_succ]; rw [← Nat.mul_assoc, Nat.mul_comm]
  refine ⟨?_, by omega⟩
  rcases Nat.lt_or_ge s 31 with h1 | h1
  · omega
  · obtain rfl : s = 31 := by omega
    have := Nat.mul_le_mul_right (2 ^ 31) hT
    omega

theorem grown_trans {w W W' : World} {g : Nat} (h : w.grownBy W (some g)) (k : W.grownBy W' (some g)) : w.grownBy W' (some g) :=
  ⟨k.os.trans h.os, k.tape.trans h.tape, k.output.trans h.output, Nat.le_trans h.size k.size, fun j hj hne => (k.block j (Nat.lt_of_lt_of_le hj h.size) hne).trans (h.block j hj hne)⟩
theorem Blk.below' {W W' : World} {g : Nat} {pre post : List Value} {l : List Nat} (h : Blk W g pre l post) (hb : Below W.heap.size W W') : Blk W' g pre l post := (hb.block g h.lt).trans h

/-- what holds between two rounds -/
def DLong (w : World) (gu gq N N3 V E : Nat) (vv : Value) (lv : List Nat) (k : Nat) (W : World) : Prop :=
  (∃ (qs cur : List Nat) (post : List Value), Blk W gq [] qs [] ∧ qs.length = N3 ∧ Sm qs ∧ Blk W gu [] cur post ∧ cur.length = N ∧ Sm cur ∧ Dv V E k qs (val cur)) ∧ Reads W vv lv ∧ Below w.heap.size w W
theorem DLong.step {w W W' : World} {gu gq N N3 V E m i Q : Nat} {vv : Value} {lv qs cur row' : List Nat} {post : List Value}
    (hq : Blk W gq [] qs []) (hql : qs.length = N3) (hqs : Sm qs) (hcs : Sm cur) (hcl : cur.length = N) (hD : Dv V E (i + 1) qs (val cur)) (hm : E < 4294967296 ^ m) (hi : i < N3) (hiN : i + m < N)
    (hR : Reads W vv lv) (hne1 : vv.ownBlock ≠ some gu) (hne2 : vv.ownBlock ≠ some gq) (hugq : gu ≠ gq) (hbw : Below w.heap.size w W) (hgu : w.heap.size ≤ gu) (hgq : w.heap.size ≤ gq)
    (hrow : row'.length = m + 1) (hrs : Sm row') (hrv : val row' = val ((cur.drop i).take (m + 1)) % E)
    (hB' : Blk W' gu ((cur.take i).map u32v) row' ((cur.drop (i + m + 1)).map u32v ++ post)) (hgr : W.grownBy W' (some gu)) (hQ : Q = val ((cur.drop i).take (m + 1)) / E) (hQ32 : Q < 4294967296) :
    W'.cell? ⟨gq, i, none⟩ = some (.int .u32 (qs.getD i 0 : Nat)) ∧ W'.frozen? ⟨gq, i, none⟩ = false ∧ DLong w gu gq N N3 V E vv lv i (W'.setCell ⟨gq, i, none⟩ (.int .u32 (Q : Int))) := by
  have hst := (Dv.step hm hD hcs (by omega) (by omega) hrow hrv).2
  have Q4 : Blk W' gq [] qs [] := Blk.kept hq hgr (by simpa using Ne.symm hugq)
  have z0 := Q4.cell (o := 0) rfl i (by omega)
  have z1 := Q4.frozen i
  rw [Nat.zero_add] at z0
  have Q5 := Q4.set (o := 0) rfl i Q (by omega)
  rw [Nat.zero_add] at Q5
  have hq7 : Blk W' gu [] (cur.take i ++ row' ++ cur.drop (i + m + 1)) post := Blk.split.2 hB'
  have hW0 : w.heap.size ≤ W.heap.size := hbw.size
  refine ⟨z0, z1, ⟨qs.set i Q, cur.take i ++ row' ++ cur.drop (i + m + 1), post, Q5, by rw [List.length_set]; exact hql, hqs.set _ _ hQ32, hq7.kept (grown_setCell (g := gq) (grown_refl W' (some gq)) i _) (by simpa using hugq), ?_, (((hcs.take i).append hrs).append (hcs.drop _)), ?_⟩, ?_, ?_⟩
  · rw [List.length_append, List.length_append, hrow, List.length_take, List.length_drop]; omega
  · rw [hQ]; exact hst
  · exact (hR.grown hgr hne1).grown (grown_setCell (g := gq) (grown_refl W' (some gq)) i _) hne2
  · exact (hbw.grown hgr hW0 (fun j e => by cases e; exact hgu)).setCell (p := ⟨gq, i, none⟩) hgq _

set_option maxRecDepth 100000 in
set_option maxHeartbeats 16000000 in
theorem rdiv_long {w : World} {va vb : Value} {la lb : List Nat} (ha : Reads w va la) (hb : Reads w vb lb) (hla : la.length ≤ 80000) (hlb : lb.length ≤ 80000) (hsa : Sm la) (hsb : Sm lb) (hca : chk la = true) (hcb : chk lb = true) (h2 : 2 ≤ lb.length) (hle : val lb ≤ val la) :
    Calls Tryz.prog 10 #[va, vb] w fun e w' => ∃ v1 v2, e = .returned (.tuple #[v1, v2, .int .i64 0]) ∧ Reads w' v1 (digs (val la / val lb)) ∧ Reads w' v2 (digs (val la % val lb)) ∧ Below w.heap.size w w' := by
  obtain ⟨i0, hi, hz0, hz1, hz2⟩ := info_parts info_u32
  have hlen : lb.length ≤ la.length := by
    rcases Nat.lt_or_ge la.length lb.length with h1 | h1
    · have := le_of_length_lt hsa hsb hcb h1; omega
    · exact h1
  have cA := rcheck_any ha (by omega)
  have cB := rcheck_any hb (by omega)
  rw [hca] at cA
  rw [hcb] at cB
  have kC := rcmp_any ha hb (by omega) (by omega) hsa hsb
  rw [nv_chk hca, nv_chk hcb] at kC
  obtain ⟨z, hz⟩ : ∃ z, z = sgn (val la) (val lb) := ⟨_, rfl⟩
  rw [← hz] at kC
  have hz0' : ¬ z < 0 := by rw [hz]; unfold sgn; split; omega; split <;> omega
  obtain ⟨a1, d1, rfl⟩ := ha.form
  obtain ⟨b1, d2, rfl⟩ := hb.form
  obtain ⟨bb, ob, hbb, hcell⟩ := hb.addr
  obtain ⟨p, hp⟩ : ∃ p, lb.length = p + 1 := ⟨lb.length - 1, by omega⟩
  have ht := hcell p (by omega)
  obtain ⟨T, hT⟩ : ∃ T, T = lb.getD p 0 := ⟨_, rfl⟩
  have hT0 : 0 < T := by
    rcases (chk_iff lb).1 hcb with h | h
    · rw [h] at hp; simp at hp
    · rw [hp, Nat.add_sub_cancel, ← hT] at h; omega
  have hT1 : T < 4294967296 := hT ▸ hsb.getD p
  rw [← hT] at ht
  obtain ⟨rfl, hbw⟩ : b1 = some ⟨bb, ob, none⟩ ∧ bb < w.heap.size := hbb (by omega)
  have hnil : ¬ lb.length = 0 := by omega
  have hone : ¬ lb.length = 1 := by omega
  obtain ⟨n, hn⟩ : ∃ n, n = la.length := ⟨_, rfl⟩
  obtain ⟨m, hm⟩ : ∃ m, m = lb.length := ⟨_, rfl⟩
  obtain ⟨N, hN⟩ : ∃ N, N = n + 1 := ⟨_, rfl⟩
  obtain ⟨M0, hM0⟩ : ∃ M, M = m + 1 := ⟨_, rfl⟩
  obtain ⟨N3, hN3⟩ : ∃ N3, N3 = n - m + 1 := ⟨_, rfl⟩
  have ku := Lib.hid (fun (W : World) (hW : Below w.heap.size w W) (sh : Nat) (hsh : sh ≤ 31) => rup_form (sh := sh) (N := N) (ha.below hW) (by omega) hsa hsh (by rw [hN, hn]))
  have kv := Lib.hid (fun (W : World) (hW : Below w.heap.size w W) (sh : Nat) (hsh : sh ≤ 31) => rup_form (sh := sh) (N := M0) (hb.below hW) (by omega) hsb hsh (by rw [hM0, hm]))
  have HW := Lib.hid (fun (W : World) (hW : Below w.heap.size w W) => (hW.cell (p := ⟨bb, ob + p, none⟩) hbw).trans ht)
  rw [← hn] at cA kC ku ⊢
  rw [← hm] at cB kC kv ⊢
  have SA := Lib.hid hsa
  have SB := Lib.hid hsb
  have HLE := Lib.hid hle
  have HP := Lib.hid hp
  have HT := Lib.hid hT
  have HN := Lib.hid hn
  have HM := Lib.hid hm
  have ei : (m : Int) - 1 = (p : Int) := by omega
  have pm : p < m := by omega
  have m0 : ((m : Int) == 0) = false := by simp; omega
  have m1 : ((m : Int) == 1) = false := by simp; omega
  have mb : 2 ≤ m := by omega
  have mn : m ≤ n := by omega
  have nb : n ≤ 80000 := by omega
  have FN := Lib.hid (show N = n + 1 ∧ M0 = m + 1 ∧ N3 = n - m + 1 from ⟨hN, hM0, hN3⟩)
  have eN : (N : Int) - (m : Int) = (N3 : Int) := by omega
  have N3b : N3 ≤ 80001 := by omega
  have Nb : N ≤ 80001 := by omega
  have mN : N3 + m = N := by omega
  clear ha hb hla hlb hsa hsb hca hcb h2 hle hlen hz hbb hcell hp ht hT hnil hone hn hm hN hM0 hN3
  go_enter Tryz.func10, Tryz.ntmps10
  go_wp2_with fail
  go_at_call 61
  refine cA.mono ?_
  rintro e w' ⟨rfl, hw⟩
  subst w'
  clear cA
  go_wp2_with fail
  go_at_call 61
  refine cB.mono ?_
  rintro e w' ⟨rfl, hw⟩
  subst w'
  clear cB
  go_wp2_with fail
  go_at_call 62
  refine kC.mono ?_
  rintro e w1 ⟨rfl, r1⟩
  clear kC
  have HW1 := HW.out w1 r1
  go_wp2_with fail
  go_loopg [9] 32 (fun gk sb wr => ∃ s : Nat, s + gk = 32 ∧ s ≤ 31 ∧ sb = .int .u64 (s : Int) ∧ T * 2 ^ s < 4294967296 ∧ wr = w1)
  case atStart => exact ⟨0, by omega, by omega, rfl, by omega, rfl⟩
  case round =>
    obtain ⟨s, hsg, hs31, rfl, hTs, hwr⟩ := hrel
    subst wr
    obtain ⟨y, hy⟩ : ∃ y, y = T * 2 ^ s := ⟨_, rfl⟩
    have hs32 : s < 32 := by omega
    have hs64 : s < 64 := by omega
    rw [← hy] at hTs
    have hyw : IntKind.u32.wrap ((T : Int) * 2 ^ s) = (y : Int) := by
      have : (T : Int) * 2 ^ s = ((T * 2 ^ s : Nat) : Int) := by push_cast; rfl
      rw [this, ← hy]; exact w32_of y hTs
    have HY := Lib.hid hy
    clear hy
    by_cases hy31 : y < 2147483648
    · have hg0 : (y : Int) / 2147483648 = 0 := by omega
      have hnx := shift_next hT0 (by rw [← HY.out]; exact hy31) hs31
      go_wp2_with fail
      go_roundg (32 - (s + 1))
      case measure => omega
      case rel => exact ⟨s + 1, by omega, by omega, by simp, hnx.2, rfl⟩
    · have hg0 : ¬ (y : Int) / 2147483648 = 0 := by omega
      have f1 := up_fits HP.out SB.out hs31 (by rw [← HT.out, ← HY.out]; exact hTs)
      have f2 := up_low (S := 2 ^ s) HP.out (by rw [← HT.out, ← HY.out]; omega)
      have f3 := dv_room (a := val la) (n := la.length) (m := p) (S := 2 ^ s) (val_lt SA.out) f2 (pow31 hs31) (by rw [← HN.out]; have := HP.out; have := HM.out; omega)
      rw [show la.length - (p + 1) + 1 = n - m + 1 by have := HN.out; have := HP.out; have := HM.out; omega] at f3
      obtain ⟨V, hV⟩ : ∃ V, V = val la * 2 ^ s := ⟨_, rfl⟩
      obtain ⟨E, hE⟩ : ∃ E, E = val lb * 2 ^ s := ⟨_, rfl⟩
      have FQ := Lib.hid (show V / E = val la / val lb by rw [hV, hE, Nat.mul_div_mul_right _ _ (two_pos s)])
      have FR := Lib.hid (show V % E / 2 ^ s = val la % val lb by rw [hV, hE, Nat.mul_mod_mul_right, Nat.mul_div_cancel _ (two_pos s)])
      rw [← hE] at f1 f2 f3
      rw [← hV] at f3
      have lE := len_top f1 f2
      rw [show p + 1 = m by have := HP.out; have := HM.out; omega] at f1 lE
      have ku1 := ku.out w1 r1 s hs31
      have kv1 := Lib.hid (fun (W : World) (hW : Below w.heap.size w W) => kv.out W hW s hs31)
      rw [← hV] at ku1
      rw [← hE] at kv1
      have F1 := Lib.hid f1
      have F2 := Lib.hid f2
      have F3 := Lib.hid f3
      have LE := Lib.hid lE
      clear f1 f2 f3 hV hE lE hTs ku kv hsg
      go_wp2_with fail
      go_at_call 66
      refine ku1.mono ?_
      rintro e w2 ⟨gu, cu, lu, rfl, FU, hlu, hcu, hgu1, hgu2, r2⟩
      obtain ⟨pu, BU, _, _, _⟩ := FU.blk hlu.out.1.symm
      have BU1 := Lib.hid BU
      have r12 := then_below r1 r2
      have R12 := Lib.hid r12
      have hguw := Nat.le_trans r1.size hgu1
      clear ku1 FU BU r2 r12 hyw hg0 HW1 hgu1
      go_wp2_with fail
      go_at_call 66
      refine (kv1.out w2 R12.out).mono ?_
      rintro e w3 ⟨gv, cv, lv, rfl, FV, hlv, hcv, hgv1, hgv2, r3⟩
      have BU2 := Lib.hid (BU1.out.below' r3)
      have R13 := Lib.hid (then_below R12.out r3)
      have hguv : gu ≠ gv := by omega
      have hgvw := Nat.le_trans R12.out.size hgv1
      have hgu3 : gu < w3.heap.size := by omega
      have hcell : ∀ j, j < lv.length → w3.cell? ⟨gv, 0 + j, none⟩ = some (.int .u32 (lv.getD j 0 : Nat)) := by
        rcases FV.form with ⟨e, _⟩ | ⟨g', c, e, _, _, hn', hcc⟩
        · cases e
        · simp only [Value.slice.injEq, Option.some.injEq, Addr.mk.injEq, and_true] at e
          obtain ⟨rfl, _⟩ := e
          exact hcc
      have kt := rtrim_in (cap := cv) (by have := hlv.out.1; omega) hgv2 hcell (by have := hlv.out.1; have := FN.out; omega)
      rw [hlv.out.1, cut_eq hlv.out.2.1, hlv.out.2.2, LE.out] at kt
      have KT := Lib.hid kt
      clear kv1 FV r3 hcell kt BU1 R12 hgv1 hlv hcv hgu2
      go_wp2_with fail
      go_at_call 67
      refine KT.out.mono ?_
      rintro e w' ⟨rfl, RV, hw⟩
      subst w'
      have RV1 := Lib.hid RV
      have KTE := LE.out
      obtain ⟨D, hD⟩ : ∃ D, D = digs E := ⟨_, rfl⟩
      rw [← hD] at RV1 KTE
      have hvD := Lib.hid (show val D = E ∧ Sm D ∧ D.length = m from ⟨by rw [hD, val_digs], by rw [hD]; exact sm_digs E, KTE⟩)
      clear KT RV KTE hD
      go_wp2_with (at_make; go_loud (refine wpList_make_full _ rfl _ _ 23 rfl w3.heap.size 71 i0 (.int .u32 0) 1 Tryz.underlying23 hi hz0 hz1 .i64 .i64 _ _ N3 rfl rfl (by omega) (by omega) (by rw [hz2]; omega) (by unfold maxLen; omega) (by simp) ?_); intro w4 hown1 hgrow1)
      have hbel1 : Below w3.heap.size w3 w4 := (Below.refl _ w3).grown hgrow1 (Nat.le_refl _) (fun _ e => by cases e)
      have hF : Fresh w4 w3.heap.size (.slice (some ⟨w3.heap.size, 0, none⟩) N3 N3) (List.replicate N3 0) := by unfold Fresh; rw [List.length_replicate, ← replicate_zero_u32]; exact hown1
      obtain ⟨gq, hgq⟩ : ∃ g, g = w3.heap.size := ⟨_, rfl⟩
      obtain ⟨pq, BQ, _, hpq, _⟩ := hF.blk (by simp)
      have hpn : pq = [] := by
        rw [List.length_replicate] at hpq
        exact List.eq_nil_of_length_eq_zero (by omega)
      rw [hpn] at BQ
      rw [← hgq] at BQ ⊢
      have hguq : gu ≠ gq := by omega
      have hgvq : gv ≠ gq := by omega
      have hgqw : w.heap.size ≤ gq := by rw [hgq]; exact R13.out.size
      have hS0 := Lib.hid (show DLong w gu gq N N3 V E (.slice (some ⟨gv, 0, none⟩) m cv) D N3 w4 from
        ⟨⟨List.replicate N3 0, lu, pu, BQ, by simp, Sm.replicate _, BU2.out.below' hbel1, by rw [hlu.out.1], hlu.out.2.1, by rw [hlu.out.2.2]; rw [FN.out.2.2]; exact Dv.start F3.out⟩, RV1.out.below hbel1, then_below R13.out hbel1⟩)
      clear hown1 hgrow1 hbel1 hF BQ hpq hpn hgq BU2 RV1 R13 hgv2 hgu3 hlu hi hz0 hz1 hz2
      go_wp2_with fail
      go_loopg [13] N3 (fun gk si wr => ∃ (z : Int), si = .int .i64 z ∧ z = (gk : Int) - 1 ∧ gk ≤ N3 ∧ Hid (DLong w gu gq N N3 V E (.slice (some ⟨gv, 0, none⟩) m cv) D gk wr))
      case atStart => exact ⟨_, rfl, rfl, Nat.le_refl _, hS0⟩
      case round =>
        obtain ⟨z', rfl, hzz, hgN, HD⟩ := hrel
        clear hS0
        by_cases hg0 : gk = 0
        · have hz1 : z' = -1 := by omega
          subst hz1
          obtain ⟨⟨qs, cur, post, q1, q2, q3, q4, q5, q6, q7⟩, q8, q9⟩ := HD.out
          rw [hg0] at q7
          obtain ⟨e1, e2⟩ := q7.done
          -- the end
          rw [FQ.out] at e1
          have hQ := q3
          have kt1 := rtrim_any (v := .slice (some ⟨gq, 0, none⟩) N3 N3) (W := wr) (l := qs) (by have := q1.reads (o := 0) (cap := N3) rfl (by omega); rwa [q2] at this) (by omega)
          have kt2 := rtrim_any (v := .slice (some ⟨gu, 0, none⟩) N cu) (W := wr) (l := cur) (by have := q4.reads (o := 0) (cap := cu) rfl (by omega); rwa [q5] at this) (by omega)
          rw [cut_eq q3, e1] at kt1
          rw [cut_eq q6, e2] at kt2
          have kd := Lib.hid (fun (W : World) (v : Value) (hv : Reads W v (digs (V % E))) => rdown_any (sh := s) hv (by
            have hE0 : 0 < E := by
              have := F2.out
              have : 0 < 4294967296 ^ p := Nat.pow_pos (by decide)
              omega
            have : (digs (V % E)).length ≤ m := digs_length_le (Nat.lt_trans (Nat.mod_lt _ hE0) F1.out)
            omega) (sm_digs _) hs31)
          rw [val_digs, FR.out] at kd
          have KT1 := Lib.hid kt1
          have KT2 := Lib.hid kt2
          have Q9 := Lib.hid q9
          clear kt1 kt2 q1 q2 q3 q4 q5 q6 q7 q8 q9 e1 e2 hQ hg0 hzz hgN
          go_wp2_with fail
          go_at_call 67
          refine KT1.out.mono ?_
          clear KT1
          rintro e w' ⟨⟨x1, rfl, hx1⟩, hw⟩
          subst w'
          have HX1 := Lib.hid hx1
          clear hx1
          go_wp2_with fail
          go_at_call 67
          refine KT2.out.mono ?_
          clear KT2
          rintro e w' ⟨⟨x2, rfl, hx2⟩, hw⟩
          subst w'
          have HX2 := Lib.hid hx2
          clear hx2
          go_wp2_with fail
          go_at_call 71
          refine (kd.out _ _ HX2.out).mono ?_
          clear kd
          rintro e w9 ⟨x3, rfl, hx3, r9⟩
          have HX3 := Lib.hid hx3
          have HX1' := Lib.hid (HX1.out.below r9)
          have R9 := Lib.hid (then_below Q9.out r9)
          clear hx3 r9
          go_wp2_with fail
          go_ret3
          exact ⟨x1, x3, rfl, HX1'.out, HX3.out, R9.out⟩
        · obtain ⟨i, hgi⟩ : ∃ i, gk = i + 1 := ⟨gk - 1, by omega⟩
          have hzi : z' = (i : Int) := by omega
          subst hzi
          obtain ⟨⟨qs, cur, post, q1, q2, q3, q4, q5, q6, q7⟩, q8, q9⟩ := HD.out
          rw [hgi] at q7
          have hiN : i < N3 := by omega
          have hiM : i + m < N := by omega
          obtain ⟨row, hrow⟩ : ∃ row, row = (cur.drop i).take (m + 1) := ⟨_, rfl⟩
          have hrl : row.length = m + 1 := by rw [hrow, List.length_take, List.length_drop]; omega
          have hrs : Sm row := by rw [hrow]; exact (q6.drop i).take _
          have hsplit : cur = cur.take i ++ row ++ cur.drop (i + m + 1) := by
            rw [hrow, show i + m + 1 = i + (m + 1) by omega, ← List.drop_drop, List.append_assoc, List.take_append_drop, List.take_append_drop]
          have hpl : ((cur.take i).map u32v).length = i := by rw [List.length_map, List.length_take]; omega
          have hwin : Blk wr gu ((cur.take i).map u32v) row ((cur.drop (i + m + 1)).map u32v ++ post) := by
            have := q4
            rw [hsplit] at this
            exact Blk.split.1 this
          have hlt : val row < 4294967296 * E := by
            rw [hrow]
            exact (Dv.step (row' := digs (val ((cur.drop i).take (m + 1)) % E) ++ List.replicate (m + 1 - (digs (val ((cur.drop i).take (m + 1)) % E)).length) 0) F1.out q7 q6 (by omega) (by omega) (by
              rw [List.length_append, List.length_replicate]
              have hE0 : 0 < E := by
                have := F2.out
                have : 0 < 4294967296 ^ p := Nat.pow_pos (by decide)
                omega
              have : (digs (val ((cur.drop i).take (m + 1)) % E)).length ≤ m := digs_length_le (Nat.lt_trans (Nat.mod_lt _ hE0) F1.out)
              omega) (by rw [val_append, val_replicate, val_digs, Nat.mul_zero, Nat.add_zero])).1
          obtain ⟨n2, hn2⟩ : ∃ n2, m = n2 + 2 := ⟨m - 2, by omega⟩
          obtain ⟨bv, ov, hbv, hcv2⟩ := q8.addr
          obtain ⟨hbv1, _⟩ := hbv (by have := hvD.out.2.2; omega)
          simp only [Option.some.injEq, Addr.mk.injEq, and_true] at hbv1
          obtain ⟨rfl, rfl⟩ := hbv1
          have htop : 2147483648 ≤ D.getD (n2 + 1) 0 := by
            have hpn : p = n2 + 1 := by have := HP.out; have := HM.out; omega
            rw [← hpn]
            exact top_of (by rw [hvD.out.2.2]; omega) hvD.out.2.1 hvD.out.1 F2.out
          have kg := rguess_any (w := wr) (br := gu) (bb := gv) (ob := 0) (cr := cu) (cb := cv) (n := n2) (a := i) (L := N) (lr := row) (lb := D) (fun j hj => hwin.cell hpl j (by omega)) (fun j hj => hcv2 j (by have := hvD.out.2.2; omega)) (by omega) (by have := hvD.out.2.2; omega) (by omega) (by omega) (by omega) hrs hvD.out.2.1 htop (by rw [hvD.out.1]; exact hlt)
          rw [← hn2, hvD.out.1] at kg
          have KG := Lib.hid kg
          have KT := Lib.hid (fun (W : World) (hW : Below wr.heap.size wr W) (T : Nat) (hT : T < 4294967296) => rtakes_any (w := W) (g := gu) (c := cu) (a := i) (L := N) (q := T) (hwin.below' hW) hpl (q8.below hW) (by simp [Value.ownBlock]; omega) (by rw [hrl, hvD.out.2.2]) (by omega) (by omega) hrs hvD.out.2.1 hT)
          have KGV := Lib.hid (fun (W : World) (row1 : List Nat) (hB1 : Blk W gu ((cur.take i).map u32v) row1 ((cur.drop (i + m + 1)).map u32v ++ post)) (hl1 : row1.length = row.length) (hs1 : Sm row1) (hR1 : Reads W (.slice (some ⟨gv, 0, none⟩) m cv) D) => rgives_any (w := W) (g := gu) (c := cu) (a := i) (L := N) hB1 hpl hR1 (by simp [Value.ownBlock]; omega) (by rw [hl1, hrl, hvD.out.2.2]) (by omega) (by omega) hs1 hvD.out.2.1)
          have HSTEP := Lib.hid (fun (W' : World) (row' : List Nat) (Q : Nat) (k1 : row'.length = m + 1) (k2 : Sm row') (k3 : val row' = val row % E) (k4 : Blk W' gu ((cur.take i).map u32v) row' ((cur.drop (i + m + 1)).map u32v ++ post)) (k5 : wr.grownBy W' (some gu)) (k6 : Q = val row / E) (k7 : Q < 4294967296) =>
            DLong.step (w := w) (N := N) (N3 := N3) (V := V) (E := E) (m := m) (i := i) (Q := Q) q1 q2 q3 q6 q5 q7 F1.out hiN hiM q8 (by simp [Value.ownBlock]; omega) (by simp [Value.ownBlock]; omega) hguq q9 hguw hgqw k1 k2 (by rw [← hrow]; exact k3) k4 k5 (by rw [← hrow]; exact k6) k7)
          have HW2 := Lib.hid hwin
          have HRL := Lib.hid hrl
          have Q8 := Lib.hid q8
          have HI := Lib.hid hgi
          have hlt1 : val row < 4294967296 ^ m * 4294967296 := by
            have := Nat.mul_lt_mul_of_pos_right F1.out (show 0 < 4294967296 by decide)
            omega
          have HLT := Lib.hid hlt1
          clear kg hwin hsplit hrow hrl hlt hlt1 q1 q2 q3 q4 q5 q6 q7 q8 q9 hcv2 htop hn2 hzz hgN hg0 hgi
          go_wp2_with fail
          go_at_call 68
          refine KG.out.mono ?_
          rintro e w5 ⟨T, rfl, hT, hlo, hhi, r5⟩
          have LO := Lib.hid hlo
          have HI2 := Lib.hid hhi
          have R5 := Lib.hid r5
          clear KG hlo hhi r5
          go_wp2_with fail
          go_at_call 69
          refine (KT.out w5 R5.out T hT).mono ?_
          rintro e w6 ⟨row1, o, rfl, B6, l6, s6, v6, g6⟩
          have hmath := window_math (R := val row) (D := E) (T := T) (r1 := val row1) (o := o) (P := 4294967296 ^ m) LO.out HI2.out F1.out HLT.out (by have := val_lt s6; rwa [l6, HRL.out, Nat.pow_succ] at this) (by rw [hvD.out.1, HRL.out, Nat.pow_succ] at v6; exact v6)
          have G6 := Lib.hid (grown_trans (grown_below (grown_refl wr (some gu)) R5.out) g6)
          have MATH := Lib.hid hmath
          have B6' := Lib.hid B6
          have L6 := Lib.hid l6
          have hwT := w32_of T hT
          clear KT hmath B6 l6 v6 g6
          by_cases ho : 0 < o
          · have hdo : decide (0 < o) = true := by simp [ho]
            rw [hdo]
            have hm2 : 0 < T ∧ T - 1 = val row / E ∧ ∀ r2 c, r2 < 4294967296 ^ m * 4294967296 → r2 + 4294967296 ^ m * 4294967296 * c = val row1 + E → r2 = val row % E := by
              rcases MATH.out with h | h
              · omega
              · exact h.2
            have M2 := Lib.hid hm2
            have RV6 := Lib.hid (Q8.out.grown G6.out (by simp [Value.ownBlock]; omega))
            clear MATH hm2 ho hdo
            go_wp2_with fail
            go_at_call 70
            refine (KGV.out w6 row1 B6'.out L6.out s6 RV6.out).mono ?_
            rintro e w7 ⟨rfl, row2, B7, l7, s7, ⟨c, v7⟩, g7⟩
            obtain ⟨T1, hT1⟩ : ∃ T1, T1 = T - 1 := ⟨_, rfl⟩
            have hwT1 : IntKind.u64.wrap ((T : Int) - 1) = (T1 : Int) := by rw [IntKind.wrap_u64]; have := M2.out.1; omega
            have hwT2 := w32_of T1 (by omega)
            have l72 : row2.length = m + 1 := by rw [l7, L6.out, HRL.out]
            obtain ⟨z0, z1, z2⟩ := HSTEP.out w7 row2 T1 l72 s7 (M2.out.2.2 _ c (by have := val_lt s7; rwa [l72, Nat.pow_succ] at this) (by rw [hvD.out.1, L6.out, HRL.out, Nat.pow_succ] at v7; exact v7)) B7 (grown_trans G6.out g7) (by rw [hT1]; exact M2.out.2.1) (by omega)
            have Z2 := Lib.hid z2
            obtain ⟨y, hy⟩ : ∃ y, y = qs.getD i 0 := ⟨_, rfl⟩
            rw [← hy] at z0
            clear z2 hy KGV HSTEP B7 l7 s7 v7 g7 hT1 M2 RV6 l72
            go_wp2_with fail
            go_roundg i
            case measure => have := HI.out; omega
            case rel => exact ⟨_, rfl, rfl, by omega, Z2⟩
          · have hdo : decide (0 < o) = false := by simp [ho]
            rw [hdo]
            have hm2 : val row1 = val row % E ∧ T = val row / E := by
              rcases MATH.out with h | h
              · exact h.2
              · omega
            obtain ⟨z0, z1, z2⟩ := HSTEP.out w6 row1 T (by rw [L6.out, HRL.out]) s6 hm2.1 B6'.out G6.out hm2.2 hT
            have Z2 := Lib.hid z2
            obtain ⟨y, hy⟩ : ∃ y, y = qs.getD i 0 := ⟨_, rfl⟩
            rw [← hy] at z0
            clear z2 hy KGV HSTEP MATH hm2 ho hdo
            go_wp2_with fail
            go_roundg i
            case measure => have := HI.out; omega
            case rel => exact ⟨_, rfl, rfl, by omega, Z2⟩

end Go.Proofs.YtlfanbjpfoaipaaGreatDoor

namespace Go.Proofs.YtlfanbjpfoaipaaGreatDoor
open Go Go.Proofs Go.RowKit Go.Shelf Nu

attribute [local go_sem] Oper.semAt_some

set_option maxHeartbeats 1000000 in
theorem rof_any (n : Nat) (hn : n < 18446744073709551616) (w : World) :
    Calls Tryz.prog 65 #[.int .u64 n] w fun e w' => ∃ v, e = .returned v ∧ Reads w' v (digs n) ∧ Below w.heap.size w w' := by
  have hF : Fresh (w.alloc (.cells #[.int .u32 (n % 4294967296 : Nat), .int .u32 (n / 4294967296 : Nat)] 71)) w.heap.size (.slice (some ⟨w.heap.size, 0, none⟩) 2 2) [n % 4294967296, n / 4294967296] :=
    ⟨rfl, .inr ⟨w.heap.size, 2, _, rfl, Nat.le_refl _, World.alloc_heap_new w _, Nat.le_refl _, small_max (by omega), rfl, rfl⟩⟩
  have hsm : Sm [n % 4294967296, n / 4294967296] := Sm.cons (by omega) (Sm.cons (by omega) Sm.nil)
  have kt := rtrim_any hF.reads (by simp)
  have ev : val [n % 4294967296, n / 4294967296] = n := by simp [val]; omega
  rw [cut_eq hsm, ev] at kt
  rw [show ((n % 4294967296 : Nat) : Int) = (n : Int) % 4294967296 by omega, show ((n / 4294967296 : Nat) : Int) = (n : Int) / 4294967296 by omega] at kt
  have KT := Lib.hid kt
  clear kt hF hsm ev
  go_enter Tryz.func65, Tryz.ntmps65
  go_wp2_with fail
  go_at_call 67
  refine KT.out.mono ?_
  rintro e w' ⟨⟨u, rfl, hu⟩, rfl⟩
  have HU := Lib.hid hu
  clear hu
  go_wp2_with fail
  go_ret
  exact ⟨_, rfl, HU.out, (Below.refl _ _).alloc (Nat.le_refl _) _⟩

theorem or_low (n x : Nat) (hn : n < 4294967296) (hx : x < 4294967296) : ((n : Int) * 4294967296 % 18446744073709551616).toNat ||| x = n * 4294967296 + x := by
  have : ((n : Int) * 4294967296 % 18446744073709551616).toNat = n * 4294967296 := by omega
  rw [this]
  have := Nat.two_pow_add_eq_or_of_lt (i := 32) hx n
  rw [show (2 : Nat) ^ 32 = 4294967296 by rfl, Nat.mul_comm] at this
  exact this.symm

end Go.Proofs.YtlfanbjpfoaipaaGreatDoor

namespace Go.Proofs.YtlfanbjpfoaipaaGreatDoor
open Go Go.Proofs Go.RowKit Go.Shelf Nu

attribute [local go_sem] Oper.semAt_some

/-- whether the first one is divided by the second one -/
def divOk (A B : List Nat) : Prop := chk A = true ∧ chk B = true ∧ B ≠ []
instance (A B : List Nat) : Decidable (divOk A B) := inferInstanceAs (Decidable (_ ∧ _))
def divQ (A B : List Nat) : List Nat := if divOk A B then digs (val A / val B) else []
def divR (A B : List Nat) : List Nat := if divOk A B then digs (val A % val B) else []
def divE (A B : List Nat) : Int := if divOk A B then 0 else if chk A = true ∧ chk B = true then 10 else 1

set_option maxHeartbeats 2000000 in
theorem rdiv_bad {w : World} {va vb : Value} {A B : List Nat} (hA : Reads w va A) (hB : Reads w vb B) (hlA : A.length ≤ 100000) (hlB : B.length ≤ 100000) (h : chk A = false ∨ chk B = false) :
    Calls Tryz.prog 10 #[va, vb] w fun e w' => e = .returned (.tuple #[.slice none 0 0, .slice none 0 0, .int .i64 1]) ∧ w' = w := by
  have cA := rcheck_any hA (by omega)
  have cB := rcheck_any hB (by omega)
  obtain ⟨a1, c1, rfl⟩ := hA.form
  obtain ⟨b1, d1, rfl⟩ := hB.form
  clear hA hB
  cases h1 : chk A with
  | false =>
    rw [h1] at cA
    clear cB h1 h
    go_enter Tryz.func10, Tryz.ntmps10
    go_wp2_with (go_at_call 61; refine cA.mono ?_; clear cA; rintro e w' ⟨rfl, rfl⟩)
    go_ret3
    exact ⟨rfl, rfl⟩
  | true =>
    have h2 : chk B = false := by rcases h with h | h; rw [h1] at h; cases h; exact h
    rw [h1] at cA
    rw [h2] at cB
    clear h1 h2 h
    go_enter Tryz.func10, Tryz.ntmps10
    go_wp2_with fail
    go_at_call 61
    refine cA.mono ?_
    clear cA
    rintro e w' ⟨rfl, rfl⟩
    go_wp2_with fail
    go_at_call 61
    refine cB.mono ?_
    clear cB
    rintro e w' ⟨rfl, rfl⟩
    go_wp2_with fail
    go_ret3
    exact ⟨rfl, rfl⟩
set_option maxHeartbeats 2000000 in
theorem rdiv_zero {w : World} {va vb : Value} {A : List Nat} (hA : Reads w va A) (hB : Reads w vb []) (hlA : A.length ≤ 100000) (h : chk A = true) :
    Calls Tryz.prog 10 #[va, vb] w fun e w' => e = .returned (.tuple #[.slice none 0 0, .slice none 0 0, .int .i64 10]) ∧ w' = w := by
  have cA := rcheck_any hA (by omega)
  have cB := rcheck_any hB (by simp)
  rw [h] at cA
  rw [show chk [] = true from rfl] at cB
  obtain ⟨a1, c1, rfl⟩ := hA.form
  obtain ⟨b1, d1, rfl⟩ := hB.form
  rw [List.length_nil] at cB ⊢
  clear hA hB h
  go_enter Tryz.func10, Tryz.ntmps10
  go_wp2_with fail
  go_at_call 61
  refine cA.mono ?_
  clear cA
  rintro e w' ⟨rfl, rfl⟩
  go_wp2_with fail
  go_at_call 61
  refine cB.mono ?_
  clear cB
  rintro e w' ⟨rfl, rfl⟩
  go_wp2_with fail
  go_ret3
  exact ⟨rfl, rfl⟩
set_option maxHeartbeats 2000000 in
theorem rdiv_less {w : World} {va vb : Value} {A B : List Nat} (hA : Reads w va A) (hB : Reads w vb B) (hlA : A.length ≤ 100000) (hlB : B.length ≤ 100000) (hSA : Sm A) (hSB : Sm B) (hca : chk A = true) (hcb : chk B = true) (h0 : B ≠ []) (h : val A < val B) :
    Calls Tryz.prog 10 #[va, vb] w fun e w' => ∃ v1 v2, e = .returned (.tuple #[v1, v2, .int .i64 0]) ∧ Reads w' v1 (digs (val A / val B)) ∧ Reads w' v2 (digs (val A % val B)) ∧ Below w.heap.size w w' := by
  have cA := rcheck_any hA (by omega)
  have cB := rcheck_any hB (by omega)
  have kC := rcmp_any hA hB hlA hlB hSA hSB
  rw [hca] at cA
  rw [hcb] at cB
  rw [nv_chk hca, nv_chk hcb] at kC
  obtain ⟨z, hz⟩ : ∃ z, z = sgn (val A) (val B) := ⟨_, rfl⟩
  rw [← hz] at kC
  have hz0 : z < 0 := by rw [hz]; unfold sgn; rw [if_pos h]; decide
  have kT := Lib.hid (fun (W : World) (hW : Below w.heap.size w W) => rtwin_any (hA.below hW) hlA)
  have e1 : digs (val A / val B) = [] := by rw [Nat.div_eq_of_lt h, digs_zero]
  have e2 : digs (val A % val B) = A := by rw [Nat.mod_eq_of_lt h, digs_val hSA hca]
  rw [e1, e2]
  have hn : 0 < B.length := by
    rcases Nat.eq_zero_or_pos B.length with h | h
    · exact absurd (List.eq_nil_of_length_eq_zero h) h0
    · exact h
  obtain ⟨a1, c1, rfl⟩ := hA.form
  obtain ⟨b1, d1, rfl⟩ := hB.form
  have hm0 : ((B.length : Int) == 0) = false := by simp; omega
  clear hA hB hSA hSB hca hcb h0 h hz e1 e2 hlA hlB
  go_enter Tryz.func10, Tryz.ntmps10
  go_wp2_with fail
  go_at_call 61
  refine cA.mono ?_
  clear cA
  rintro e w' ⟨rfl, rfl⟩
  go_wp2_with fail
  go_at_call 61
  refine cB.mono ?_
  clear cB
  rintro e w' ⟨rfl, rfl⟩
  go_wp2_with fail
  go_at_call 62
  refine kC.mono ?_
  clear kC
  rintro e w1 ⟨rfl, r1⟩
  go_wp2_with fail
  go_at_call 63
  refine (kT.out w1 r1).mono ?_
  clear kT
  rintro e w2 ⟨u, rfl, fu, r2⟩
  have R2 := Lib.hid (then_below r1 r2)
  have FU := Lib.hid fu.reads
  clear fu r1 r2
  go_wp2_with fail
  go_ret3
  exact ⟨_, u, rfl, Reads.nil _, FU.out, R2.out⟩
set_option maxHeartbeats 4000000 in
theorem rdiv_one {w : World} {va vb : Value} {A : List Nat} {d : Nat} (hA : Reads w va A) (hB : Reads w vb [d]) (hlA : A.length ≤ 100000) (hSA : Sm A) (hca : chk A = true) (hd : 0 < d) (hd2 : d < 4294967296) (h : d ≤ val A) :
    Calls Tryz.prog 10 #[va, vb] w fun e w' => ∃ v1 v2, e = .returned (.tuple #[v1, v2, .int .i64 0]) ∧ Reads w' v1 (digs (val A / d)) ∧ Reads w' v2 (digs (val A % d)) ∧ Below w.heap.size w w' := by
  have hcb : chk [d] = true := by simp [chk]; omega
  have hSB : Sm [d] := by intro x hx; simp at hx; omega
  have cA := rcheck_any hA (by omega)
  have cB := rcheck_any hB (by simp)
  have kC := rcmp_any hA hB hlA (by simp) hSA hSB
  rw [hca] at cA
  rw [hcb] at cB
  rw [nv_chk hca, nv_chk hcb, val_one] at kC
  obtain ⟨z, hz⟩ : ∃ z, z = sgn (val A) d := ⟨_, rfl⟩
  rw [← hz] at kC
  have hz0 : ¬ z < 0 := by rw [hz]; unfold sgn; split; omega; split <;> omega
  have kS := Lib.hid (fun (W : World) (hW : Below w.heap.size w W) => rsmall_any (t := d) (hA.below hW) hlA hSA hd hd2)
  have kO := Lib.hid (fun (W : World) => rof_any (val A % d) (by have := Nat.mod_lt (val A) hd; omega) W)
  have hmd : val A % d < 4294967296 := by have := Nat.mod_lt (val A) hd; omega
  obtain ⟨R, hR⟩ : ∃ R, R = val A % d := ⟨_, rfl⟩
  rw [← hR] at kS kO hmd ⊢
  obtain ⟨bb, ob, hbb, hcell⟩ : ∃ bb ob, (∃ d1, vb = .slice (some ⟨bb, ob, none⟩) 1 d1) ∧ w.cell? ⟨bb, ob, none⟩ = some (.int .u32 (d : Int)) ∧ bb < w.heap.size := by
    obtain ⟨b1, d1, rfl⟩ := hB.form
    obtain ⟨bb, ob, h1, h2⟩ := hB.addr
    obtain ⟨rfl, h4⟩ := h1 (by simp)
    exact ⟨bb, ob, ⟨d1, rfl⟩, by have := h2 0 (by simp); simpa using this, h4⟩
  obtain ⟨d1, rfl⟩ := hbb
  have HW := Lib.hid (fun (W : World) (hW : Below w.heap.size w W) => (hW.cell (p := ⟨bb, ob, none⟩) hcell.2).trans hcell.1)
  obtain ⟨a1, c1, rfl⟩ := hA.form
  clear hA hB hSA hSB hca hcb h hz hlA hR hcell
  go_enter Tryz.func10, Tryz.ntmps10
  go_wp2_with fail
  go_at_call 61
  refine cA.mono ?_
  clear cA
  rintro e w' ⟨rfl, rfl⟩
  go_wp2_with fail
  go_at_call 61
  refine cB.mono ?_
  clear cB
  rintro e w' ⟨rfl, rfl⟩
  go_wp2_with fail
  go_at_call 62
  refine kC.mono ?_
  clear kC
  rintro e w1 ⟨rfl, r1⟩
  have q1 := HW.out w1 r1
  go_wp2_with fail
  go_at_call 64
  refine (kS.out w1 r1).mono ?_
  clear kS
  rintro e w2 ⟨u, rfl, fu, r2⟩
  have R2 := Lib.hid (then_below r1 r2)
  have FU := Lib.hid fu
  clear fu r1 r2 q1
  have u1 := w64_of R (by omega)
  go_wp2_with fail
  go_at_call 65
  refine (kO.out w2).mono ?_
  clear kO
  rintro e w3 ⟨v, rfl, fv, r3⟩
  have R3 := Lib.hid (then_below R2.out r3)
  have FU3 := Lib.hid (FU.out.below r3)
  have FV := Lib.hid fv
  clear fv r3
  go_wp2_with fail
  go_ret3
  exact ⟨u, v, rfl, FU3.out, FV.out, R3.out⟩

/-- Div, of any two numbers -/
theorem rdiv_any {w : World} {va vb : Value} {A B : List Nat} (hA : Reads w va A) (hB : Reads w vb B) (hlA : A.length ≤ 80000) (hlB : B.length ≤ 80000) (hSA : Sm A) (hSB : Sm B) :
    Calls Tryz.prog 10 #[va, vb] w fun e w' => ∃ v1 v2, e = .returned (.tuple #[v1, v2, .int .i64 (divE A B)]) ∧ Reads w' v1 (divQ A B) ∧ Reads w' v2 (divR A B) ∧ Below w.heap.size w w' := by
  by_cases h : divOk A B
  · rw [divE, divQ, divR, if_pos h, if_pos h, if_pos h]
    obtain ⟨hca, hcb, h0⟩ := h
    rcases Nat.lt_or_ge (val A) (val B) with h | h
    · exact rdiv_less hA hB (by omega) (by omega) hSA hSB hca hcb h0 h
    · match B, h0 with
      | [d], _ =>
        have hd : 0 < d := by simp [chk] at hcb; omega
        have := rdiv_one hA hB (by omega) hSA hca hd hSB.head (by rw [val_one] at h; exact h)
        rw [val_one]; exact this
      | d :: d2 :: t, _ => exact rdiv_long hA hB hlA hlB hSA hSB hca hcb (by simp) h
  · rw [divE, divQ, divR, if_neg h, if_neg h, if_neg h]
    by_cases h2 : chk A = true ∧ chk B = true
    · rw [if_pos h2]
      have : B = [] := by
        by_cases h3 : B = []
        · exact h3
        · exact absurd ⟨h2.1, h2.2, h3⟩ h
      subst this
      refine (rdiv_zero hA hB (by omega) h2.1).mono ?_
      rintro e w' ⟨rfl, q⟩
      exact ⟨_, _, rfl, Reads.nil _, Reads.nil _, by rw [q]; exact Below.refl _ _⟩
    · rw [if_neg h2]
      refine (rdiv_bad hA hB (by omega) (by omega) ?_).mono ?_
      · cases h3 : chk A with
        | false => exact .inl rfl
        | true =>
          cases h4 : chk B with
          | false => exact .inr rfl
          | true => exact absurd ⟨h3, h4⟩ h2
      · rintro e w' ⟨rfl, q⟩
        exact ⟨_, _, rfl, Reads.nil _, Reads.nil _, by rw [q]; exact Below.refl _ _⟩

/-- of two numbers that may be, the second one not 0 -/
theorem rdiv_digs {w : World} {va vb : Value} {X Y : Nat} (hA : Reads w va (digs X)) (hB : Reads w vb (digs Y)) (hlA : (digs X).length ≤ 80000) (hlB : (digs Y).length ≤ 80000) (h0 : Y ≠ 0) :
    Calls Tryz.prog 10 #[va, vb] w fun e w' => ∃ v1 v2, e = .returned (.tuple #[v1, v2, .int .i64 0]) ∧ Reads w' v1 (digs (X / Y)) ∧ Reads w' v2 (digs (X % Y)) ∧ Below w.heap.size w w' := by
  have k := rdiv_any hA hB hlA hlB (sm_digs _) (sm_digs _)
  have h : divOk (digs X) (digs Y) := ⟨chk_digs _, chk_digs _, fun e => h0 (digs_eq_nil.1 e)⟩
  rw [divE, divQ, divR, if_pos h, if_pos h, if_pos h, val_digs, val_digs] at k
  exact k

set_option maxRecDepth 100000 in
set_option maxHeartbeats 4000000 in
theorem rgcd_any {w : World} {va vb : Value} {A B : List Nat} (hA : Reads w va A) (hB : Reads w vb B) (hlA : A.length ≤ 80000) (hlB : B.length ≤ 80000) (hSA : Sm A) (hSB : Sm B) :
    Calls Tryz.prog 12 #[va, vb] w fun e w' => ∃ v, e = .returned v ∧ Reads w' v (digs (Nat.gcd (nv A) (nv B))) ∧ Below w.heap.size w w' := by
  have k1 := flip (rfit_any hA (by omega))
  have rA := orzV_reads hA
  have rB := orzV_reads hB
  have kB := Lib.hid (fun (W : World) (hW : Below w.heap.size w W) => flip (rfit_any (hB.below hW) (by omega)))
  have eA : orz A = digs (nv A) := by rw [← val_orz, digs_val (sm_orz hSA) (chk_orz A)]
  have eB : orz B = digs (nv B) := by rw [← val_orz, digs_val (sm_orz hSB) (chk_orz B)]
  rw [eA] at rA
  rw [eB] at rB
  have lA : (digs (nv A)).length ≤ 80000 := eA ▸ Nat.le_trans (orz_length A) hlA
  have lB : (digs (nv B)).length ≤ 80000 := eB ▸ Nat.le_trans (orz_length B) hlB
  generalize nv A = X at *
  generalize nv B = Y at *
  obtain ⟨a1, c1, e1⟩ := rA.form
  obtain ⟨b1, d1, e2⟩ := rB.form
  rw [e1] at k1 rA
  rw [e2] at kB rB
  have kT1 := rtwin_any rA (by omega)
  have kT2 := Lib.hid (fun (W : World) (hW : Below w.heap.size w W) => rtwin_any (rB.below hW) (by omega))
  obtain ⟨x1, x2, rfl⟩ := hA.form
  obtain ⟨y1, y2, rfl⟩ := hB.form
  have LA := Lib.hid lA
  have LB := Lib.hid lB
  obtain ⟨G, hG⟩ : ∃ G, G = Nat.gcd X Y := ⟨_, rfl⟩
  rw [← hG]
  have HG := Lib.hid hG
  clear hG
  clear hA hB e1 e2 eA eB rA rB lA lB hSA hSB hlA hlB
  go_enter Tryz.func12, Tryz.ntmps12
  go_wp2_with fail
  go_at_call 72
  refine k1.mono ?_
  clear k1
  rintro e w' ⟨rfl, hw⟩
  subst w'
  go_wp2_with fail
  go_at_call 63
  refine kT1.mono ?_
  clear kT1
  rintro e w1 ⟨u1, rfl, f1, r1⟩
  obtain ⟨p1, q1, rfl⟩ := f1.reads.form
  have F1 := Lib.hid f1.reads
  have KB := Lib.hid (kB.out w1 r1)
  have KT := Lib.hid (kT2.out w1 r1)
  have R1 := Lib.hid r1
  clear f1 kB kT2 r1
  go_wp2_with fail
  go_at_call 72
  refine KB.out.mono ?_
  clear KB
  rintro e w' ⟨rfl, hw⟩
  subst w'
  go_wp2_with fail
  go_at_call 63
  refine KT.out.mono ?_
  clear KT
  rintro e w2 ⟨u2, rfl, f2, r2⟩
  obtain ⟨p2, q2, rfl⟩ := f2.reads.form
  have F2 := Lib.hid f2.reads
  have F12 := Lib.hid (F1.out.below r2)
  have R2 := Lib.hid (then_below R1.out r2)
  clear f2 r2 F1 R1
  go_wp2_with fail
  go_loopg [0, 1] Y (fun gk x y wr => ∃ (P Q : Nat) (a : Option Addr) (c : Nat) (b : Option Addr) (d : Nat), x = .slice a (digs P).length c ∧ y = .slice b (digs Q).length d ∧ Q = gk ∧ Hid (Reads wr (.slice a (digs P).length c) (digs P) ∧ Reads wr (.slice b (digs Q).length d) (digs Q) ∧ (digs P).length ≤ 80000 ∧ (digs Q).length ≤ 80000 ∧ Nat.gcd P Q = G ∧ Below w.heap.size w wr))
  case atStart => exact ⟨X, Y, _, _, _, _, rfl, rfl, rfl, Lib.hid ⟨F12.out, F2.out, LA.out, LB.out, HG.out.symm, R2.out⟩⟩
  case round =>
    obtain ⟨P, Q, a, c, b, d, rfl, rfl, hQ, H⟩ := hrel
    clear F12 F2 LA LB HG R2
    by_cases h0 : Q = 0
    · have hl : ((digs Q).length : Int) = 0 := by rw [h0, digs_zero]; rfl
      have hl0 : ¬ (0 : Int) < ((digs Q).length : Int) := by omega
      have eG : P = G := by have := H.out.2.2.2.2.1; rw [h0, Nat.gcd_zero_right] at this; exact this
      have EG := Lib.hid eG
      clear h0 hl eG hQ
      go_wp2_with fail
      go_ret
      rw [← EG.out]
      exact ⟨_, rfl, H.out.1, H.out.2.2.2.2.2⟩
    · have hp := digs_len_pos h0
      have hl0 : (0 : Int) < ((digs Q).length : Int) := by omega
      have kd := rdiv_digs H.out.1 H.out.2.1 H.out.2.2.1 H.out.2.2.2.1 h0
      have KD := Lib.hid kd
      have H0 := Lib.hid h0
      have HQ := Lib.hid hQ
      clear kd h0 hp hQ
      go_wp2_with fail
      go_at_call 10
      refine KD.out.mono ?_
      clear KD
      rintro e w3 ⟨v1, v2, rfl, g1, g2, r3⟩
      obtain ⟨s1, t1, rfl⟩ := g1.form
      obtain ⟨s2, t2, rfl⟩ := g2.form
      have hlt : P % Q < Q := Nat.mod_lt _ (Nat.pos_of_ne_zero H0.out)
      have HH := Lib.hid (show Reads w3 (.slice b (digs Q).length d) (digs Q) ∧ Reads w3 (.slice s2 (digs (P % Q)).length t2) (digs (P % Q)) ∧ (digs Q).length ≤ 80000 ∧ (digs (P % Q)).length ≤ 80000 ∧ Nat.gcd Q (P % Q) = G ∧ Below w.heap.size w w3 from
        ⟨H.out.2.1.below r3, g2, H.out.2.2.2.1, Nat.le_trans (digs_mono (Nat.le_of_lt hlt)) H.out.2.2.2.1, by rw [Nat.gcd_comm, ← Nat.gcd_rec, Nat.gcd_comm]; exact H.out.2.2.2.2.1, then_below H.out.2.2.2.2.2 r3⟩)
      obtain ⟨R, hR⟩ : ∃ R, R = P % Q := ⟨_, rfl⟩
      rw [← hR] at HH hlt ⊢
      have HLT := Lib.hid hlt
      clear g1 g2 r3 hR hlt
      go_wp2_with fail
      go_roundg R
      case measure => have := HLT.out; have := HQ.out; omega
      case rel => exact ⟨Q, R, _, _, _, _, rfl, rfl, rfl, HH⟩

end Go.Proofs.YtlfanbjpfoaipaaGreatDoor

namespace Go.Proofs.YtlfanbjpfoaipaaGreatDoor
open Go Go.Proofs Go.RowKit Go.Shelf Nu

theorem bitLenAux_none (f : Nat) : Lib.bitLenAux f 0 = 0 := by cases f <;> simp [Lib.bitLenAux]
theorem bitLenAux_spec : ∀ (f x : Nat), x < 2 ^ f → x < 2 ^ Lib.bitLenAux f x ∧ (x ≠ 0 → 1 ≤ Lib.bitLenAux f x ∧ 2 ^ (Lib.bitLenAux f x - 1) ≤ x)
  | 0, x, h => by
    obtain rfl : x = 0 := by simpa using h
    simp [Lib.bitLenAux]
  | f + 1, x, h => by
    rw [Lib.bitLenAux]
    split
    · rename_i h0; subst h0; simp
    · rename_i h0
      obtain ⟨h1, h2⟩ := bitLenAux_spec f (x / 2) (by rw [Nat.pow_succ] at h; omega)
      by_cases h3 : x / 2 = 0
      · rw [h3, bitLenAux_none]
        simp; omega
      · obtain ⟨h4, h5⟩ := h2 h3
        generalize Lib.bitLenAux f (x / 2) = k at *
        obtain ⟨j, rfl⟩ : ∃ j, k = j + 1 := ⟨k - 1, by omega⟩
        rw [Nat.add_sub_cancel] at h5
        rw [Nat.add_comm 1, Nat.add_sub_cancel]
        refine ⟨?_, fun _ => ⟨by omega, ?_⟩⟩
        · rw [Nat.pow_succ]; omega
        · rw [Nat.pow_succ]; omega

theorem lz_any (T : Nat) (h0 : 0 < T) (h1 : T < 4294967296) : ∃ sh : Nat, sh ≤ 31 ∧ 2147483648 ≤ T * 2 ^ sh ∧ T * 2 ^ sh < 4294967296 ∧
    ∀ W, Calls Tryz.prog 202 #[.int .u32 T] W fun e w' => e = .returned (.int .i64 sh) ∧ w' = W := by
  have hs := bitLenAux_spec 64 T (by omega)
  have hk := Any.bits_LeadingZeros32 YtlfanbjpfoaipaaGreatDoor.lzL (T : Int)
  have hle := Any.bitLen_le32 (T : Int) (by omega) (by omega)
  have e : Lib.bitLen ((T : Int)).toNat = Lib.bitLenAux 64 T := rfl
  rw [e] at hk hle
  obtain ⟨h2, h3⟩ := hs
  obtain ⟨h4, h5⟩ := h3 (by omega)
  generalize Lib.bitLenAux 64 T = k at *
  obtain ⟨j, rfl⟩ : ∃ j, k = j + 1 := ⟨k - 1, by omega⟩
  rw [Nat.add_sub_cancel] at h5
  refine ⟨31 - j, by omega, ?_, ?_, fun W => ?_⟩
  · have := Nat.mul_le_mul_right (2 ^ (31 - j)) h5
    rw [← Nat.pow_add, show j + (31 - j) = 31 by omega] at this
    exact this
  · have := Nat.mul_lt_mul_of_pos_right h2 (show 0 < 2 ^ (31 - j) from Nat.pow_pos (by decide))
    rw [← Nat.pow_add, show j + 1 + (31 - j) = 32 by omega] at this
    exact this
  · have := hk W (by omega) (by omega)
    rw [show (32 : Int) - ((j + 1 : Nat) : Int) = ((31 - j : Nat) : Int) by omega] at this
    exact this

end Go.Proofs.YtlfanbjpfoaipaaGreatDoor

namespace Go.Proofs.YtlfanbjpfoaipaaGreatDoor
open Go Go.Proofs Go.RowKit Go.Shelf Nu

attribute [local go_sem] Oper.semAt_some

theorem head_facts {p1 p2 p3 s R : Nat} (h1 : p1 < 4294967296) (h2 : p2 < 4294967296) (h3 : p3 < 4294967296) (hs : s ≤ 31) (hR : R = (p1 * 4294967296 + p2) * 2 ^ s + p3 / 2 ^ (32 - s)) (hb : R < 18446744073709551616) :
    ∃ H M P : Nat, bits BinOp.or IntKind.u64 ((p1 : Int) * 4294967296) (p2 : Int) = (H : Int) ∧ IntKind.u64.wrap ((H : Int) * 2 ^ s) = (M : Int) ∧ (p3 : Int) / 2 ^ (32 - s) = (P : Int) ∧ bits BinOp.or IntKind.u64 (M : Int) (P : Int) = (R : Int) ∧ H < 18446744073709551616 ∧ P < 4294967296 := by
  have hlo := hd_low hs h3
  have hle : (p1 * 4294967296 + p2) * 2 ^ s ≤ R := hR ▸ Nat.le_add_right _ _
  refine ⟨p1 * 4294967296 + p2, 2 ^ s * (p1 * 4294967296 + p2), p3 / 2 ^ (32 - s), or_shl p1 p2 h1 h2, ?_, ?_, ?_, by omega, Nat.lt_of_le_of_lt (Nat.div_le_self _ _) h3⟩
  · have e : ((p1 * 4294967296 + p2 : Nat) : Int) * 2 ^ s = ((2 ^ s * (p1 * 4294967296 + p2) : Nat) : Int) := by
      rw [Int.natCast_mul, Int.natCast_pow, Int.mul_comm]; rfl
    rw [e]
    exact w64_of _ (by rw [Nat.mul_comm (2 ^ s)]; omega)
  · rw [Int.natCast_ediv, Int.natCast_pow]; rfl
  · have := or_side (p1 * 4294967296 + p2) (p3 / 2 ^ (32 - s)) s hlo (by rw [Nat.mul_comm (2 ^ s), ← hR]; exact hb)
    rw [this, hR, Nat.mul_comm (2 ^ s)]

set_option maxHeartbeats 1000000 in
theorem head_any {w : World} {v : Value} {l : List Nat} {n s M : Nat} (h : Reads w v l) (hl : l.length ≤ n + 3) (hn : n ≤ 100000) (hs : Sm l) (hsh : s ≤ 31) (hM : M = n + 3) (hb : hd (val l) n s < 18446744073709551616) :
    Calls Tryz.prog 209 #[v, .int .i64 M, .int .u64 s] w fun e w' => e = .returned (.int .u64 (hd (val l) n s : Nat)) ∧ w' = w := by
  have e := hd_eq hl hs hsh
  have k1 := part_any h (by omega) hs (n + 2) (by omega)
  have k2 := part_any h (by omega) hs (n + 1) (by omega)
  have k3 := part_any h (by omega) hs n (by omega)
  have b1 := hs.getD (n + 2)
  have b2 := hs.getD (n + 1)
  have b3 := hs.getD n
  generalize l.getD (n + 2) 0 = p1 at *
  generalize l.getD (n + 1) 0 = p2 at *
  generalize l.getD n 0 = p3 at *
  obtain ⟨R, hR⟩ : ∃ R, R = hd (val l) n s := ⟨_, rfl⟩
  rw [← hR] at e hb ⊢
  obtain ⟨H, M1, P, f1, f2, f3, f4, f5, f6⟩ := head_facts b1 b2 b3 hsh e hb
  obtain ⟨t, ht⟩ : ∃ t, t = 32 - s := ⟨_, rfl⟩
  rw [← ht] at f3
  have e1 : (M : Int) - 1 = ((n + 2 : Nat) : Int) := by omega
  have e2 : (M : Int) - 2 = ((n + 1 : Nat) : Int) := by omega
  have e3 : (M : Int) - 3 = (n : Int) := by omega
  have e4 : (32 : Int) - (s : Int) = (t : Int) := by omega
  have u1 := w64_of t (by omega)
  have bt : t ≤ 32 := by omega
  generalize n + 2 = N2 at *
  generalize n + 1 = N1 at *
  have bM : M ≤ 100003 := by omega
  have bM2 : 3 ≤ M := by omega
  obtain ⟨a1, c1, rfl⟩ := h.form
  clear h hl hs hM ht hR e
  go_enter Tryz.func209, Tryz.ntmps209
  go_wp2_with (first
    | (go_at_call 217; with_reducible refine k1.mono ?_; clear k1; rintro e w' ⟨rfl, rfl⟩)
    | (go_at_call 217; with_reducible refine k2.mono ?_; clear k2; rintro e w' ⟨rfl, rfl⟩)
    | (go_at_call 217; with_reducible refine k3.mono ?_; clear k3; rintro e w' ⟨rfl, rfl⟩))
  go_ret
  exact ⟨rfl, rfl⟩

set_option maxHeartbeats 1000000 in
theorem heads_any {w : World} {va vb : Value} {la lb : List Nat} {n : Nat} (ha : Reads w va la) (hb : Reads w vb lb) (hla : la.length = n + 3) (hlb : lb.length ≤ n + 3) (hn : n ≤ 90000) (hsa : Sm la) (hsb : Sm lb) (hca : chk la = true) (hle : val lb ≤ val la) :
    Calls Tryz.prog 159 #[va, vb] w fun e w' => ∃ s x y : Nat, e = .returned (.tuple #[.int .u64 x, .int .u64 y]) ∧ x = hd (val la) n s ∧ y = hd (val lb) n s ∧ y ≤ x ∧ x < 18446744073709551616 ∧ w' = w := by
  have ha0 := ha
  obtain ⟨a1, c1, rfl⟩ := ha.form
  obtain ⟨b, o, hbo, hcell⟩ := ha0.addr
  have ht := hcell (n + 2) (by omega)
  obtain ⟨T, hT⟩ : ∃ T, T = la.getD (n + 2) 0 := ⟨_, rfl⟩
  have hT0 : 0 < T := by
    rcases (chk_iff la).1 hca with h | h
    · rw [h] at hla; simp at hla
    · rw [hla, show n + 3 - 1 = n + 2 from rfl, ← hT] at h; omega
  have hT1 : T < 4294967296 := hT ▸ hsa.getD (n + 2)
  rw [← hT] at ht
  obtain ⟨s, hs, hs1, hs2, klz⟩ := lz_any T hT0 hT1
  rw [hT] at hs2
  have hx := hd_lt (n := n) (s := s) (by omega) hsa hs hs2
  have hyx : hd (val lb) n s ≤ hd (val la) n s := hd_mono hle
  have k1 := head_any (s := s) (M := la.length) ha (by omega) (by omega) hsa hs hla hx
  have k2 := head_any (s := s) (M := la.length) hb hlb (by omega) hsb hs hla (by omega)
  obtain ⟨x, hxe⟩ : ∃ x, x = hd (val la) n s := ⟨_, rfl⟩
  obtain ⟨y, hye⟩ : ∃ y, y = hd (val lb) n s := ⟨_, rfl⟩
  rw [← hxe] at k1 hx hyx
  rw [← hye] at k2 hyx
  have HX := Lib.hid hxe
  have HY := Lib.hid hye
  obtain ⟨b1, d1, rfl⟩ := hb.form
  obtain ⟨rfl, hbw⟩ : a1 = some ⟨b, o, none⟩ ∧ b < w.heap.size := hbo (by omega)
  generalize la.length = M at *
  have e1 : (M : Int) - 1 = ((n + 2 : Nat) : Int) := by omega
  have bM : n + 2 < M := by omega
  have bM2 : M ≤ 90003 := by omega
  generalize n + 2 = N2 at *
  have ush : IntKind.u64.wrap (s : Int) = (s : Int) := w64_of s (by omega)
  clear ha ha0 hb hcell hbo hT hT0 hla hlb hxe hye hsa hsb hca hle hs1 hs2
  go_enter Tryz.func159, Tryz.ntmps159
  go_wp2_with (first
    | (go_at_call 202; refine (klz _).mono ?_; clear klz; rintro e w' ⟨rfl, rfl⟩)
    | (go_at_call 209; with_reducible refine k1.mono ?_; clear k1; rintro e w' ⟨rfl, rfl⟩)
    | (go_at_call 209; with_reducible refine k2.mono ?_; clear k2; rintro e w' ⟨rfl, rfl⟩))
  go_ret2
  exact ⟨s, x, y, rfl, HX.out, HY.out, hyx, hx, rfl⟩

end Go.Proofs.YtlfanbjpfoaipaaGreatDoor

namespace Go.Proofs.YtlfanbjpfoaipaaGreatDoor.Nu

/-- what the loop knows of two heads ha, hb: what stands, and the factors by which it is made of both; `ev`: each the other way about -/
def LS (ha hb A B u1 u2 v1 v2 : Nat) (ev : Bool) : Prop :=
  (if ev then A + u1 * ha = v1 * hb ∧ B + v2 * hb = u2 * ha ∧ u2 * v1 = u1 * v2 + 1 else A + v1 * hb = u1 * ha ∧ B + u2 * ha = v2 * hb ∧ u1 * v2 = u2 * v1 + 1) ∧
  A * v2 + B * v1 = ha ∧ B ≤ A ∧ u2 ≤ v2 ∧ u1 + u2 ≤ v1 + v2 ∧ 1 ≤ v2 ∧ (v1 = 0 ∨ 1 ≤ u2)

theorem LS.start {ha hb : Nat} (h : hb ≤ ha) : LS ha hb ha hb 1 0 0 1 false :=
  ⟨by simp, by simp, h, by omega, by omega, by omega, .inl rfl⟩

theorem ls_ring1 (A B q r ha hb u1 u2 v1 v2 : Nat) (hA : A = B * q + r) (h1 : A + v1 * hb = u1 * ha) (h2 : B + u2 * ha = v2 * hb) : r + (v1 + q * v2) * hb = (u1 + q * u2) * ha := by
  subst hA
  have e : q * (B + u2 * ha) = q * (v2 * hb) := by rw [h2]
  grind
theorem ls_ring2 (A B q r v1 v2 : Nat) (hA : A = B * q + r) : B * (v1 + q * v2) + r * v2 = A * v2 + B * v1 := by
  subst hA; grind

theorem LS.step {ha hb A B u1 u2 v1 v2 : Nat} {ev : Bool} (h : LS ha hb A B u1 u2 v1 v2 ev) (hB : 1 ≤ B) : LS ha hb B (A % B) u2 (u1 + A / B * u2) v2 (v1 + A / B * v2) (!ev) := by
  obtain ⟨h1, h2, h3, h4, h5, h6, h7⟩ := h
  have hd := (Nat.div_add_mod A B).symm
  have hr := Nat.mod_lt A (show B > 0 by omega)
  have hq : 1 ≤ A / B := (Nat.one_le_div_iff (by omega)).2 h3
  generalize A / B = q at *
  generalize A % B = r at *
  obtain ⟨t, rfl⟩ : ∃ t, q = t + 1 := ⟨q - 1, by omega⟩
  have e1 : (t + 1) * u2 = t * u2 + u2 := by rw [Nat.add_mul, Nat.one_mul]
  have e2 : (t + 1) * v2 = t * v2 + v2 := by rw [Nat.add_mul, Nat.one_mul]
  have e3 : t * u2 ≤ t * v2 := Nat.mul_le_mul_left _ h4
  have hu : 1 ≤ u1 + u2 := by
    rcases Nat.eq_zero_or_pos (u1 + u2) with h | h
    · obtain rfl : u1 = 0 := by omega
      obtain rfl : u2 = 0 := by omega
      cases ev <;> simp at h1
    · exact h
  refine ⟨?_, (ls_ring2 A B (t + 1) r v1 v2 hd).trans h2, by omega, by omega, by omega, by omega, .inr (by omega)⟩
  cases ev
  · simp only [Bool.false_eq_true, if_false] at h1
    obtain ⟨g1, g2, g3⟩ := h1
    simp only [Bool.not_false, if_true]
    exact ⟨g2, ls_ring1 A B (t + 1) r ha hb u1 u2 v1 v2 hd g1 g2, by grind⟩
  · simp only [if_true] at h1
    obtain ⟨g1, g2, g3⟩ := h1
    simp only [Bool.not_true, Bool.false_eq_true, if_false]
    exact ⟨g2, ls_ring1 A B (t + 1) r hb ha v1 v2 u1 u2 hd g1 g2, by grind⟩

/-- what a row of factors makes of two numbers whose heads are ha and hb -/
def Made (ha hb u0 u1 v0 v1 : Nat) (ev : Bool) : Prop :=
  ∀ a b K, ha * K ≤ a → a < (ha + 1) * K → hb * K ≤ b → b < (hb + 1) * K →
    ∃ x y : Nat, (if ev then x + v0 * b = u0 * a ∧ y + u1 * a = v1 * b else x + u0 * a = v0 * b ∧ y + v1 * b = u1 * a) ∧ y < x ∧ x ≤ b ∧ Nat.gcd x y = Nat.gcd a b

theorem gcd_of {a b x y u1 u2 v1 v2 : Nat} (h1 : x + v1 * b = u1 * a) (h2 : y + u2 * a = v2 * b) (h3 : x * v2 + y * v1 = a) (h4 : x * u2 + y * u1 = b) : Nat.gcd x y = Nat.gcd a b := by
  refine Nat.dvd_antisymm ?_ ?_
  · refine Nat.dvd_gcd ?_ ?_
    · rw [← h3]; exact Nat.dvd_add (Nat.dvd_mul_right_of_dvd (Nat.gcd_dvd_left x y) _) (Nat.dvd_mul_right_of_dvd (Nat.gcd_dvd_right x y) _)
    · rw [← h4]; exact Nat.dvd_add (Nat.dvd_mul_right_of_dvd (Nat.gcd_dvd_left x y) _) (Nat.dvd_mul_right_of_dvd (Nat.gcd_dvd_right x y) _)
  · refine Nat.dvd_gcd ?_ ?_
    · refine (Nat.dvd_add_left (Nat.dvd_mul_left_of_dvd (Nat.gcd_dvd_right a b) v1)).1 ?_
      rw [h1]; exact Nat.dvd_mul_left_of_dvd (Nat.gcd_dvd_left a b) u1
    · refine (Nat.dvd_add_left (Nat.dvd_mul_left_of_dvd (Nat.gcd_dvd_left a b) u2)).1 ?_
      rw [h2]; exact Nat.dvd_mul_left_of_dvd (Nat.gcd_dvd_right a b) v2

theorem back_of {a b x y u1 u2 v1 v2 : Nat} (h1 : x + v1 * b = u1 * a) (h2 : y + u2 * a = v2 * b) (hd : u1 * v2 = u2 * v1 + 1) : x * v2 + y * v1 = a ∧ x * u2 + y * u1 = b := by
  have e1 : (x + v1 * b) * v2 = u1 * a * v2 := by rw [h1]
  have e2 : (y + u2 * a) * v1 = v2 * b * v1 := by rw [h2]
  have e3 : (x + v1 * b) * u2 = u1 * a * u2 := by rw [h1]
  have e4 : (y + u2 * a) * u1 = v2 * b * u1 := by rw [h2]
  have e5 : u1 * v2 * a = (u2 * v1 + 1) * a := by rw [hd]
  have e6 : u1 * v2 * b = (u2 * v1 + 1) * b := by rw [hd]
  constructor
  · grind
  · grind

/-- the numbers themselves go the way of their heads, as long as Collins's condition holds -/
theorem real_of {ha hb A B u1 u2 v1 v2 a b K : Nat} (g1 : A + v1 * hb = u1 * ha) (g2 : B + u2 * ha = v2 * hb) (c1 : v1 ≤ A) (c2 : u2 ≤ B) (c3 : B + (v1 + v2) ≤ A) (c4 : 1 ≤ v1 + v2)
    (a1 : ha * K ≤ a) (b1 : hb * K ≤ b) (a2 : a < (ha + 1) * K) (b2 : b < (hb + 1) * K) : ∃ x y, x + v1 * b = u1 * a ∧ y + u2 * a = v2 * b ∧ y < x := by
  obtain ⟨α, rfl⟩ : ∃ α, a = ha * K + α := ⟨a - ha * K, by omega⟩
  obtain ⟨β, rfl⟩ : ∃ β, b = hb * K + β := ⟨b - hb * K, by omega⟩
  rw [Nat.add_mul, Nat.one_mul] at a2 b2
  have ha' : α < K := by omega
  have hb' : β < K := by omega
  have e1 : v1 * β ≤ A * K := Nat.mul_le_mul c1 (by omega)
  have e2 : u2 * α ≤ B * K := Nat.mul_le_mul c2 (by omega)
  have e3 : (v1 + v2) * β < (v1 + v2) * K := Nat.mul_lt_mul_of_pos_left hb' (by omega)
  have e4 : (B + (v1 + v2)) * K ≤ A * K := Nat.mul_le_mul_right _ c3
  have p1 : u1 * (ha * K + α) = A * K + v1 * (hb * K) + u1 * α := by
    have : (A + v1 * hb) * K = u1 * ha * K := by rw [g1]
    grind
  have p2 : v2 * (hb * K + β) = B * K + u2 * (ha * K) + v2 * β := by
    have : (B + u2 * ha) * K = v2 * hb * K := by rw [g2]
    grind
  refine ⟨A * K + u1 * α - v1 * β, B * K + v2 * β - u2 * α, ?_, ?_, ?_⟩
  · rw [p1, Nat.mul_add v1]; omega
  · rw [p2, Nat.mul_add u2]; omega
  · rw [Nat.add_mul] at e3 e4
    rw [Nat.add_mul v1 v2 K] at e3 e4
    omega

theorem LS.made {ha hb A B u1 u2 v1 v2 : Nat} {ev : Bool} (h : LS ha hb A B u1 u2 v1 v2 ev) (c1 : v2 ≤ B) (c2 : v1 + v2 ≤ A - B) : v1 = 0 ∨ Made ha hb u1 u2 v1 v2 (!ev) := by
  obtain ⟨h1, h2, h3, h4, h5, h6, h7⟩ := h
  rcases h7 with h7 | h7
  · exact .inl h7
  refine .inr ?_
  intro a b K a1 a2 b1 b2
  cases ev
  · simp only [Bool.false_eq_true, if_false] at h1
    obtain ⟨g1, g2, g3⟩ := h1
    obtain ⟨x, y, e1, e2, e3⟩ := real_of g1 g2 (by omega) (by omega) (by omega) (by omega) a1 b1 a2 b2
    obtain ⟨f1, f2⟩ := back_of e1 e2 g3
    refine ⟨x, y, ?_, e3, ?_, gcd_of e1 e2 f1 f2⟩
    · simp only [Bool.not_false, if_true]; exact ⟨e1, e2⟩
    · rw [← f2]; exact Nat.le_trans (Nat.le_mul_of_pos_right x h7) (Nat.le_add_right _ _)
  · simp only [if_true] at h1
    obtain ⟨g1, g2, g3⟩ := h1
    obtain ⟨x, y, e1, e2, e3⟩ : ∃ x y, x + u1 * a = v1 * b ∧ y + v2 * b = u2 * a ∧ y < x := by
      obtain ⟨α, rfl⟩ : ∃ α, a = ha * K + α := ⟨a - ha * K, by omega⟩
      obtain ⟨β, rfl⟩ : ∃ β, b = hb * K + β := ⟨b - hb * K, by omega⟩
      rw [Nat.add_mul, Nat.one_mul] at a2 b2
      have ha' : α < K := by omega
      have hb' : β < K := by omega
      have k1 : u1 * α ≤ A * K := Nat.mul_le_mul (by omega) (by omega)
      have k2 : v2 * β ≤ B * K := Nat.mul_le_mul (by omega) (by omega)
      have k3 : (u1 + u2) * α ≤ (v1 + v2) * α := Nat.mul_le_mul_right _ h5
      have k5 : (v1 + v2) * α < (v1 + v2) * K := Nat.mul_lt_mul_of_pos_left ha' (by omega)
      have k4 : (B + (v1 + v2)) * K ≤ A * K := Nat.mul_le_mul_right _ (by omega)
      have p1 : v1 * (hb * K + β) = A * K + u1 * (ha * K) + v1 * β := by
        have : (A + u1 * ha) * K = v1 * hb * K := by rw [g1]
        grind
      have p2 : u2 * (ha * K + α) = B * K + v2 * (hb * K) + u2 * α := by
        have : (B + v2 * hb) * K = u2 * ha * K := by rw [g2]
        grind
      refine ⟨A * K + v1 * β - u1 * α, B * K + u2 * α - v2 * β, ?_, ?_, ?_⟩
      · rw [p1, Nat.mul_add u1]; omega
      · rw [p2, Nat.mul_add v2]; omega
      · rw [Nat.add_mul] at k3 k4
        rw [Nat.add_mul v1 v2 K] at k4 k5
        rw [Nat.add_mul v1 v2 α] at k3 k5
        omega
    obtain ⟨f1, f2⟩ := back_of (a := b) (b := a) (u1 := v1) (u2 := v2) (v1 := u1) (v2 := u2) e1 e2 (by rw [Nat.mul_comm v1, Nat.mul_comm v2]; exact g3)
    refine ⟨x, y, ?_, e3, ?_, ?_⟩
    · simp only [Bool.not_true, Bool.false_eq_true, if_false]; exact ⟨e1, e2⟩
    · rw [← f1]; exact Nat.le_trans (Nat.le_mul_of_pos_right x h7) (Nat.le_add_right _ _)
    · rw [gcd_of e1 e2 f1 f2, Nat.gcd_comm]

/-- the factors fit -/
theorem LS.small {ha hb A B u1 u2 v1 v2 : Nat} {ev : Bool} (h : LS ha hb A B u1 u2 v1 v2 ev) (hh : ha < 18446744073709551616) (c1 : v2 ≤ B) : u2 < 4294967296 ∧ v2 < 4294967296 := by
  obtain ⟨h1, h2, h3, h4, h5, h6, h7⟩ := h
  have e : v2 * v2 ≤ A * v2 := Nat.mul_le_mul_right _ (by omega)
  have hv : v2 < 4294967296 := by
    rcases Nat.lt_or_ge v2 4294967296 with h | h
    · exact h
    · have := Nat.mul_le_mul h h
      omega
  exact ⟨by omega, hv⟩
theorem LS.next_small {ha hb A B u1 u2 v1 v2 : Nat} {ev : Bool} (h : LS ha hb A B u1 u2 v1 v2 ev) (hB : 1 ≤ B) : v1 + A / B * v2 ≤ ha ∧ u1 + A / B * u2 ≤ ha ∧ A / B ≤ ha ∧ A / B * v2 ≤ ha ∧ A / B * u2 ≤ ha := by
  have hs := h.step hB
  obtain ⟨h1, h2, h3, h4, h5, h6, h7⟩ := h
  obtain ⟨k1, k2, k3, k4, k5, k6, k7⟩ := hs
  have e : 1 * (v1 + A / B * v2) ≤ B * (v1 + A / B * v2) := Nat.mul_le_mul_right _ hB
  have e2 : A / B ≤ A := Nat.div_le_self _ _
  have e3 : A * 1 ≤ A * v2 := Nat.mul_le_mul_left _ h6
  omega

end Go.Proofs.YtlfanbjpfoaipaaGreatDoor.Nu
