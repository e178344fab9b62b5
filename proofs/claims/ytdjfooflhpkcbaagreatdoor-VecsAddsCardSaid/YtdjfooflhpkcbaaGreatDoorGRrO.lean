/- The document's answer: a number divided by one part, by hand. The document's answer: bits moved down, by hand. The document's answer: bits moved .. -/
import Derived.Test.YtdjfooflhpkcbaaGreatDoorGRTv
import Derived.Test.YtdjfooflhpkcbaaGreatDoorGPart
import Derived.Test.YtdjfooflhpkcbaaGreatDoorGDiv
import Derived.Test.YtdjfooflhpkcbaaGreatDoorGCmp
import Derived.Test.YtdjfooflhpkcbaaGreatDoorGInts
import Derived.Test.YtdjfooflhpkcbaaGreatDoorGMathG
set_option maxRecDepth 100000
set_option maxHeartbeats 16000000
set_option linter.unusedSimpArgs false
set_option linter.unusedVariables false
namespace Go.Proofs.YtdjfooflhpkcbaaGreatDoor
open Go Go.Proofs Go.RowKit Go.Shelf Nu
attribute [local go_sem] Oper.semAt_some
theorem getD_of_take {l A : List Nat} {g p : Nat} (h : l.take g = A.take g) (hp : p < g) : l.getD p 0 = A.getD p 0 := by
 have e := congrArg (fun t => t.getD p 0) h
 simp only [List.getD_eq_getElem?_getD, List.getElem?_take] at e
 rw [if_pos hp, if_pos hp, ← List.getD_eq_getElem?_getD, ← List.getD_eq_getElem?_getD] at e
 exact e
theorem drop_at {l : List Nat} {p : Nat} (h : p < l.length) : l.drop p = l.getD p 0 :: l.drop (p + 1) := by
 rw [List.drop_eq_getElem_cons h, List.getD_eq_getElem?_getD, List.getElem?_eq_getElem h]; rfl
theorem small_step {A l : List Nat} {p t q x m' q' r' : Nat} (hA : p < A.length) (hl : p < l.length) (hx : x = A.getD p 0) (hv : val (A.drop (p + 1)) = t * val (l.drop (p + 1)) + q) (e1 : m' = q * 4294967296 + x) (e2 : m' = t * q' + r') :
  val (A.drop p) = t * val ((l.set p q').drop p) + r' := by
 rw [drop_at hA, ← hx, drop_at (l := l.set p q') (by simpa using hl), set_drop, val, val, hv]
 have : (l.set p q').getD p 0 = q' := by rw [List.getD_eq_getElem?_getD, List.getElem?_eq_getElem (by simpa using hl)]; simp
 rw [this]
 generalize val (l.drop (p + 1)) = Z
 grind
theorem small_take {A l : List Nat} {p q' : Nat} (h : l.take (p + 1) = A.take (p + 1)) : (l.set p q').take p = A.take p := by
 rw [List.take_set, List.set_eq_of_length_le (by rw [List.length_take]; omega)]
 have := congrArg (List.take p) h
 simpa [List.take_take] using this
theorem rsmall_any {w : World} {va : Value} {A : List Nat} {t : Nat} (hA : Reads w va A) (hlA : A.length ≤ 100000) (hSA : Sm A) (ht0 : 0 < t) (ht : t < 4294967296) :
  Calls Tryz.prog 216 #[va, .int .u32 t] w fun e w' => ∃ v, e = .returned (.tuple #[v, .int .u32 (val A % t : Nat)]) ∧ Reads w' v (digs (val A / t)) ∧ Below w.heap.size w w' := by
 have kT := rtwin_any hA hlA
 have SA := Lib.hid hSA
 obtain ⟨a1, c1, rfl⟩ := hA.form
 obtain ⟨m, hm⟩ : ∃ m, m = A.length := ⟨_, rfl⟩
 have HM := Lib.hid hm
 rw [← hm] at hlA kT
 rw [← hm]
 have u1 := w64_of t (by omega)
 have u4 : ¬ (t : Int) = 0 := by omega
 have u5 : ¬ t = 0 := by omega
 clear hA hSA hm
 go_enter Tryz.func216, Tryz.ntmps216
 go_wp2_with (go_at_call 203; refine kT.mono ?_; clear kT; rintro e w1 ⟨u, rfl, fu, hb1⟩; obtain ⟨au, cu, eu⟩ := fu.reads.form; rw [← HM.out] at eu; subst eu)
 go_loopg [7, 8] m (fun g sn si wr => ∃ (z : Int) (q : Nat) (l : List Nat), si = .int .i64 z ∧ z = (g : Int) - 1 ∧ g ≤ m ∧ sn = .int .u64 (q : Int) ∧ q < t ∧ l.length = m ∧ Hid (Fresh wr w.heap.size (.slice au m cu) l) ∧ Hid (Sm l ∧ l.take g = A.take g ∧ val (A.drop g) = t * val (l.drop g) + q) ∧ Hid (Below w.heap.size w wr))
 case atStart => exact ⟨_, 0, A, rfl, rfl, Nat.le_refl _, rfl, ht0, HM.out.symm, Lib.hid fu, Lib.hid ⟨SA.out, rfl, by rw [HM.out, List.drop_length]; simp [val]⟩, Lib.hid hb1⟩
 case round =>
  obtain ⟨z, q, l, rfl, hz, hg, rfl, hq, hl, HF, HV, HB⟩ := hrel
  have HL := Lib.hid hl
  by_cases hg0 : gk = 0
  · have hz1 : z = -1 := by omega
    subst hz1
    have hv : val A = t * val l + q := by
     have h := HV.out.2.2
     rw [hg0, List.drop_zero, List.drop_zero] at h
     exact h
    have e1 : val l = val A / t := by rw [hv, Nat.add_comm, Nat.add_mul_div_left _ _ ht0, Nat.div_eq_of_lt hq]; omega
    have e2 : q = val A % t := by rw [hv, Nat.add_comm, Nat.add_mul_mod_self_left, Nat.mod_eq_of_lt hq]
    have kt := rtrim_any HF.out.reads (by omega)
    rw [cut_eq HV.out.1, e1] at kt
    have KT := Lib.hid kt
    have E2 := Lib.hid e2
    have u2 := w32_of q (by omega)
    clear hz hv e1 e2 hl kt
    go_wp2_with fail
    go_at_call 193
    refine KT.out.mono ?_
    rintro e w' ⟨⟨u, rfl, hu⟩, rfl⟩
    have HU := Lib.hid hu
    clear hu
    go_wp2_with fail
    go_ret2
    rw [← E2.out]
    exact ⟨u, by simp, HU.out, HB.out⟩
  · obtain ⟨p, hp⟩ : ∃ p : Nat, z = (p : Int) := ⟨gk - 1, by omega⟩
    subst hp
    have hgp : gk = p + 1 := by omega
    have hpm : p < m := by omega
    obtain ⟨g, rfl⟩ : ∃ g, au = some ⟨g, 0, none⟩ := by
     rcases HF.out.form with ⟨e, _⟩ | ⟨g, c, e, _⟩
     · simp only [Value.slice.injEq] at e; omega
     · simp only [Value.slice.injEq] at e; exact ⟨g, e.1⟩
    have hF0 := HF.out
    have hfr : wr.frozen? ⟨g, p, none⟩ = false := by
     unfold Fresh at hF0
     rw [hl] at hF0
     exact World.ownsRow.frozenAt hF0 p
    obtain ⟨x, hx⟩ : ∃ x, x = A.getD p 0 := ⟨_, rfl⟩
    have hxb : x < 4294967296 := by rw [hx]; exact SA.out.getD p
    have hxl : l.getD p 0 = x := by rw [hx]; exact getD_of_take HV.out.2.1 (by omega)
    have hc : wr.cell? ⟨g, p, none⟩ = some (.int .u32 (x : Int)) := by
     rcases HF.out.form with ⟨e, _⟩ | ⟨g', c, e, _, _, hn', hcc⟩
     · cases e
     · simp only [Value.slice.injEq, Option.some.injEq, Addr.mk.injEq, and_true] at e
       obtain ⟨rfl, _⟩ := e
       have := hcc p (by omega)
       rwa [Nat.zero_add, hxl] at this
    obtain ⟨m', q', r', e1, e2, e3, hor, hdiv, hmod, hq', hr', hmq, hmb⟩ := part_facts hq ht hxb
    have hP := (HF.out.put hl.symm p q').1
    have hgw : w.heap.size ≤ g := (HF.out.lt' (g := g) rfl).1
    have hst := small_step (A := A) (l := l) (by rw [← HM.out]; exact hpm) (by omega) hx (by have h := HV.out.2.2; rw [hgp] at h; exact h) e1 hmq
    have htk := small_take (A := A) (l := l) (p := p) (q' := q') (by have h := HV.out.2.1; rw [hgp] at h; exact h)
    have fin : ∃ (z : Int) (q : Nat) (l : List Nat), Value.int .i64 ((p : Int) - 1) = .int .i64 z ∧ z = (p : Int) - 1 ∧ p ≤ m ∧ Value.int .u64 (r' : Int) = .int .u64 (q : Int) ∧ q < t ∧ l.length = m ∧ Hid (Fresh (wr.setCell ⟨g, p, none⟩ (.int .u32 (q' : Int))) w.heap.size (.slice (some ⟨g, 0, none⟩) m cu) l) ∧ Hid (Sm l ∧ l.take p = A.take p ∧ val (A.drop p) = t * val (l.drop p) + q) ∧ Hid (Below w.heap.size w (wr.setCell ⟨g, p, none⟩ (.int .u32 (q' : Int)))) :=
     ⟨_, r', l.set p q', rfl, rfl, by omega, rfl, hr', by rw [List.length_set, hl], Lib.hid hP, Lib.hid ⟨HV.out.1.set p _ hq', htk, hst⟩, Lib.hid (HB.out.setCell (p := ⟨g, p, none⟩) hgw _)⟩
    have FIN := Lib.hid fin
    have HG := Lib.hid hgp
    have u2 := w64_of q' (by omega)
    have u3 := w32_of q' hq'
    clear hF0 hx hxl hP hst htk fin e1 e2 e3 hmq hz hgp hg0 HB HF hl
    go_wp2
    go_roundg p
    case measure => have := HG.out; omega
    case rel => rw [hmod]; exact FIN.out
theorem down_math {x y h sh : Nat} (hx : x < 4294967296) (hsh : sh ≤ 31) : (x + 4294967296 * (y + 4294967296 * h)) / 2 ^ sh = ((y * 4294967296 + x) / 2 ^ sh) % 4294967296 + 4294967296 * ((y + 4294967296 * h) / 2 ^ sh) := by
 obtain ⟨c, hc⟩ : ∃ c, c = 2 ^ (32 - sh) := ⟨_, rfl⟩
 obtain ⟨p, hp⟩ : ∃ p, p = 2 ^ sh := ⟨_, rfl⟩
 have hpos : 0 < p := by rw [hp]; exact Nat.pow_pos (by decide)
 have hB : 4294967296 = p * c := by
  rw [hp, hc, ← Nat.pow_add, show sh + (32 - sh) = 32 by omega]
 rw [← hp]
 have e1 : x + 4294967296 * (y + 4294967296 * h) = (y * 4294967296 + x) + p * (c * 4294967296 * h) := by
  have : 4294967296 * (4294967296 * h) = p * (c * 4294967296 * h) := by
   conv => lhs; rw [show (4294967296 * (4294967296 * h) : Nat) = (p * c) * (4294967296 * h) by rw [← hB]]
   rw [Nat.mul_assoc, Nat.mul_assoc]
  rw [Nat.mul_add, this]; omega
 have e2 : y + 4294967296 * h = y + p * (c * h) := by
  rw [← Nat.mul_assoc, ← hB]
 rw [e1, e2, Nat.add_mul_div_left _ _ hpos, Nat.add_mul_div_left _ _ hpos]
 have e3 : (y * 4294967296 + x) / p / 4294967296 = y / p := by
  rw [Nat.div_div_eq_div_mul, Nat.mul_comm p, ← Nat.div_div_eq_div_mul]
  congr 1; omega
 have e4 := Nat.mod_add_div ((y * 4294967296 + x) / p) 4294967296
 rw [e3] at e4
 rw [Nat.mul_add, ← Nat.mul_assoc, ← Nat.add_assoc, e4, Nat.mul_comm c]
theorem down_head {A : List Nat} {k : Nat} (hk : k < A.length) : ∃ h, val (A.drop k) = A.getD k 0 + 4294967296 * (A.getD (k + 1) 0 + 4294967296 * h) ∧ val (A.drop (k + 1)) = A.getD (k + 1) 0 + 4294967296 * h := by
 rw [drop_at hk, val]
 by_cases h : k + 1 < A.length
 · rw [drop_at h, val]
   exact ⟨_, rfl, rfl⟩
 · rw [List.drop_eq_nil_of_le (by omega), List.getD_eq_getElem?_getD (i := k + 1), List.getElem?_eq_none (by omega)]
   exact ⟨0, by simp [val], by simp [val]⟩
theorem down_next {A l : List Nat} {k sh P : Nat} (hs : Sm A) (hk : k < A.length) (hl : l.length = A.length) (hsh : sh ≤ 31) (hP : P = (A.getD (k + 1) 0 * 4294967296 + A.getD k 0) / 2 ^ sh)
  (hv : val (l.take k) + 4294967296 ^ k * (val (A.drop k) / 2 ^ sh) = val A / 2 ^ sh) :
  val ((l.set k (P % 4294967296)).take (k + 1)) + 4294967296 ^ (k + 1) * (val (A.drop (k + 1)) / 2 ^ sh) = val A / 2 ^ sh := by
 obtain ⟨h, h1, h2⟩ := down_head hk
 have hx : A.getD k 0 < 4294967296 := hs.getD k
 rw [h1, down_math hx hsh, ← hP, ← h2] at hv
 have ht : (l.set k (P % 4294967296)).take (k + 1) = l.take k ++ [P % 4294967296] := by
  rw [List.take_succ_eq_append_getElem (by simp; omega), List.take_set, List.set_eq_of_length_le (by rw [List.length_take]; omega)]
  simp
 rw [ht, val_append, List.length_take, Nat.min_eq_left (by omega), ← hv, Nat.mul_add]
 simp only [val]
 rw [Nat.pow_succ]
 generalize val (A.drop (k + 1)) / 2 ^ sh = Z
 generalize 4294967296 ^ k = W
 generalize P % 4294967296 = Q
 grind
theorem rdown_any {w : World} {va : Value} {A : List Nat} {sh : Nat} (hA : Reads w va A) (hlA : A.length ≤ 100000) (hSA : Sm A) (hsh : sh ≤ 31) :
  Calls Tryz.prog 221 #[va, .int .u64 sh] w fun e w' => ∃ v, e = .returned v ∧ Reads w' v (digs (val A / 2 ^ sh)) ∧ Below w.heap.size w w' := by
 have kT := rtwin_any hA hlA
 have SA := Lib.hid hSA
 obtain ⟨a1, c1, rfl⟩ := hA.form
 obtain ⟨m, hm⟩ : ∃ m, m = A.length := ⟨_, rfl⟩
 have HM := Lib.hid hm
 rw [← hm] at hlA kT
 rw [← hm]
 have hb0 : Below w.heap.size w w := Below.refl _ w
 have HSH := Lib.hid hsh
 have hs64 : sh < 64 := by omega
 clear hA hSA hm hsh
 go_enter Tryz.func221, Tryz.ntmps221
 go_wp2_with (go_at_call 203; refine kT.mono ?_; clear kT; rintro e w1 ⟨u, rfl, fu, hb1⟩; obtain ⟨au, cu, eu⟩ := fu.reads.form; rw [← HM.out] at eu; subst eu)
 go_loopg [6] m (fun g si wr => ∃ (k : Nat) (l : List Nat), k + g = m ∧ si = .int .i64 (k : Int) ∧ l.length = m ∧ Hid (Fresh wr w.heap.size (.slice au m cu) l) ∧ Hid (Sm l ∧ l.drop k = A.drop k ∧ val (l.take k) + 4294967296 ^ k * (val (A.drop k) / 2 ^ sh) = val A / 2 ^ sh) ∧ Hid (Below w.heap.size w wr))
 case atStart => exact ⟨0, A, by omega, rfl, HM.out.symm, Lib.hid fu, Lib.hid ⟨SA.out, rfl, by simp [val]⟩, Lib.hid hb1⟩
 case round =>
  obtain ⟨k, l, hk, rfl, hl, HF, HV, HB⟩ := hrel
  have HL := Lib.hid hl
  by_cases hkm : k < m
  · obtain ⟨g, rfl⟩ : ∃ g, au = some ⟨g, 0, none⟩ := by
      rcases HF.out.form with ⟨e, _⟩ | ⟨g, c, e, _⟩
      · simp only [Value.slice.injEq] at e; omega
      · simp only [Value.slice.injEq] at e; exact ⟨g, e.1⟩
    have hF0 := HF.out
    have hfr : wr.frozen? ⟨g, k, none⟩ = false := by
      unfold Fresh at hF0
      rw [hl] at hF0
      exact World.ownsRow.frozenAt hF0 k
    have hcc : ∀ j, j < m → k ≤ j → wr.cell? ⟨g, j, none⟩ = some (.int .u32 ((A.getD j 0 : Nat) : Int)) := by
      intro j hj hkj
      rcases HF.out.form with ⟨e, _⟩ | ⟨g', c, e, _, _, hn', hcc⟩
      · cases e
      · simp only [Value.slice.injEq, Option.some.injEq, Addr.mk.injEq, and_true] at e
        obtain ⟨rfl, _⟩ := e
        have := hcc j (by omega)
        rwa [Nat.zero_add, getD_of_drop HV.out.2.1 j hkj] at this
    obtain ⟨x, hx⟩ : ∃ x, x = A.getD k 0 := ⟨_, rfl⟩
    obtain ⟨y, hy⟩ : ∃ y, y = A.getD (k + 1) 0 := ⟨_, rfl⟩
    have hxb : x < 4294967296 := by rw [hx]; exact SA.out.getD k
    have hyb : y < 4294967296 := by rw [hy]; exact SA.out.getD (k + 1)
    have hc := hcc k hkm (Nat.le_refl _)
    rw [← hx] at hc
    obtain ⟨O, P, e1, e2, e3, e4, e5⟩ := down_or (a := y) (x := x) (sh := sh) hyb hxb
    have hgw : w.heap.size ≤ g := (HF.out.lt' (g := g) rfl).1
    have hP := (HF.out.put hl.symm k (P % 4294967296)).1
    rw [show ((P % 4294967296 : Nat) : Int) = (P : Int) % 4294967296 by omega] at hP
    have hnx := down_next (sh := sh) (P := P) SA.out (by rw [← HM.out]; exact hkm) (by rw [hl, ← HM.out]) HSH.out (by rw [e3, hx, hy]) HV.out.2.2
    have fin : ∃ (k' : Nat) (l' : List Nat), k' + (m - (k + 1)) = m ∧ Value.int .i64 ((k : Int) + 1) = .int .i64 (k' : Int) ∧ l'.length = m ∧ Hid (Fresh (wr.setCell ⟨g, k, none⟩ (.int .u32 ((P : Int) % 4294967296))) w.heap.size (.slice (some ⟨g, 0, none⟩) m cu) l') ∧ Hid (Sm l' ∧ l'.drop k' = A.drop k' ∧ val (l'.take k') + 4294967296 ^ k' * (val (A.drop k') / 2 ^ sh) = val A / 2 ^ sh) ∧ Hid (Below w.heap.size w (wr.setCell ⟨g, k, none⟩ (.int .u32 ((P : Int) % 4294967296)))) :=
      ⟨k + 1, l.set k (P % 4294967296), by omega, by simp, by rw [List.length_set, hl], Lib.hid hP, Lib.hid ⟨HV.out.1.set k _ (by omega), by rw [set_drop]; exact drop_succ_of_drop HV.out.2.1, hnx⟩, Lib.hid (HB.out.setCell (p := ⟨g, k, none⟩) hgw _)⟩
    have FIN := Lib.hid fin
    have HY := Lib.hid hy
    have E3 := Lib.hid e3
    by_cases hkn : k + 1 < m
    · have hc2 := hcc (k + 1) hkn (by omega)
      rw [← hy] at hc2
      have hor : bits BinOp.or IntKind.u64 (x : Int) ((y : Int) * 4294967296) = (O : Int) := by
        have h1 := or_side' y x 32 hxb (by omega)
        have h2 := or_shl y x hyb hxb
        rw [e1] at h2
        rw [show ((2 ^ 32 * y : Nat) : Int) = (y : Int) * 4294967296 by omega] at h1
        rw [h1, h2]; omega
      clear hF0 hcc hx hy hP hnx fin e1 e3 HB HF hl
      go_wp2
      go_roundg (m - (k + 1))
      case measure => omega
      case rel => exact FIN.out
    · have hy0 : y = 0 := by rw [HY.out]; exact getD_cut0 (by have := HM.out; omega)
      have hsh2 : (x : Int) / 2 ^ sh = (P : Int) := by
        rw [E3.out, hy0, Nat.zero_mul, Nat.zero_add, Int.natCast_ediv, Int.natCast_pow]; rfl
      clear hF0 hcc hx hy hP hnx fin e1 e2 e3 HB HF hl
      go_wp2
      go_roundg (m - (k + 1))
      case measure => omega
      case rel => exact FIN.out
  · obtain rfl : k = m := by omega
    have hv : val l = val A / 2 ^ sh := by
      have h := HV.out.2.2
      rw [List.take_of_length_le (by omega), List.drop_eq_nil_of_le (by have := HM.out; omega)] at h
      simp only [val, Nat.zero_div, Nat.mul_zero, Nat.add_zero] at h
      exact h
    have HVL := Lib.hid hv
    have kt := rtrim_any HF.out.reads (by omega)
    clear hv hl
    go_wp2_with (go_at_call 193; refine kt.mono ?_; clear kt; rintro e w' ⟨⟨u, rfl, hu⟩, rfl⟩)
    go_ret
    refine ⟨u, rfl, ?_, HB.out⟩
    rw [← HVL.out, ← cut_eq HV.out.1]
    exact hu
theorem bits_or_u32_nat (a b : Nat) (ha : a < 4294967296) (hb : b < 4294967296) : bits .or .u32 (a : Int) (b : Int) = ((a ||| b : Nat) : Int) := by
 have hx : a ||| b < 2 ^ 32 := Nat.or_lt_two_pow (by omega) (by omega)
 have h1 : (BitVec.ofInt 32 (a : Int)).toNat = a := by
  rw [BitVec.ofInt_natCast, BitVec.toNat_ofNat]; exact Nat.mod_eq_of_lt (by omega)
 have h2 : (BitVec.ofInt 32 (b : Int)).toNat = b := by
  rw [BitVec.ofInt_natCast, BitVec.toNat_ofNat]; exact Nat.mod_eq_of_lt (by omega)
 show IntKind.u32.wrap ((BitVec.ofInt 32 (a : Int) ||| BitVec.ofInt 32 (b : Int)).toNat : Int) = _
 rw [BitVec.toNat_or, h1, h2, IntKind.wrap_u32']
 omega
theorem up_bits {c x sh : Nat} (hc : c < 2 ^ sh) (hx : x < 4294967296) (hsh : sh ≤ 31) : ∃ z O H : Nat, IntKind.u64.wrap ((x : Int) * 2 ^ sh) = (z : Int) ∧ z = x * 2 ^ sh ∧ bits .or .u32 (c : Int) ((z : Int) % 4294967296) = (O : Int) ∧ O = c + z % 4294967296 ∧ O < 4294967296 ∧ H = z / 4294967296 ∧ H < 2 ^ sh ∧ H < 4294967296 ∧ z < 18446744073709551616 := by
 obtain ⟨p, hp⟩ : ∃ p, p = 2 ^ sh := ⟨_, rfl⟩
 obtain ⟨q, hq⟩ : ∃ q, q = 2 ^ (32 - sh) := ⟨_, rfl⟩
 have hB : p * q = 4294967296 := by rw [hp, hq, ← Nat.pow_add, show sh + (32 - sh) = 32 by omega]
 have hp31 : p ≤ 2147483648 := by rw [hp]; exact Nat.pow_le_pow_right (n := 2) (by decide) hsh
 have hz : x * p < 4294967296 * p := Nat.mul_lt_mul_of_pos_right hx (by rw [hp]; exact Nat.pow_pos (by decide))
 have hm : x * p % 4294967296 = p * (x % q) := by rw [← hB, Nat.mul_comm x, Nat.mul_mod_mul_left]
 have hle : p * (x % q) + c < 4294967296 := by
   have hq0 : 0 < q := by rw [hq]; exact Nat.pow_pos (by decide)
   have h1 : x % q + 1 ≤ q := Nat.mod_lt _ hq0
   have h2 := Nat.mul_le_mul_left p h1
   rw [hB, Nat.mul_add, Nat.mul_one] at h2
   rw [← hp] at hc
   omega
 have hd : x * p / 4294967296 < p := by
   rw [Nat.div_lt_iff_lt_mul (by decide), Nat.mul_comm p]; exact hz
 rw [← hp] at hc ⊢
 refine ⟨x * p, c + x * p % 4294967296, x * p / 4294967296, ?_, rfl, ?_, rfl, by rw [hm]; omega, rfl, hd, by omega, by omega⟩
 · have : (x : Int) * 2 ^ sh = ((x * p : Nat) : Int) := by rw [hp]; push_cast; rfl
   rw [this]; exact w64_of _ (by omega)
 · have e : ((x * p : Nat) : Int) % 4294967296 = ((x * p % 4294967296 : Nat) : Int) := by omega
   rw [e, bits_or_u32_nat c _ (by omega) (by omega), hm]
   have h3 : p * (x % q) ||| c = p * (x % q) + c := by rw [hp] at hc ⊢; exact (Nat.two_pow_add_eq_or_of_lt hc _).symm
   rw [Nat.or_comm, h3, Nat.add_comm]
theorem set_val {l : List Nat} {j : Nat} (hj : j < l.length) (v : Nat) : val (l.set j v) + 4294967296 ^ j * l.getD j 0 = val l + 4294967296 ^ j * v := by
 induction l generalizing j with
 | nil => simp at hj
 | cons a l ih =>
  cases j with
  | zero => simp [val]; omega
  | succ j =>
   have := ih (j := j) (by simpa using hj)
   simp only [List.set_cons_succ, List.getD_cons_succ, val, Nat.pow_succ]
   generalize l.getD j 0 = D at *
   generalize val (l.set j v) = S at *
   generalize val l = V at *
   generalize 4294967296 ^ j = W at *
   grind
theorem up_next {A l : List Nat} {k sh z O H : Nat} (hk : k < A.length) (hl : l.length = A.length + 1) (hz : z = A.getD k 0 * 2 ^ sh) (hO : O = l.getD k 0 + z % 4294967296) (hH : H = z / 4294967296) (h0 : l.getD (k + 1) 0 = 0)
  (hv : val l = val (A.take k) * 2 ^ sh) : val ((l.set k O).set (k + 1) H) = val (A.take (k + 1)) * 2 ^ sh := by
 have e1 := set_val (l := l) (j := k) (by omega) O
 have e2 := set_val (l := l.set k O) (j := k + 1) (by simp; omega) H
 have e3 : (l.set k O).getD (k + 1) 0 = 0 := by
  rw [List.getD_eq_getElem?_getD, List.getElem?_set_ne (by omega), ← List.getD_eq_getElem?_getD]; exact h0
 rw [e3] at e2
 have e4 : val (A.take (k + 1)) = val (A.take k) + 4294967296 ^ k * A.getD k 0 := by
  rw [List.take_succ_eq_append_getElem hk, val_append, List.length_take, Nat.min_eq_left (by omega), List.getD_eq_getElem?_getD, List.getElem?_eq_getElem hk]
  simp [val]
 have e5 := Nat.mod_add_div z 4294967296
 rw [e4, Nat.add_mul, Nat.mul_assoc, ← hz, ← hv]
 rw [hO] at e1
 rw [← hH] at e5
 rw [Nat.pow_succ] at e2
 subst hO
 generalize val ((l.set k (l.getD k 0 + z % 4294967296)).set (k + 1) H) = R at *
 generalize val (l.set k (l.getD k 0 + z % 4294967296)) = S at *
 generalize l.getD k 0 = D at *
 generalize val l = V at *
 generalize 4294967296 ^ k = W at *
 generalize z % 4294967296 = M at *
 rw [← e5]
 grind
theorem getD_set_self {l : List Nat} {j v : Nat} (h : j < l.length) : (l.set j v).getD j 0 = v := by
 rw [List.getD_eq_getElem?_getD, List.getElem?_set_self h]; rfl
theorem getD_set_other {l : List Nat} {j i v : Nat} (h : j ≠ i) : (l.set j v).getD i 0 = l.getD i 0 := by
 rw [List.getD_eq_getElem?_getD, List.getElem?_set_ne h, ← List.getD_eq_getElem?_getD]
theorem rup_any {w : World} {va : Value} {A : List Nat} {sh : Nat} (hA : Reads w va A) (hlA : A.length ≤ 100000) (hSA : Sm A) (hsh : sh ≤ 31) :
  Calls Tryz.prog 217 #[va, .int .u64 sh] w fun e w' => ∃ (v : Value) (l : List Nat), e = .returned v ∧ Fresh w' w.heap.size v l ∧ l.length = A.length + 1 ∧ Sm l ∧ val l = val A * 2 ^ sh ∧ Below w.heap.size w w' := by
 obtain ⟨i0, hi, hz0, hz1, hz2⟩ := info_parts info_u32
 have RA := Lib.hid hA
 have SA := Lib.hid hSA
 obtain ⟨a1, c1, rfl⟩ := hA.form
 obtain ⟨m, hm⟩ : ∃ m, m = A.length := ⟨_, rfl⟩
 have HM := Lib.hid hm
 obtain ⟨N, hN⟩ : ∃ N, N = m + 1 := ⟨_, rfl⟩
 have hNN : (m : Int) + 1 = (N : Int) := by omega
 rw [← hm] at hlA
 rw [← hm]
 have hN1 : N ≤ 200000 := by omega
 have HN := Lib.hid hN
 have HSH := Lib.hid hsh
 have hs64 : sh < 64 := by omega
 have hb0 : Below w.heap.size w w := Below.refl _ w
 clear hA hSA hm hN hsh
 go_enter Tryz.func217, Tryz.ntmps217
 go_wp2_with (at_make; go_loud (refine wpList_make_full _ rfl _ _ 26 rfl w.heap.size 71 i0 (.int .u32 0) 1 Tryz.underlying26 hi hz0 hz1 .i64 .i64 _ _ N rfl rfl (by omega) (by omega) (by rw [hz2]; omega) (by unfold maxLen; omega) (by simp) ?_); intro w1 hown1 hgrow1)
 have hbel1 : Below w.heap.size w w1 := hb0.grown hgrow1 (Nat.le_refl _) (fun _ e => by cases e)
 have hF : Fresh w1 w.heap.size (.slice (some ⟨w.heap.size, 0, none⟩) N N) (List.replicate N 0) := by unfold Fresh; rw [List.length_replicate, ← replicate_zero_u32]; exact hown1
 obtain ⟨g, hg⟩ : ∃ g, g = w.heap.size := ⟨_, rfl⟩
 have HG := Lib.hid hg
 rw [← hg] at hF ⊢
 have hwg : w.heap.size ≤ g := by omega
 have HF1 := Lib.hid hF
 have HB1 := Lib.hid hbel1
 clear hown1 hgrow1 hF hbel1 hg
 have cellg : ∀ (W : World) (l : List Nat) (j : Nat), Fresh W g (.slice (some ⟨g, 0, none⟩) N N) l → l.length = N → j < N → W.cell? ⟨g, j, none⟩ = some (.int .u32 (l.getD j 0 : Nat)) ∧ W.frozen? ⟨g, j, none⟩ = false := by
  intro W l j hf hl hj
  have hf0 := hf
  unfold Fresh at hf0
  rw [hl] at hf0
  refine ⟨?_, World.ownsRow.frozenAt hf0 j⟩
  rcases hf.form with ⟨e, _⟩ | ⟨g', c, e, _, _, _, hcc⟩
  · cases e
  · simp only [Value.slice.injEq, Option.some.injEq, Addr.mk.injEq, and_true] at e
    obtain ⟨rfl, _⟩ := e
    have := hcc j (by omega)
    rwa [Nat.zero_add] at this
 have CG := Lib.hid cellg
 clear cellg
 go_loopg [6] m (fun gk s wr => ∃ (k : Nat) (l : List Nat), k + gk = m ∧ s = .int .i64 (k : Int) ∧ l.length = N ∧ Hid (Fresh wr g (.slice (some ⟨g, 0, none⟩) N N) l) ∧ Hid (Sm l ∧ l.getD k 0 < 2 ^ sh ∧ (∀ j, k < j → l.getD j 0 = 0) ∧ val l = val (A.take k) * 2 ^ sh) ∧ Hid (Below w.heap.size w wr))
 case atStart =>
  have hz : ∀ j, (List.replicate N 0).getD j 0 = 0 := fun j => by
    rw [List.getD_eq_getElem?_getD, List.getElem?_replicate]; split <;> rfl
  exact ⟨0, List.replicate N 0, by omega, rfl, by simp, HF1, Lib.hid ⟨Sm.replicate N, by rw [hz]; exact Nat.pow_pos (by decide), fun j _ => hz j, by rw [val_replicate]; simp [val]⟩, HB1⟩
 case round =>
  obtain ⟨k, l, hk, rfl, hl, HF, HV, HB⟩ := hrel
  have HL := Lib.hid hl
  by_cases hkm : k < m
  · obtain ⟨bb, ob, hbb, hcb⟩ := (RA.out.below HB.out).addr
    rw [← HM.out] at hbb hcb
    have r2 := hcb k hkm
    have eb := (hbb (by omega)).1
    subst eb
    obtain ⟨x, hx⟩ : ∃ x, x = A.getD k 0 := ⟨_, rfl⟩
    rw [← hx] at r2
    have hxb : x < 4294967296 := by rw [hx]; exact SA.out.getD k
    obtain ⟨c, hc⟩ : ∃ c, c = l.getD k 0 := ⟨_, rfl⟩
    have hN := HN.out
    obtain ⟨q1, q2⟩ := CG.out wr l k HF.out hl (by omega)
    have q3 := (CG.out wr l (k + 1) HF.out hl (by omega)).2
    rw [← hc] at q1
    obtain ⟨z, O, H, e1, e2, e3, e4, e5, e6, e7, e8, e9⟩ := up_bits (c := c) (x := x) (sh := sh) (by rw [hc]; exact HV.out.2.1) hxb HSH.out
    have hP1 := (HF.out.put hl.symm k O).1
    have hP2 := (hP1.put (by rw [List.length_set, hl]) (k + 1) H).1
    obtain ⟨q5, q4⟩ := CG.out _ _ (k + 1) hP1 (by rw [List.length_set, hl]) (by omega)
    obtain ⟨y, hy⟩ : ∃ y, y = (l.set k O).getD (k + 1) 0 := ⟨_, rfl⟩
    rw [← hy] at q5
    clear hy
    have hnx := up_next (A := A) (l := l) (k := k) (sh := sh) (z := z) (O := O) (H := H) (by rw [← HM.out]; exact hkm) (by rw [hl, hN, HM.out]) (by rw [e2, hx]) (by rw [e4, hc]) e6 (HV.out.2.2.1 (k + 1) (by omega)) HV.out.2.2.2
    have hfin : ∃ (k' : Nat) (l' : List Nat), k' + (m - (k + 1)) = m ∧ Value.int .i64 ((k : Int) + 1) = .int .i64 (k' : Int) ∧ l'.length = N ∧ Hid (Fresh ((wr.setCell ⟨g, k, none⟩ (.int .u32 (O : Int))).setCell ⟨g, k + 1, none⟩ (.int .u32 (H : Int))) g (.slice (some ⟨g, 0, none⟩) N N) l') ∧ Hid (Sm l' ∧ l'.getD k' 0 < 2 ^ sh ∧ (∀ j, k' < j → l'.getD j 0 = 0) ∧ val l' = val (A.take k') * 2 ^ sh) ∧ Hid (Below w.heap.size w ((wr.setCell ⟨g, k, none⟩ (.int .u32 (O : Int))).setCell ⟨g, k + 1, none⟩ (.int .u32 (H : Int)))) := by
     refine ⟨k + 1, (l.set k O).set (k + 1) H, by omega, by simp, by simp [hl], Lib.hid hP2, Lib.hid ⟨(HV.out.1.set k _ e5).set (k + 1) _ e8, ?_, ?_, hnx⟩, Lib.hid ((HB.out.setCell (p := ⟨g, k, none⟩) hwg _).setCell (p := ⟨g, k + 1, none⟩) hwg _)⟩
     · rw [getD_set_self (by rw [List.length_set, hl]; omega)]; exact e7
     · intro j hj
       rw [getD_set_other (by omega), getD_set_other (by omega)]
       exact HV.out.2.2.1 j (by omega)
    have FIN := Lib.hid hfin
    have u1 : (z : Int) / 4294967296 = (H : Int) := by rw [e6]; omega
    have u2 := w32_of H e8
    have u3 := w32_of O e5
    have E2 := Lib.hid e2
    have E4 := Lib.hid e4
    have E6 := Lib.hid e6
    clear hbb hcb hx hc e2 e4 e6 e7 hP1 hP2 hnx hfin HB HF hl hN
    go_wp2
    go_roundg (m - (k + 1))
    case measure => omega
    case rel => exact FIN.out
  · obtain rfl : k = m := by omega
    have hv : val l = val A * 2 ^ sh := by
     have h := HV.out.2.2.2
     rw [List.take_of_length_le (by have := HM.out; omega)] at h
     exact h
    have HVL := Lib.hid hv
    clear hv hl
    go_wp2
    go_ret
    exact ⟨_, l, rfl, by rw [← HG.out]; exact HF.out, by rw [HL.out, HN.out], HV.out.1, HVL.out, HB.out⟩
theorem rguess_any {w : World} {br bb ob cr cb n a L : Nat} {lr lb : List Nat} (hcr : ∀ j, j < n + 3 → w.cell? ⟨br, a + j, none⟩ = some (.int .u32 (lr.getD j 0 : Nat))) (hcb : ∀ j, j < n + 2 → w.cell? ⟨bb, ob + j, none⟩ = some (.int .u32 (lb.getD j 0 : Nat)))
  (hr : lr.length = n + 3) (hb : lb.length = n + 2) (hn : n ≤ 100000) (ha : a + n + 3 ≤ L) (hL : L ≤ 300000) (hsr : Sm lr) (hsb : Sm lb) (hv : 2147483648 ≤ lb.getD (n + 1) 0) (h : val lr < 4294967296 * val lb) :
  Calls Tryz.prog 218 #[.slice (some ⟨br, 0, none⟩) L cr, .slice (some ⟨bb, ob, none⟩) (n + 2 : Nat) cb, .int .i64 a] w fun e w' => ∃ T : Nat, e = .returned (.int .u64 T) ∧ T < 4294967296 ∧ (T - 1) * val lb ≤ val lr ∧ val lr < (T + 1) * val lb ∧ Below w.heap.size w w' := by
 have eR := val_top3 hr
 have eD := val_top2 hb
 have lR := val_take_lt hsr (n := n) (by omega)
 have lD := val_take_lt hsb (n := n) (by omega)
 have c1 := hcb (n + 1) (by omega)
 have c2 := hcb n (by omega)
 have c3 := hcr (n + 2) (by omega)
 have c4 := hcr (n + 1) (by omega)
 have c5 := hcr n (by omega)
 have b1 := hsb.getD (n + 1)
 have b2 := hsb.getD n
 have b3 := hsr.getD (n + 2)
 have b4 := hsr.getD (n + 1)
 have b5 := hsr.getD n
 obtain ⟨v1, hv1⟩ : ∃ x, x = lb.getD (n + 1) 0 := ⟨_, rfl⟩
 obtain ⟨v2, hv2⟩ : ∃ x, x = lb.getD n 0 := ⟨_, rfl⟩
 obtain ⟨rn, hrn⟩ : ∃ x, x = lr.getD (n + 2) 0 := ⟨_, rfl⟩
 obtain ⟨rm, hrm⟩ : ∃ x, x = lr.getD (n + 1) 0 := ⟨_, rfl⟩
 obtain ⟨rk, hrk⟩ : ∃ x, x = lr.getD n 0 := ⟨_, rfl⟩
 obtain ⟨R, hR⟩ : ∃ x, x = val lr := ⟨_, rfl⟩
 obtain ⟨D, hD⟩ : ∃ x, x = val lb := ⟨_, rfl⟩
 obtain ⟨X, hX⟩ : ∃ x, x = 4294967296 ^ n := ⟨_, rfl⟩
 obtain ⟨r0, hr0⟩ : ∃ x, x = val (lr.take n) := ⟨_, rfl⟩
 obtain ⟨d0, hd0⟩ : ∃ x, x = val (lb.take n) := ⟨_, rfl⟩
 rw [← hR, ← hX, ← hr0, ← hrn, ← hrm, ← hrk] at eR
 rw [← hD, ← hX, ← hd0, ← hv1, ← hv2] at eD
 rw [← hX, ← hr0] at lR
 rw [← hX, ← hd0] at lD
 rw [← hv1] at c1 b1 hv
 rw [← hv2] at c2 b2
 rw [← hrn] at c3 b3
 rw [← hrm] at c4 b4
 rw [← hrk] at c5 b5
 rw [← hR, ← hD] at h ⊢
 clear hv1 hv2 hrn hrm hrk hR hD hX hr0 hd0 hr hb hsr hsb hcr hcb
 obtain ⟨H, hH1, hH2, hH3⟩ := head_or rn rm b3 b4
 have g0 := guess_start eR lR eD b5 (show 0 < v1 by omega)
 rw [← hH2] at g0
 have gd := @guess_down R D X r0 d0 v1 v2 rn rm rk
 have gt := @guess_down_top R D
 have ge := @guess_end R D X r0 d0 v1 v2 rn rm rk
 have ge1 := @guess_end1 v1 v2 rn rm rk
 have ge2 := @guess_end2 v1 v2 rn rm rk
 have gp := @guess_part R D X r0 d0 v1 v2 rn rm rk
 have HE : Hid ((∀ T left, H = T * v1 + left → left * 4294967296 + rk < T * v2 → R < T * D) ∧ (∀ T, 4294967295 < T → R < T * D) ∧ (∀ T left, H = T * v1 + left → T ≤ 4294967295 → (4294967295 < left ∨ T * v2 ≤ left * 4294967296 + rk) → (T - 1) * D ≤ R) ∧ (∀ T left, H = T * v1 + left → 4294967295 < left → T ≤ 4294967295)) := Lib.hid
  ⟨fun T left e hc => gd eR lR eD (hH2 ▸ e) hc, fun T hT => gt h hT, fun T left e hT hc => ge eR eD lD hv hT (hc.elim (fun hl => ge2 (hH2 ▸ e) hl hT b2) (fun hc => ge1 (hH2 ▸ e) hc)), fun T left e hl => gp eR eD lD b2 h (hH2 ▸ e) hl⟩
 clear gd gt ge ge1 ge2 gp eR eD lR lD h hH2
 obtain ⟨q, hq⟩ : ∃ q, q = H / v1 := ⟨_, rfl⟩
 obtain ⟨l0, hl0⟩ : ∃ l, l = H % v1 := ⟨_, rfl⟩
 have hq1 : H = q * v1 + l0 := by rw [hq, hl0, Nat.mul_comm]; exact (Nat.div_add_mod H v1).symm
 have hq2 : q < 8589934592 := by
  rw [hq]; exact Nat.lt_of_le_of_lt (Nat.div_le_div_left hv (by decide)) (by omega)
 have hl2 : l0 < 4294967296 := by rw [hl0]; exact Nat.lt_trans (Nat.mod_lt _ (by omega)) b1
 rw [← hq] at g0
 have e1 : (H : Int) / (v1 : Int) = (q : Int) := by rw [hq]; push_cast; rfl
 have e2 : (H : Int) % (v1 : Int) = (l0 : Int) := by rw [hl0]; push_cast; rfl
 have G0 := Lib.hid g0
 have HQ := Lib.hid hq1
 clear hq hl0 hq1 g0
 have i1 : ((n + 2 : Nat) : Int) - 1 = ((n + 1 : Nat) : Int) := by omega
 have i2 : ((n + 2 : Nat) : Int) - 2 = (n : Int) := by omega
 obtain ⟨N, hN⟩ : ∃ N, N = n + 2 := ⟨_, rfl⟩
 obtain ⟨M, hM⟩ : ∃ M, M = n + 1 := ⟨_, rfl⟩
 obtain ⟨P3, hP3⟩ : ∃ P, P = a + (n + 2) := ⟨_, rfl⟩
 obtain ⟨P2, hP2⟩ : ∃ P, P = a + (n + 1) := ⟨_, rfl⟩
 obtain ⟨P1, hP1⟩ : ∃ P, P = a + n := ⟨_, rfl⟩
 rw [← hP3] at c3
 rw [← hP2] at c4
 rw [← hP1] at c5
 have i3 : (a : Int) + (N : Int) = (P3 : Int) := by omega
 have i4 : (P3 : Int) - 1 = (P2 : Int) := by omega
 have i5 : (P3 : Int) - 2 = (P1 : Int) := by omega
 rw [← hN] at i1 i2 ⊢
 rw [← hM] at i1 c1
 have l1 : P3 < L := by omega
 have l2 : P2 < L := by omega
 have l3 : P1 < L := by omega
 have l4 : M < N := by omega
 have l5 : n < N := by omega
 have l6 : N ≤ 100002 := by omega
 have l7 : a ≤ 300000 := by omega
 have u1 := w64_of q (by omega)
 have u2 := w64_of l0 (by omega)
 have u0 : ¬ (v1 : Int) = 0 := by omega
 clear hN hM hP3 hP2 hP1 hv ha
 go_enter Tryz.func218, Tryz.ntmps218
 go_wp2
 go_quiet (fail)
 go_wp2
 go_loopw [9, 10] (fun x y wr => ∃ T l : Nat, T < 8589934592 ∧ l < 8589934592 ∧ x = .int .u64 T ∧ y = .int .u64 l ∧ Hid (H = T * v1 + l ∧ R < (T + 1) * D) ∧ ∃ m, wr = w.drewN m) (fun x _ _ => (intOf x).toNat)
 case atStart =>
  exact ⟨q, l0, hq2, by omega, by first | rfl | rw [e1], by first | rfl | rw [e2], Lib.hid ⟨HQ.out, G0.out⟩, _, rfl⟩
 case round =>
  obtain ⟨T, l, hT, hl, rfl, rfl, HI, m, rfl⟩ := hrel
  have hdrew : ∀ k : Nat, ∃ j, (w.drewN m).drewN k = w.drewN j := fun k => ⟨_, World.drewN_drewN ..⟩
  have HDR := Lib.hid hdrew
  have hbel : ∀ k : Nat, Below w.heap.size w ((w.drewN m).drewN k) := fun k => ⟨rfl, rfl, rfl, Nat.le_refl _, fun k hk => rfl⟩
  have HBL := Lib.hid hbel
  have c2' := c2
  have c5' := c5
  clear e1 e2 u1 u2 c3 c4 hH1 HQ G0 hq2 hl2 hdrew hbel c2 c5
  have c2 : (w.drewN m).cell? ⟨bb, ob + n, none⟩ = some (.int .u32 (v2 : Int)) := c2'
  have c5 : (w.drewN m).cell? ⟨br, P1, none⟩ = some (.int .u32 (rk : Int)) := c5'
  by_cases hl1 : 4294967295 < l
  · have hT1 := HE.out.2.2.2 T l HI.out.1 hl1
    have hfin := Lib.hid (HE.out.2.2.1 T l HI.out.1 hT1 (.inl hl1))
    have hi1 : ((l : Int) / 4294967296 == 0) = false := by simp; omega
    go_wp2
    go_quiet (fail)
    go_wp2
    go_ret
    exact ⟨T, rfl, by omega, hfin.out, HI.out.2, HBL.out _⟩
  · have hi1 : ((l : Int) / 4294967296 == 0) = true := by simp; omega
    by_cases hT1 : 4294967295 < T
    · have hd := Lib.hid (HE.out.2.1 T hT1)
      have hTp : 0 < T := by omega
      have hi2 : decide ((0 : Int) < (T : Int) / 4294967296) = true := by simp; omega
      go_wp2
      go_quiet (fail)
      go_wp2
      exact ⟨⟨T - 1, l + v1, by omega, by omega, by congr 1; omega, by congr 1, Lib.hid (guess_next HI.out.1 hd.out hTp), _, rfl⟩, by simp [intOf]; omega⟩
    · obtain ⟨P, hP, HP, hPb⟩ := mul_bound (x := T) (t := v2) (by omega) b2
      obtain ⟨O, hO, HO⟩ := or_shl' l rk (by omega) b5
      have hi2 : decide ((0 : Int) < (T : Int) / 4294967296) = false := by simp; omega
      by_cases hc : O < P
      · have hd := Lib.hid (HE.out.1 T l HI.out.1 (by rw [← HP, ← HO]; exact hc))
        have hi4 : decide ((O : Int) < (P : Int)) = true := by simp; omega
        have hTp : 0 < T := by
         rcases Nat.eq_zero_or_pos T with h | h
         · rw [h, Nat.zero_mul] at HP; omega
         · exact h
        have HP' := Lib.hid HP
        have HO' := Lib.hid HO
        clear HP HO
        go_wp2
        go_quiet (fail)
        go_wp2
        exact ⟨⟨T - 1, l + v1, by omega, by omega, by congr 1; omega, by congr 1, Lib.hid (guess_next HI.out.1 hd.out hTp), _, rfl⟩, by simp [intOf]; omega⟩
      · have hfin := Lib.hid (HE.out.2.2.1 T l HI.out.1 (by omega) (.inr (by rw [← HP, ← HO]; omega)))
        have hi4 : decide ((O : Int) < (P : Int)) = false := by simp; omega
        have HP' := Lib.hid HP
        have HO' := Lib.hid HO
        clear HP HO
        go_wp2
        go_quiet (fail)
        go_wp2
        go_ret
        exact ⟨T, rfl, by omega, hfin.out, HI.out.2, HBL.out _⟩
theorem sub_one' {x m : Nat} (hx : x < 4294967296) (hm : m < 4294967296) : ∃ d : Nat, IntKind.u64.wrap ((x : Int) - (m : Int)) = (d : Int) ∧ d < 18446744073709551616 ∧ d / 9223372036854775808 ≤ 1 ∧ ((x : Int) - (m : Nat) - (0 : Nat) = (d % 4294967296 : Nat) - 4294967296 * (d / 9223372036854775808 : Nat)) := by
 rcases Nat.lt_or_ge x m with h | h
 · refine ⟨18446744073709551616 + x - m, ?_, by omega, by omega, by omega⟩
   rw [IntKind.wrap_u64]; omega
 · refine ⟨x - m, ?_, by omega, by omega, by omega⟩
   rw [IntKind.wrap_u64]; omega
theorem takes_step {row b cur : List Nat} {k o t d P p : Nat} (hk : k < cur.length) (h : val (cur.take k) + t * val (b.take k) = val (row.take k) + 4294967296 ^ k * o)
  (hP : P = b.getD k 0 * t) (hp : p = o + P) (hs : ((row.getD k 0 : Nat) : Int) - (p % 4294967296 : Nat) - (0 : Nat) = (d % 4294967296 : Nat) - 4294967296 * (d / 9223372036854775808 : Nat)) :
  val ((cur.set k (d % 4294967296)).take (k + 1)) + t * val (b.take (k + 1)) = val (row.take (k + 1)) + 4294967296 ^ (k + 1) * (p / 4294967296 + d / 9223372036854775808) := by
 subst hp
 exact less_step (bo := 0) hk (by rw [Nat.add_zero]; exact h) hP hs
theorem gives_step {row b cur : List Nat} {k c d : Nat} (hk : k < cur.length) (h : val (cur.take k) + 4294967296 ^ k * c = val (row.take k) + val (b.take k))
  (hd : d = c + row.getD k 0 + b.getD k 0) :
  val ((cur.set k (d % 4294967296)).take (k + 1)) + 4294967296 ^ (k + 1) * (d / 4294967296) = val (row.take (k + 1)) + val (b.take (k + 1)) := by
 rw [set_take _ _ _ hk, val_snoc, val_take_succ row, val_take_succ b, List.length_take, Nat.min_eq_left (Nat.le_of_lt hk), Nat.pow_succ]
 have e := Nat.mod_add_div d 4294967296
 have e2 : 4294967296 ^ k * d = 4294967296 ^ k * (c + row.getD k 0 + b.getD k 0) := by rw [hd]
 rw [← e, Nat.mul_add, Nat.mul_add, Nat.mul_add, ← Nat.mul_assoc] at e2
 omega
theorem reads_cell {W : World} {a : Option Addr} {n c : Nat} {l : List Nat} (h : Reads W (.slice a n c) l) (hn : n = l.length) {k : Nat} (hk : k < n) : ∃ b o, a = some ⟨b, o, none⟩ ∧ W.cell? ⟨b, o + k, none⟩ = some (.int .u32 (l.getD k 0 : Nat)) := by
 obtain ⟨b, o, h1, h2⟩ := h.addr
 exact ⟨b, o, (h1 (by omega)).1, h2 k (by omega)⟩
theorem rtakes_any {w : World} {g c a L q : Nat} {pre post : List Value} {row lb : List Nat} {vb : Value} (hb : Blk w g pre row post) (ha : pre.length = a) (hB : Reads w vb lb) (hne : vb.ownBlock ≠ some g) (hl : row.length = lb.length + 1) (hL : a + row.length ≤ L) (hL2 : L ≤ 300000)
  (hSR : Sm row) (hSB : Sm lb) (hq : q < 4294967296) :
  Calls Tryz.prog 219 #[.slice (some ⟨g, 0, none⟩) L c, vb, .int .i64 a, .int .u64 q] w fun e w' => ∃ (row' : List Nat) (o : Nat), e = .returned (.bool (decide (0 < o))) ∧ Blk w' g pre row' post ∧ row'.length = row.length ∧ Sm row' ∧ val row' + q * val lb = val row + 4294967296 ^ row.length * o ∧ w.grownBy w' (some g) := by
 obtain ⟨b1, d1, rfl⟩ := hB.form
 obtain ⟨m, hm⟩ : ∃ m, m = lb.length := ⟨_, rfl⟩
 obtain ⟨n, hn⟩ : ∃ n, n = row.length := ⟨_, rfl⟩
 have HM := Lib.hid hm
 have HN := Lib.hid hn
 have hnm : n = m + 1 := by omega
 have SB := Lib.hid hSB
 have RB := Lib.hid hB
 have NE := Lib.hid hne
 have HB0 := Lib.hid hb
 have HA := Lib.hid ha
 have HSR := Lib.hid hSR
 rw [← hn] at hL
 rw [← hm, ← hn]
 rw [← hm] at RB NE
 have hm1 : m ≤ 300000 := by omega
 have hnm1 : n ≤ m + 1 := by omega
 have hnm2 : m < n := by omega
 have NM := Lib.hid hnm
 clear hb ha hB hne hl hSR hSB hm hn hnm
 go_enter Tryz.func219, Tryz.ntmps219
 go_wp2
 go_loopg [9, 10] n (fun gk so si wr => ∃ (k o : Nat) (cur : List Nat), k + gk = n ∧ si = .int .i64 (k : Int) ∧ so = .int .u64 (o : Int) ∧ o ≤ 4294967296 ∧ cur.length = n ∧ Hid (Blk wr g pre cur post) ∧ Hid (Sm cur ∧ cur.drop k = row.drop k ∧ val (cur.take k) + q * val (lb.take k) = val (row.take k) + 4294967296 ^ k * o) ∧ Hid (w.grownBy wr (some g)))
 case atStart => exact ⟨0, 0, row, by omega, rfl, rfl, by omega, HN.out.symm, HB0, Lib.hid ⟨HSR.out, rfl, by simp [val]⟩, Lib.hid (grown_refl w _)⟩
 case round =>
  obtain ⟨k, o, cur, hk, rfl, rfl, ho, hl, HF, HV, HG⟩ := hrel
  have HL := Lib.hid hl
  by_cases hkn : k < n
  · obtain ⟨A, hA⟩ : ∃ A, A = a + k := ⟨_, rfl⟩
    have i1 : (a : Int) + (k : Int) = (A : Int) := by omega
    have i2 : A < L := by omega
    have i3 : (k : Int) ≤ (m : Int) := by omega
    have r1 := HF.out.cell HA.out k (by omega)
    have r2 := HF.out.frozen (a + k)
    obtain ⟨x, hx⟩ : ∃ x, x = cur.getD k 0 := ⟨_, rfl⟩
    have hxb : x < 4294967296 := by rw [hx]; exact HV.out.1.getD k
    have hxr : x = row.getD k 0 := by rw [hx]; exact getD_of_drop HV.out.2.1 k (Nat.le_refl _)
    rw [← hx, ← hA] at r1
    rw [← hA] at r2
    obtain ⟨y, hy⟩ : ∃ y, y = lb.getD k 0 := ⟨_, rfl⟩
    have hyb : y < 4294967296 := by rw [hy]; exact SB.out.getD k
    obtain ⟨P, hP, HP, hPb⟩ := mul_bound hq hyb
    obtain ⟨p, hp⟩ : ∃ p, p = o + P := ⟨_, rfl⟩
    have hpp : (o : Int) + (P : Int) = (p : Int) := by omega
    have hp64 : p < 18446744073709551616 := by omega
    have ha1 := and_top p hp64
    obtain ⟨M, hM⟩ : ∃ M, M = p % 4294967296 := ⟨_, rfl⟩
    rw [← hM] at ha1
    obtain ⟨d, hd1, hd2, hd3, hd4⟩ := sub_one' (x := x) (m := M) hxb (by omega)
    have hst := takes_step (row := row) (b := lb) (cur := cur) (k := k) (o := o) (t := q) (d := d) (P := P) (p := p) (by omega) HV.out.2.2 (by rw [HP, hy, Nat.mul_comm]) hp (by rw [← hxr, ← hM]; exact hd4)
    have hB2 := HF.out.set HA.out k (d % 4294967296) (by omega)
    rw [← hA, show ((d % 4294967296 : Nat) : Int) = (d : Int) % 4294967296 by omega] at hB2
    have hup : p / 4294967296 + d / 9223372036854775808 ≤ 4294967296 := by omega
    have fin : ∃ (k' o' : Nat) (cur' : List Nat), k' + (n - (k + 1)) = n ∧ Value.int .i64 ((k : Int) + 1) = .int .i64 (k' : Int) ∧ Value.int .u64 ((p : Int) / 4294967296 + (d : Int) / 9223372036854775808) = .int .u64 (o' : Int) ∧ o' ≤ 4294967296 ∧ cur'.length = n ∧ Hid (Blk (wr.setCell ⟨g, A, none⟩ (.int .u32 ((d : Int) % 4294967296))) g pre cur' post) ∧ Hid (Sm cur' ∧ cur'.drop k' = row.drop k' ∧ val (cur'.take k') + q * val (lb.take k') = val (row.take k') + 4294967296 ^ k' * o') ∧ Hid (w.grownBy (wr.setCell ⟨g, A, none⟩ (.int .u32 ((d : Int) % 4294967296))) (some g)) :=
      ⟨k + 1, _, _, by omega, by simp, by congr 1, hup, by rw [List.length_set, hl], Lib.hid hB2, Lib.hid ⟨HV.out.1.set k _ (by omega), by rw [set_drop]; exact drop_succ_of_drop HV.out.2.1, hst⟩, Lib.hid (grown_setCell HG.out _ _)⟩
    have FIN := Lib.hid fin
    have HP' := Lib.hid HP
    have HY := Lib.hid hy
    have hdb : (d : Int) / 9223372036854775808 + (p : Int) / 4294967296 < 18446744073709551616 := by omega
    have RBk := Lib.hid (RB.out.grown HG.out NE.out)
    clear hx hxr HP hp hM hd4 hst hB2 fin HF HV HG hl hA
    by_cases hkm : k < m
    · obtain ⟨bb, ob, rfl, hcb⟩ := reads_cell RBk.out HM.out hkm
      rw [← HY.out] at hcb
      clear hy
      go_wp2
      go_roundg (n - (k + 1))
      case measure => omega
      case rel => exact FIN.out
    · have hy0 : y = 0 := by rw [HY.out]; exact getD_cut0 (by have := HM.out; omega)
      have hP0 : P = 0 := by rw [HP'.out, hy0, Nat.mul_zero]
      have hop : o = p := by omega
      subst hP0
      subst hop
      clear hy0 hpp
      go_wp2
      go_roundg (n - (k + 1))
      case measure => omega
      case rel => exact FIN.out
  · obtain rfl : k = n := by omega
    have i3 : ¬ (k : Int) ≤ (m : Int) := by omega
    have h := HV.out.2.2
    rw [List.take_of_length_le (by omega), List.take_of_length_le (by have := HM.out; omega), List.take_of_length_le (by have := HN.out; omega)] at h
    have HH := Lib.hid h
    have hd : decide ((0 : Int) < (o : Int)) = decide (0 < o) := by simp
    clear h
    go_wp2
    go_ret
    exact ⟨cur, o, by first | rfl | rw [hd], HF.out, by rw [HL.out], HV.out.1, HH.out, HG.out⟩
theorem rgives_any {w : World} {g c a L : Nat} {pre post : List Value} {row lb : List Nat} {vb : Value} (hb : Blk w g pre row post) (ha : pre.length = a) (hB : Reads w vb lb) (hne : vb.ownBlock ≠ some g) (hl : row.length = lb.length + 1) (hL : a + row.length ≤ L) (hL2 : L ≤ 300000)
  (hSR : Sm row) (hSB : Sm lb) :
  Calls Tryz.prog 220 #[.slice (some ⟨g, 0, none⟩) L c, vb, .int .i64 a] w fun e w' => e = .returned (.tuple #[]) ∧ ∃ row' : List Nat, Blk w' g pre row' post ∧ row'.length = row.length ∧ Sm row' ∧ (∃ o : Nat, val row' + 4294967296 ^ row.length * o = val row + val lb) ∧ w.grownBy w' (some g) := by
 obtain ⟨b1, d1, rfl⟩ := hB.form
 obtain ⟨m, hm⟩ : ∃ m, m = lb.length := ⟨_, rfl⟩
 obtain ⟨n, hn⟩ : ∃ n, n = row.length := ⟨_, rfl⟩
 have HM := Lib.hid hm
 have HN := Lib.hid hn
 have hnm : n = m + 1 := by omega
 have SB := Lib.hid hSB
 have RB := Lib.hid hB
 have NE := Lib.hid hne
 have HB0 := Lib.hid hb
 have HA := Lib.hid ha
 have HSR := Lib.hid hSR
 rw [← hn] at hL
 rw [← hm, ← hn]
 rw [← hm] at RB NE
 have hm1 : m ≤ 300000 := by omega
 have hnm1 : n ≤ m + 1 := by omega
 have hnm2 : m < n := by omega
 have NM := Lib.hid hnm
 clear hb ha hB hne hl hSR hSB hm hn hnm
 go_enter Tryz.func220, Tryz.ntmps220
 go_wp2
 go_loopg [6, 7] n (fun gk so si wr => ∃ (k o : Nat) (cur : List Nat), k + gk = n ∧ si = .int .i64 (k : Int) ∧ so = .int .u64 (o : Int) ∧ o < 4294967296 ∧ cur.length = n ∧ Hid (Blk wr g pre cur post) ∧ Hid (Sm cur ∧ cur.drop k = row.drop k ∧ val (cur.take k) + 4294967296 ^ k * o = val (row.take k) + val (lb.take k)) ∧ Hid (w.grownBy wr (some g)))
 case atStart => exact ⟨0, 0, row, by omega, rfl, rfl, by omega, HN.out.symm, HB0, Lib.hid ⟨HSR.out, rfl, by simp [val]⟩, Lib.hid (grown_refl w _)⟩
 case round =>
  obtain ⟨k, o, cur, hk, rfl, rfl, ho, hl, HF, HV, HG⟩ := hrel
  have HL := Lib.hid hl
  by_cases hkn : k < n
  · obtain ⟨A, hA⟩ : ∃ A, A = a + k := ⟨_, rfl⟩
    have i1 : (a : Int) + (k : Int) = (A : Int) := by omega
    have i2 : A < L := by omega
    have i3 : (k : Int) ≤ (m : Int) := by omega
    have r1 := HF.out.cell HA.out k (by omega)
    have r2 := HF.out.frozen (a + k)
    obtain ⟨x, hx⟩ : ∃ x, x = cur.getD k 0 := ⟨_, rfl⟩
    have hxb : x < 4294967296 := by rw [hx]; exact HV.out.1.getD k
    have hxr : x = row.getD k 0 := by rw [hx]; exact getD_of_drop HV.out.2.1 k (Nat.le_refl _)
    rw [← hx, ← hA] at r1
    rw [← hA] at r2
    obtain ⟨y, hy⟩ : ∃ y, y = lb.getD k 0 := ⟨_, rfl⟩
    have hyb : y < 4294967296 := by rw [hy]; exact SB.out.getD k
    obtain ⟨s, hs⟩ : ∃ s, s = o + x := ⟨_, rfl⟩
    obtain ⟨d, hd⟩ : ∃ d, d = s + y := ⟨_, rfl⟩
    have hss : (o : Int) + (x : Int) = (s : Int) := by omega
    have hdd : (s : Int) + (y : Int) = (d : Int) := by omega
    have hs64 : s < 18446744073709551616 := by omega
    have hd64 : d < 18446744073709551616 := by omega
    have hst := gives_step (row := row) (b := lb) (cur := cur) (k := k) (c := o) (d := d) (by omega) HV.out.2.2 (by rw [hd, hs, hxr, hy])
    have hB2 := HF.out.set HA.out k (d % 4294967296) (by omega)
    rw [← hA, show ((d % 4294967296 : Nat) : Int) = (d : Int) % 4294967296 by omega] at hB2
    have fin : ∃ (k' o' : Nat) (cur' : List Nat), k' + (n - (k + 1)) = n ∧ Value.int .i64 ((k : Int) + 1) = .int .i64 (k' : Int) ∧ Value.int .u64 ((d : Int) / 4294967296) = .int .u64 (o' : Int) ∧ o' < 4294967296 ∧ cur'.length = n ∧ Hid (Blk (wr.setCell ⟨g, A, none⟩ (.int .u32 ((d : Int) % 4294967296))) g pre cur' post) ∧ Hid (Sm cur' ∧ cur'.drop k' = row.drop k' ∧ val (cur'.take k') + 4294967296 ^ k' * o' = val (row.take k') + val (lb.take k')) ∧ Hid (w.grownBy (wr.setCell ⟨g, A, none⟩ (.int .u32 ((d : Int) % 4294967296))) (some g)) :=
      ⟨k + 1, d / 4294967296, _, by omega, by simp, by congr 1, by omega, by rw [List.length_set, hl], Lib.hid hB2, Lib.hid ⟨HV.out.1.set k _ (by omega), by rw [set_drop]; exact drop_succ_of_drop HV.out.2.1, hst⟩, Lib.hid (grown_setCell HG.out _ _)⟩
    have FIN := Lib.hid fin
    have HY := Lib.hid hy
    have RBk := Lib.hid (RB.out.grown HG.out NE.out)
    clear hx hxr hst hB2 fin HF HV HG hl hA hs
    by_cases hkm : k < m
    · obtain ⟨bb, ob, rfl, hcb⟩ := reads_cell RBk.out HM.out hkm
      rw [← HY.out] at hcb
      clear hy hd
      go_wp2
      go_roundg (n - (k + 1))
      case measure => omega
      case rel => exact FIN.out
    · have hy0 : y = 0 := by rw [HY.out]; exact getD_cut0 (by have := HM.out; omega)
      have hsd : s = d := by omega
      subst hsd
      clear hd hy
      go_wp2
      go_roundg (n - (k + 1))
      case measure => omega
      case rel => exact FIN.out
  · obtain rfl : k = n := by omega
    have i3 : ¬ (k : Int) ≤ (m : Int) := by omega
    have h := HV.out.2.2
    rw [List.take_of_length_le (by omega), List.take_of_length_le (by have := HN.out; omega), List.take_of_length_le (l := lb) (by have := HM.out; omega)] at h
    have HH := Lib.hid h
    clear h
    go_wp2
    go_end0
    exact ⟨rfl, cur, HF.out, by rw [HL.out], HV.out.1, ⟨o, HH.out⟩, HG.out⟩
theorem rtrim_in {W : World} {b off cap : Nat} {l : List Nat} (hn : l.length ≤ cap) (hb : b < W.heap.size) (hc : ∀ j, j < l.length → W.cell? ⟨b, off + j, none⟩ = some (.int .u32 (l.getD j 0 : Nat))) (hl : l.length ≤ 1000000) :
  Calls Tryz.prog 193 #[.slice (some ⟨b, off, none⟩) l.length cap] W fun e w' => e = .returned (.slice (some ⟨b, off, none⟩) (cut l).length cap) ∧ Reads W (.slice (some ⟨b, off, none⟩) (cut l).length cap) (cut l) ∧ w' = W := by
 have H := Lib.hid hc
 obtain ⟨L, hL⟩ : ∃ L, L = l.length := ⟨_, rfl⟩
 have HL := Lib.hid hL
 rw [← hL] at hl hn ⊢
 clear hL hc
 go_enter Tryz.func193, Tryz.ntmps193
 go_wp2
 go_loopg [0] L (fun g s wr => ∃ n : Nat, n = g ∧ n ≤ L ∧ s = .slice (some ⟨b, off, none⟩) n cap ∧ Hid (∀ j, n ≤ j → l.getD j 0 = 0) ∧ wr = W)
 case atStart => exact ⟨L, rfl, Nat.le_refl _, rfl, Lib.hid (fun j hj => getD_cut0 (by have := HL.out; omega)), rfl⟩
 case round =>
  obtain ⟨n, hng, hn, rfl, H0, rfl⟩ := hrel
  have fin : (n = 0 ∨ l.getD (n - 1) 0 ≠ 0) → n = (cut l).length ∧ Reads wr (.slice (some ⟨b, off, none⟩) n cap) (cut l) := by
    intro h1
    have e := cut_eq_take l n (by have := HL.out; omega) (fun j hj => H0.out j hj) h1
    have e2 : (l.take n).length = n := by rw [List.length_take]; have := HL.out; omega
    rw [e]
    exact ⟨e2.symm, .inr (.inl ⟨b, off, cap, by rw [e2], hb, by omega, fun j hj => by
      rw [e2] at hj
      have k := H.out j (by have := HL.out; omega)
      rw [k, List.getD_eq_getElem?_getD, List.getD_eq_getElem?_getD, List.getElem?_take, if_pos hj]⟩)⟩
  have FIN := Lib.hid fin
  have HNG := Lib.hid hng
  clear fin hng
  by_cases hn0 : n = 0
  · have F0 := Lib.hid (FIN.out (.inl hn0))
    go_wp2
    go_ret
    rw [← F0.out.1]
    exact ⟨by rw [hn0]; first | rfl | simp, F0.out.2, rfl⟩
  · obtain ⟨p, hp⟩ : ∃ p, n = p + 1 := ⟨n - 1, by omega⟩
    have hx := H.out p (by have := HL.out; omega)
    have hnp : (n : Int) - 1 = (p : Int) := by omega
    have hp0 : (0 : Int) < (n : Int) := by omega
    have hpn : (p : Int) < (n : Int) := by omega
    have hpc : (p : Int) ≤ (cap : Int) := by omega
    have HP := Lib.hid hp
    obtain ⟨y, hy⟩ : ∃ y, y = l.getD p 0 := ⟨_, rfl⟩
    rw [← hy] at hx
    have HY := Lib.hid hy
    clear hy hp hn0
    by_cases hy0 : y = 0
    · have HZ := Lib.hid hy0
      have ht : ((y : Int) == 0) = true := by simp [hy0]
      clear hy0
      go_wp2
      go_roundg p
      case rel => exact ⟨p, rfl, by omega, rfl, Lib.hid (fun j hj => by
       by_cases e : j = p
       · subst e; rw [← HY.out]; exact HZ.out
       · exact H0.out j (by have := HP.out; omega)), rfl⟩
      case measure => have := HP.out; have := HNG.out; omega
    · have ht : ((y : Int) == 0) = false := by simp [hy0]
      have HZ := Lib.hid hy0
      clear hy0
      go_wp2
      go_ret
      have F1 := FIN.out (.inr (by rw [HP.out, Nat.add_sub_cancel, ← HY.out]; exact HZ.out))
      rw [← F1.1]
      exact ⟨rfl, F1.2, rfl⟩
theorem rup_form {w : World} {va : Value} {A : List Nat} {sh N : Nat} (hA : Reads w va A) (hlA : A.length ≤ 100000) (hSA : Sm A) (hsh : sh ≤ 31) (hN : N = A.length + 1) :
   Calls Tryz.prog 217 #[va, .int .u64 sh] w fun e w' => ∃ (g c : Nat) (l : List Nat), e = .returned (.slice (some ⟨g, 0, none⟩) N c) ∧ Fresh w' w.heap.size (.slice (some ⟨g, 0, none⟩) N c) l ∧ Hid (l.length = N ∧ Sm l ∧ val l = val A * 2 ^ sh) ∧ N ≤ c ∧ w.heap.size ≤ g ∧ g < w'.heap.size ∧ Below w.heap.size w w' := by
 refine (rup_any hA hlA hSA hsh).mono ?_
 rintro e w' ⟨v, l, rfl, f, h1, h2, h3, hb⟩
 rcases f.form with ⟨_, h⟩ | ⟨g, c, rfl, hg1, hg2, hc, _⟩
 · rw [h] at h1; simp at h1
 · have : l.length = N := by omega
   rw [this] at f hc
   exact ⟨g, c, l, by rw [this], f, Lib.hid ⟨this, h2, h3⟩, hc, hg1, hg2, hb⟩
theorem len_top {p E : Nat} (h1 : E < 4294967296 ^ (p + 1)) (h2 : 2147483648 * 4294967296 ^ p ≤ E) : (digs E).length = p + 1 := by
 have a := digs_le_iff.2 h1
 rcases Nat.lt_or_ge (digs E).length (p + 1) with h | h
 · have := digs_le_iff.1 (show (digs E).length ≤ p by omega)
   omega
 · omega
theorem window_math {R D T r1 o P : Nat} (hlo : (T - 1) * D ≤ R) (hhi : R < (T + 1) * D) (hD : D < P) (hR : R < P * 4294967296) (hr1 : r1 < P * 4294967296) (h1 : r1 + T * D = R + P * 4294967296 * o) :
   (o = 0 ∧ r1 = R % D ∧ T = R / D) ∨ (0 < o ∧ 0 < T ∧ T - 1 = R / D ∧ ∀ r2 c, r2 < P * 4294967296 → r2 + P * 4294967296 * c = r1 + D → r2 = R % D) := by
 have hQ : D ≤ P * 4294967296 := by omega
 clear hD
 generalize P * 4294967296 = Q at *
 rcases take_out hlo hhi with ⟨h, h2, h3⟩ | ⟨h, h2, h3, h4⟩
 · refine .inl ?_
   have ho : o = 0 := by
     rcases Nat.eq_zero_or_pos o with h0 | h0
     · exact h0
     · have := Nat.mul_le_mul_left Q h0
       omega
   subst ho
   exact ⟨rfl, by omega, h2.symm⟩
 · refine .inr ?_
   have hTD : T * D = (T - 1) * D + D := by
     obtain ⟨t, rfl⟩ : ∃ t, T = t + 1 := ⟨T - 1, by omega⟩
     rw [Nat.add_sub_cancel, Nat.add_mul, Nat.one_mul]
   have ho : o = 1 := by
     rcases Nat.lt_or_ge o 1 with h0 | h0
     · obtain rfl : o = 0 := by omega
       omega
     · rcases Nat.lt_or_ge 1 o with h5 | h5
       · have := Nat.mul_le_mul_left Q (show 2 ≤ o by omega)
         omega
       · omega
   subst ho
   refine ⟨by decide, h4, h2.symm, fun r2 c hr2 hc => ?_⟩
   have hmod := Nat.mod_lt R (show 0 < D from Nat.pos_of_ne_zero (fun (h0 : D = 0) => by rw [h0] at h; simp at h))
   have e : r1 + D = Q + R % D := by omega
   rw [e] at hc
   rcases Nat.lt_or_ge c 1 with h0 | h0
   · obtain rfl : c = 0 := by omega
     omega
   · rcases Nat.lt_or_ge 1 c with h5 | h5
     · have := Nat.mul_le_mul_left Q (show 2 ≤ c by omega)
       omega
     · obtain rfl : c = 1 := by omega
       omega
theorem shift_next {T s : Nat} (hT : 0 < T) (h : T * 2 ^ s < 2147483648) (hs : s ≤ 31) : s + 1 ≤ 31 ∧ T * 2 ^ (s + 1) < 4294967296 := by
 have e : T * 2 ^ (s + 1) = 2 * (T * 2 ^ s) := by rw [Nat.pow_succ]; rw [← Nat.mul_assoc, Nat.mul_comm]
 refine ⟨?_, by omega⟩
 rcases Nat.lt_or_ge s 31 with h1 | h1
 · omega
 · obtain rfl : s = 31 := by omega
   have := Nat.mul_le_mul_right (2 ^ 31) hT
   omega
theorem grown_trans {w W W' : World} {g : Nat} (h : w.grownBy W (some g)) (k : W.grownBy W' (some g)) : w.grownBy W' (some g) :=
 ⟨k.os.trans h.os, k.tape.trans h.tape, k.output.trans h.output, Nat.le_trans h.size k.size, fun j hj hne => (k.block j (Nat.lt_of_lt_of_le hj h.size) hne).trans (h.block j hj hne)⟩
theorem Blk.below' {W W' : World} {g : Nat} {pre post : List Value} {l : List Nat} (h : Blk W g pre l post) (hb : Below W.heap.size W W') : Blk W' g pre l post := (hb.block g h.lt).trans h
def DLong (w : World) (gu gq N N3 V E : Nat) (vv : Value) (lv : List Nat) (k : Nat) (W : World) : Prop :=
 (∃ (qs cur : List Nat) (post : List Value), Blk W gq [] qs [] ∧ qs.length = N3 ∧ Sm qs ∧ Blk W gu [] cur post ∧ cur.length = N ∧ Sm cur ∧ Dv V E k qs (val cur)) ∧ Reads W vv lv ∧ Below w.heap.size w W
theorem DLong.step {w W W' : World} {gu gq N N3 V E m i Q : Nat} {vv : Value} {lv qs cur row' : List Nat} {post : List Value}
   (hq : Blk W gq [] qs []) (hql : qs.length = N3) (hqs : Sm qs) (hcs : Sm cur) (hcl : cur.length = N) (hD : Dv V E (i + 1) qs (val cur)) (hm : E < 4294967296 ^ m) (hi : i < N3) (hiN : i + m < N)
   (hR : Reads W vv lv) (hne1 : vv.ownBlock ≠ some gu) (hne2 : vv.ownBlock ≠ some gq) (hugq : gu ≠ gq) (hbw : Below w.heap.size w W) (hgu : w.heap.size ≤ gu) (hgq : w.heap.size ≤ gq)
   (hrow : row'.length = m + 1) (hrs : Sm row') (hrv : val row' = val ((cur.drop i).take (m + 1)) % E)
   (hB' : Blk W' gu ((cur.take i).map u32v) row' ((cur.drop (i + m + 1)).map u32v ++ post)) (hgr : W.grownBy W' (some gu)) (hQ : Q = val ((cur.drop i).take (m + 1)) / E) (hQ32 : Q < 4294967296) :
   W'.cell? ⟨gq, i, none⟩ = some (.int .u32 (qs.getD i 0 : Nat)) ∧ W'.frozen? ⟨gq, i, none⟩ = false ∧ DLong w gu gq N N3 V E vv lv i (W'.setCell ⟨gq, i, none⟩ (.int .u32 (Q : Int))) := by
 have hst := (Dv.step hm hD hcs (by omega) (by omega) hrow hrv).2
 have Q4 : Blk W' gq [] qs [] := Blk.kept hq hgr (by simpa using Ne.symm hugq)
 have z0 := Q4.cell (o := 0) rfl i (by omega)
 have z1 := Q4.frozen i
 rw [Nat.zero_add] at z0
 have Q5 := Q4.set (o := 0) rfl i Q (by omega)
 rw [Nat.zero_add] at Q5
 have hq7 : Blk W' gu [] (cur.take i ++ row' ++ cur.drop (i + m + 1)) post := Blk.split.2 hB'
 have hW0 : w.heap.size ≤ W.heap.size := hbw.size
 refine ⟨z0, z1, ⟨qs.set i Q, cur.take i ++ row' ++ cur.drop (i + m + 1), post, Q5, by rw [List.length_set]; exact hql, hqs.set _ _ hQ32, hq7.kept (grown_setCell (g := gq) (grown_refl W' (some gq)) i _) (by simpa using hugq), ?_, (((hcs.take i).append hrs).append (hcs.drop _)), ?_⟩, ?_, ?_⟩
 · rw [List.length_append, List.length_append, hrow, List.length_take, List.length_drop]; omega
 · rw [hQ]; exact hst
 · exact (hR.grown hgr hne1).grown (grown_setCell (g := gq) (grown_refl W' (some gq)) i _) hne2
 · exact (hbw.grown hgr hW0 (fun j e => by cases e; exact hgu)).setCell (p := ⟨gq, i, none⟩) hgq _
theorem rdiv_long {w : World} {va vb : Value} {la lb : List Nat} (ha : Reads w va la) (hb : Reads w vb lb) (hla : la.length ≤ 80000) (hlb : lb.length ≤ 80000) (hsa : Sm la) (hsb : Sm lb) (hca : chk la = true) (hcb : chk lb = true) (h2 : 2 ≤ lb.length) (hle : val lb ≤ val la) :
  Calls Tryz.prog 187 #[va, vb] w fun e w' => ∃ v1 v2, e = .returned (.tuple #[v1, v2, .int .i64 0]) ∧ Reads w' v1 (digs (val la / val lb)) ∧ Reads w' v2 (digs (val la % val lb)) ∧ Below w.heap.size w w' := by
 obtain ⟨i0, hi, hz0, hz1, hz2⟩ := info_parts info_u32
 have hlen : lb.length ≤ la.length := by
  rcases Nat.lt_or_ge la.length lb.length with h1 | h1
  · have := le_of_length_lt hsa hsb hcb h1; omega
  · exact h1
 have cA := rnc_any ha (by omega)
 have cB := rnc_any hb (by omega)
 rw [hca] at cA
 rw [hcb] at cB
 have kC := rcmp_any ha hb (by omega) (by omega) hsa hsb
 rw [nv_chk hca, nv_chk hcb] at kC
 obtain ⟨z, hz⟩ : ∃ z, z = sgn (val la) (val lb) := ⟨_, rfl⟩
 rw [← hz] at kC
 have hz0' : ¬ z < 0 := by rw [hz]; unfold sgn; split; omega; split <;> omega
 obtain ⟨a1, d1, rfl⟩ := ha.form
 obtain ⟨b1, d2, rfl⟩ := hb.form
 obtain ⟨bb, ob, hbb, hcell⟩ := hb.addr
 obtain ⟨p, hp⟩ : ∃ p, lb.length = p + 1 := ⟨lb.length - 1, by omega⟩
 have ht := hcell p (by omega)
 obtain ⟨T, hT⟩ : ∃ T, T = lb.getD p 0 := ⟨_, rfl⟩
 have hT0 : 0 < T := by
  rcases (chk_iff lb).1 hcb with h | h
  · rw [h] at hp; simp at hp
  · rw [hp, Nat.add_sub_cancel, ← hT] at h; omega
 have hT1 : T < 4294967296 := hT ▸ hsb.getD p
 rw [← hT] at ht
 obtain ⟨rfl, hbw⟩ : b1 = some ⟨bb, ob, none⟩ ∧ bb < w.heap.size := hbb (by omega)
 have hnil : ¬ lb.length = 0 := by omega
 have hone : ¬ lb.length = 1 := by omega
 obtain ⟨n, hn⟩ : ∃ n, n = la.length := ⟨_, rfl⟩
 obtain ⟨m, hm⟩ : ∃ m, m = lb.length := ⟨_, rfl⟩
 obtain ⟨N, hN⟩ : ∃ N, N = n + 1 := ⟨_, rfl⟩
 obtain ⟨M0, hM0⟩ : ∃ M, M = m + 1 := ⟨_, rfl⟩
 obtain ⟨N3, hN3⟩ : ∃ N3, N3 = n - m + 1 := ⟨_, rfl⟩
 have ku := Lib.hid (fun (W : World) (hW : Below w.heap.size w W) (sh : Nat) (hsh : sh ≤ 31) => rup_form (sh := sh) (N := N) (ha.below hW) (by omega) hsa hsh (by rw [hN, hn]))
 have kv := Lib.hid (fun (W : World) (hW : Below w.heap.size w W) (sh : Nat) (hsh : sh ≤ 31) => rup_form (sh := sh) (N := M0) (hb.below hW) (by omega) hsb hsh (by rw [hM0, hm]))
 have HW := Lib.hid (fun (W : World) (hW : Below w.heap.size w W) => (hW.cell (p := ⟨bb, ob + p, none⟩) hbw).trans ht)
 rw [← hn] at cA kC ku ⊢
 rw [← hm] at cB kC kv ⊢
 have SA := Lib.hid hsa
 have SB := Lib.hid hsb
 have HLE := Lib.hid hle
 have HP := Lib.hid hp
 have HT := Lib.hid hT
 have HN := Lib.hid hn
 have HM := Lib.hid hm
 have ei : (m : Int) - 1 = (p : Int) := by omega
 have pm : p < m := by omega
 have m0 : ((m : Int) == 0) = false := by simp; omega
 have m1 : ((m : Int) == 1) = false := by simp; omega
 have mb : 2 ≤ m := by omega
 have mn : m ≤ n := by omega
 have nb : n ≤ 80000 := by omega
 have FN := Lib.hid (show N = n + 1 ∧ M0 = m + 1 ∧ N3 = n - m + 1 from ⟨hN, hM0, hN3⟩)
 have eN : (N : Int) - (m : Int) = (N3 : Int) := by omega
 have N3b : N3 ≤ 80001 := by omega
 have Nb : N ≤ 80001 := by omega
 have mN : N3 + m = N := by omega
 clear ha hb hla hlb hsa hsb hca hcb h2 hle hlen hz hbb hcell hp ht hT hnil hone hn hm hN hM0 hN3
 go_enter Tryz.func187, Tryz.ntmps187
 go_wp2_with fail
 go_at_call 132
 refine cA.mono ?_
 rintro e w' ⟨rfl, hw⟩
 subst w'
 clear cA
 go_wp2_with fail
 go_at_call 132
 refine cB.mono ?_
 rintro e w' ⟨rfl, hw⟩
 subst w'
 clear cB
 go_wp2_with fail
 go_at_call 190
 refine kC.mono ?_
 rintro e w1 ⟨rfl, r1⟩
 clear kC
 have HW1 := HW.out w1 r1
 go_wp2_with fail
 go_loopg [9] 32 (fun gk sb wr => ∃ s : Nat, s + gk = 32 ∧ s ≤ 31 ∧ sb = .int .u64 (s : Int) ∧ T * 2 ^ s < 4294967296 ∧ wr = w1)
 case atStart => exact ⟨0, by omega, by omega, rfl, by omega, rfl⟩
 case round =>
  obtain ⟨s, hsg, hs31, rfl, hTs, hwr⟩ := hrel
  subst wr
  obtain ⟨y, hy⟩ : ∃ y, y = T * 2 ^ s := ⟨_, rfl⟩
  have hs32 : s < 32 := by omega
  have hs64 : s < 64 := by omega
  rw [← hy] at hTs
  have hyw : IntKind.u32.wrap ((T : Int) * 2 ^ s) = (y : Int) := by
    have : (T : Int) * 2 ^ s = ((T * 2 ^ s : Nat) : Int) := by push_cast; rfl
    rw [this, ← hy]; exact w32_of y hTs
  have HY := Lib.hid hy
  clear hy
  by_cases hy31 : y < 2147483648
  · have hg0 : (y : Int) / 2147483648 = 0 := by omega
    have hnx := shift_next hT0 (by rw [← HY.out]; exact hy31) hs31
    go_wp2_with fail
    go_roundg (32 - (s + 1))
    case measure => omega
    case rel => exact ⟨s + 1, by omega, by omega, by simp, hnx.2, rfl⟩
  · have hg0 : ¬ (y : Int) / 2147483648 = 0 := by omega
    have f1 := up_fits HP.out SB.out hs31 (by rw [← HT.out, ← HY.out]; exact hTs)
    have f2 := up_low (S := 2 ^ s) HP.out (by rw [← HT.out, ← HY.out]; omega)
    have f3 := dv_room (a := val la) (n := la.length) (m := p) (S := 2 ^ s) (val_lt SA.out) f2 (pow31 hs31) (by rw [← HN.out]; have := HP.out; have := HM.out; omega)
    rw [show la.length - (p + 1) + 1 = n - m + 1 by have := HN.out; have := HP.out; have := HM.out; omega] at f3
    obtain ⟨V, hV⟩ : ∃ V, V = val la * 2 ^ s := ⟨_, rfl⟩
    obtain ⟨E, hE⟩ : ∃ E, E = val lb * 2 ^ s := ⟨_, rfl⟩
    have FQ := Lib.hid (show V / E = val la / val lb by rw [hV, hE, Nat.mul_div_mul_right _ _ (two_pos s)])
    have FR := Lib.hid (show V % E / 2 ^ s = val la % val lb by rw [hV, hE, Nat.mul_mod_mul_right, Nat.mul_div_cancel _ (two_pos s)])
    rw [← hE] at f1 f2 f3
    rw [← hV] at f3
    have lE := len_top f1 f2
    rw [show p + 1 = m by have := HP.out; have := HM.out; omega] at f1 lE
    have ku1 := ku.out w1 r1 s hs31
    have kv1 := Lib.hid (fun (W : World) (hW : Below w.heap.size w W) => kv.out W hW s hs31)
    rw [← hV] at ku1
    rw [← hE] at kv1
    have F1 := Lib.hid f1
    have F2 := Lib.hid f2
    have F3 := Lib.hid f3
    have LE := Lib.hid lE
    clear f1 f2 f3 hV hE lE hTs ku kv hsg
    go_wp2_with fail
    go_at_call 217
    refine ku1.mono ?_
    rintro e w2 ⟨gu, cu, lu, rfl, FU, hlu, hcu, hgu1, hgu2, r2⟩
    obtain ⟨pu, BU, _, _, _⟩ := FU.blk hlu.out.1.symm
    have BU1 := Lib.hid BU
    have r12 := then_below r1 r2
    have R12 := Lib.hid r12
    have hguw := Nat.le_trans r1.size hgu1
    clear ku1 FU BU r2 r12 hyw hg0 HW1 hgu1
    go_wp2_with fail
    go_at_call 217
    refine (kv1.out w2 R12.out).mono ?_
    rintro e w3 ⟨gv, cv, lv, rfl, FV, hlv, hcv, hgv1, hgv2, r3⟩
    have BU2 := Lib.hid (BU1.out.below' r3)
    have R13 := Lib.hid (then_below R12.out r3)
    have hguv : gu ≠ gv := by omega
    have hgvw := Nat.le_trans R12.out.size hgv1
    have hgu3 : gu < w3.heap.size := by omega
    have hcell : ∀ j, j < lv.length → w3.cell? ⟨gv, 0 + j, none⟩ = some (.int .u32 (lv.getD j 0 : Nat)) := by
     rcases FV.form with ⟨e, _⟩ | ⟨g', c, e, _, _, hn', hcc⟩
     · cases e
     · simp only [Value.slice.injEq, Option.some.injEq, Addr.mk.injEq, and_true] at e
       obtain ⟨rfl, _⟩ := e
       exact hcc
    have kt := rtrim_in (cap := cv) (by have := hlv.out.1; omega) hgv2 hcell (by have := hlv.out.1; have := FN.out; omega)
    rw [hlv.out.1, cut_eq hlv.out.2.1, hlv.out.2.2, LE.out] at kt
    have KT := Lib.hid kt
    clear kv1 FV r3 hcell kt BU1 R12 hgv1 hlv hcv hgu2
    go_wp2_with fail
    go_at_call 193
    refine KT.out.mono ?_
    rintro e w' ⟨rfl, RV, hw⟩
    subst w'
    have RV1 := Lib.hid RV
    have KTE := LE.out
    obtain ⟨D, hD⟩ : ∃ D, D = digs E := ⟨_, rfl⟩
    rw [← hD] at RV1 KTE
    have hvD := Lib.hid (show val D = E ∧ Sm D ∧ D.length = m from ⟨by rw [hD, val_digs], by rw [hD]; exact sm_digs E, KTE⟩)
    clear KT RV KTE hD
    go_wp2_with (at_make; go_loud (refine wpList_make_full _ rfl _ _ 26 rfl w3.heap.size 71 i0 (.int .u32 0) 1 Tryz.underlying26 hi hz0 hz1 .i64 .i64 _ _ N3 rfl rfl (by omega) (by omega) (by rw [hz2]; omega) (by unfold maxLen; omega) (by simp) ?_); intro w4 hown1 hgrow1)
    have hbel1 : Below w3.heap.size w3 w4 := (Below.refl _ w3).grown hgrow1 (Nat.le_refl _) (fun _ e => by cases e)
    have hF : Fresh w4 w3.heap.size (.slice (some ⟨w3.heap.size, 0, none⟩) N3 N3) (List.replicate N3 0) := by unfold Fresh; rw [List.length_replicate, ← replicate_zero_u32]; exact hown1
    obtain ⟨gq, hgq⟩ : ∃ g, g = w3.heap.size := ⟨_, rfl⟩
    obtain ⟨pq, BQ, _, hpq, _⟩ := hF.blk (by simp)
    have hpn : pq = [] := by
     rw [List.length_replicate] at hpq
     exact List.eq_nil_of_length_eq_zero (by omega)
    rw [hpn] at BQ
    rw [← hgq] at BQ ⊢
    have hguq : gu ≠ gq := by omega
    have hgvq : gv ≠ gq := by omega
    have hgqw : w.heap.size ≤ gq := by rw [hgq]; exact R13.out.size
    have hS0 := Lib.hid (show DLong w gu gq N N3 V E (.slice (some ⟨gv, 0, none⟩) m cv) D N3 w4 from
     ⟨⟨List.replicate N3 0, lu, pu, BQ, by simp, Sm.replicate _, BU2.out.below' hbel1, by rw [hlu.out.1], hlu.out.2.1, by rw [hlu.out.2.2]; rw [FN.out.2.2]; exact Dv.start F3.out⟩, RV1.out.below hbel1, then_below R13.out hbel1⟩)
    clear hown1 hgrow1 hbel1 hF BQ hpq hpn hgq BU2 RV1 R13 hgv2 hgu3 hlu hi hz0 hz1 hz2
    go_wp2_with fail
    go_loopg [13] N3 (fun gk si wr => ∃ (z : Int), si = .int .i64 z ∧ z = (gk : Int) - 1 ∧ gk ≤ N3 ∧ Hid (DLong w gu gq N N3 V E (.slice (some ⟨gv, 0, none⟩) m cv) D gk wr))
    case atStart => exact ⟨_, rfl, rfl, Nat.le_refl _, hS0⟩
    case round =>
     obtain ⟨z', rfl, hzz, hgN, HD⟩ := hrel
     clear hS0
     by_cases hg0 : gk = 0
     · have hz1 : z' = -1 := by omega
       subst hz1
       obtain ⟨⟨qs, cur, post, q1, q2, q3, q4, q5, q6, q7⟩, q8, q9⟩ := HD.out
       rw [hg0] at q7
       obtain ⟨e1, e2⟩ := q7.done
       -- the end
       rw [FQ.out] at e1
       have hQ := q3
       have kt1 := rtrim_any (v := .slice (some ⟨gq, 0, none⟩) N3 N3) (W := wr) (l := qs) (by have := q1.reads (o := 0) (cap := N3) rfl (by omega); rwa [q2] at this) (by omega)
       have kt2 := rtrim_any (v := .slice (some ⟨gu, 0, none⟩) N cu) (W := wr) (l := cur) (by have := q4.reads (o := 0) (cap := cu) rfl (by omega); rwa [q5] at this) (by omega)
       rw [cut_eq q3, e1] at kt1
       rw [cut_eq q6, e2] at kt2
       have kd := Lib.hid (fun (W : World) (v : Value) (hv : Reads W v (digs (V % E))) => rdown_any (sh := s) hv (by
         have hE0 : 0 < E := by
          have := F2.out
          have : 0 < 4294967296 ^ p := Nat.pow_pos (by decide)
          omega
         have : (digs (V % E)).length ≤ m := digs_length_le (Nat.lt_trans (Nat.mod_lt _ hE0) F1.out)
         omega) (sm_digs _) hs31)
       rw [val_digs, FR.out] at kd
       have KT1 := Lib.hid kt1
       have KT2 := Lib.hid kt2
       have Q9 := Lib.hid q9
       clear kt1 kt2 q1 q2 q3 q4 q5 q6 q7 q8 q9 e1 e2 hQ hg0 hzz hgN
       go_wp2_with fail
       go_at_call 193
       refine KT1.out.mono ?_
       clear KT1
       rintro e w' ⟨⟨x1, rfl, hx1⟩, hw⟩
       subst w'
       have HX1 := Lib.hid hx1
       clear hx1
       go_wp2_with fail
       go_at_call 193
       refine KT2.out.mono ?_
       clear KT2
       rintro e w' ⟨⟨x2, rfl, hx2⟩, hw⟩
       subst w'
       have HX2 := Lib.hid hx2
       clear hx2
       go_wp2_with fail
       go_at_call 221
       refine (kd.out _ _ HX2.out).mono ?_
       clear kd
       rintro e w9 ⟨x3, rfl, hx3, r9⟩
       have HX3 := Lib.hid hx3
       have HX1' := Lib.hid (HX1.out.below r9)
       have R9 := Lib.hid (then_below Q9.out r9)
       clear hx3 r9
       go_wp2_with fail
       go_ret3
       exact ⟨x1, x3, rfl, HX1'.out, HX3.out, R9.out⟩
     · obtain ⟨i, hgi⟩ : ∃ i, gk = i + 1 := ⟨gk - 1, by omega⟩
       have hzi : z' = (i : Int) := by omega
       subst hzi
       obtain ⟨⟨qs, cur, post, q1, q2, q3, q4, q5, q6, q7⟩, q8, q9⟩ := HD.out
       rw [hgi] at q7
       have hiN : i < N3 := by omega
       have hiM : i + m < N := by omega
       obtain ⟨row, hrow⟩ : ∃ row, row = (cur.drop i).take (m + 1) := ⟨_, rfl⟩
       have hrl : row.length = m + 1 := by rw [hrow, List.length_take, List.length_drop]; omega
       have hrs : Sm row := by rw [hrow]; exact (q6.drop i).take _
       have hsplit : cur = cur.take i ++ row ++ cur.drop (i + m + 1) := by
         rw [hrow, show i + m + 1 = i + (m + 1) by omega, ← List.drop_drop, List.append_assoc, List.take_append_drop, List.take_append_drop]
       have hpl : ((cur.take i).map u32v).length = i := by rw [List.length_map, List.length_take]; omega
       have hwin : Blk wr gu ((cur.take i).map u32v) row ((cur.drop (i + m + 1)).map u32v ++ post) := by
         have := q4
         rw [hsplit] at this
         exact Blk.split.1 this
       have hlt : val row < 4294967296 * E := by
         rw [hrow]
         exact (Dv.step (row' := digs (val ((cur.drop i).take (m + 1)) % E) ++ List.replicate (m + 1 - (digs (val ((cur.drop i).take (m + 1)) % E)).length) 0) F1.out q7 q6 (by omega) (by omega) (by
          rw [List.length_append, List.length_replicate]
          have hE0 : 0 < E := by
            have := F2.out
            have : 0 < 4294967296 ^ p := Nat.pow_pos (by decide)
            omega
          have : (digs (val ((cur.drop i).take (m + 1)) % E)).length ≤ m := digs_length_le (Nat.lt_trans (Nat.mod_lt _ hE0) F1.out)
          omega) (by rw [val_append, val_replicate, val_digs, Nat.mul_zero, Nat.add_zero])).1
       obtain ⟨n2, hn2⟩ : ∃ n2, m = n2 + 2 := ⟨m - 2, by omega⟩
       obtain ⟨bv, ov, hbv, hcv2⟩ := q8.addr
       obtain ⟨hbv1, _⟩ := hbv (by have := hvD.out.2.2; omega)
       simp only [Option.some.injEq, Addr.mk.injEq, and_true] at hbv1
       obtain ⟨rfl, rfl⟩ := hbv1
       have htop : 2147483648 ≤ D.getD (n2 + 1) 0 := by
         have hpn : p = n2 + 1 := by have := HP.out; have := HM.out; omega
         rw [← hpn]
         exact top_of (by rw [hvD.out.2.2]; omega) hvD.out.2.1 hvD.out.1 F2.out
       have kg := rguess_any (w := wr) (br := gu) (bb := gv) (ob := 0) (cr := cu) (cb := cv) (n := n2) (a := i) (L := N) (lr := row) (lb := D) (fun j hj => hwin.cell hpl j (by omega)) (fun j hj => hcv2 j (by have := hvD.out.2.2; omega)) (by omega) (by have := hvD.out.2.2; omega) (by omega) (by omega) (by omega) hrs hvD.out.2.1 htop (by rw [hvD.out.1]; exact hlt)
       rw [← hn2, hvD.out.1] at kg
       have KG := Lib.hid kg
       have KT := Lib.hid (fun (W : World) (hW : Below wr.heap.size wr W) (T : Nat) (hT : T < 4294967296) => rtakes_any (w := W) (g := gu) (c := cu) (a := i) (L := N) (q := T) (hwin.below' hW) hpl (q8.below hW) (by simp [Value.ownBlock]; omega) (by rw [hrl, hvD.out.2.2]) (by omega) (by omega) hrs hvD.out.2.1 hT)
       have KGV := Lib.hid (fun (W : World) (row1 : List Nat) (hB1 : Blk W gu ((cur.take i).map u32v) row1 ((cur.drop (i + m + 1)).map u32v ++ post)) (hl1 : row1.length = row.length) (hs1 : Sm row1) (hR1 : Reads W (.slice (some ⟨gv, 0, none⟩) m cv) D) => rgives_any (w := W) (g := gu) (c := cu) (a := i) (L := N) hB1 hpl hR1 (by simp [Value.ownBlock]; omega) (by rw [hl1, hrl, hvD.out.2.2]) (by omega) (by omega) hs1 hvD.out.2.1)
       have HSTEP := Lib.hid (fun (W' : World) (row' : List Nat) (Q : Nat) (k1 : row'.length = m + 1) (k2 : Sm row') (k3 : val row' = val row % E) (k4 : Blk W' gu ((cur.take i).map u32v) row' ((cur.drop (i + m + 1)).map u32v ++ post)) (k5 : wr.grownBy W' (some gu)) (k6 : Q = val row / E) (k7 : Q < 4294967296) =>
         DLong.step (w := w) (N := N) (N3 := N3) (V := V) (E := E) (m := m) (i := i) (Q := Q) q1 q2 q3 q6 q5 q7 F1.out hiN hiM q8 (by simp [Value.ownBlock]; omega) (by simp [Value.ownBlock]; omega) hguq q9 hguw hgqw k1 k2 (by rw [← hrow]; exact k3) k4 k5 (by rw [← hrow]; exact k6) k7)
       have HW2 := Lib.hid hwin
       have HRL := Lib.hid hrl
       have Q8 := Lib.hid q8
       have HI := Lib.hid hgi
       have hlt1 : val row < 4294967296 ^ m * 4294967296 := by
         have := Nat.mul_lt_mul_of_pos_right F1.out (show 0 < 4294967296 by decide)
         omega
       have HLT := Lib.hid hlt1
       clear kg hwin hsplit hrow hrl hlt hlt1 q1 q2 q3 q4 q5 q6 q7 q8 q9 hcv2 htop hn2 hzz hgN hg0 hgi
       go_wp2_with fail
       go_at_call 218
       refine KG.out.mono ?_
       rintro e w5 ⟨T, rfl, hT, hlo, hhi, r5⟩
       have LO := Lib.hid hlo
       have HI2 := Lib.hid hhi
       have R5 := Lib.hid r5
       clear KG hlo hhi r5
       go_wp2_with fail
       go_at_call 219
       refine (KT.out w5 R5.out T hT).mono ?_
       rintro e w6 ⟨row1, o, rfl, B6, l6, s6, v6, g6⟩
       have hmath := window_math (R := val row) (D := E) (T := T) (r1 := val row1) (o := o) (P := 4294967296 ^ m) LO.out HI2.out F1.out HLT.out (by have := val_lt s6; rwa [l6, HRL.out, Nat.pow_succ] at this) (by rw [hvD.out.1, HRL.out, Nat.pow_succ] at v6; exact v6)
       have G6 := Lib.hid (grown_trans (grown_below (grown_refl wr (some gu)) R5.out) g6)
       have MATH := Lib.hid hmath
       have B6' := Lib.hid B6
       have L6 := Lib.hid l6
       have hwT := w32_of T hT
       clear KT hmath B6 l6 v6 g6
       by_cases ho : 0 < o
       · have hdo : decide (0 < o) = true := by simp [ho]
         rw [hdo]
         have hm2 : 0 < T ∧ T - 1 = val row / E ∧ ∀ r2 c, r2 < 4294967296 ^ m * 4294967296 → r2 + 4294967296 ^ m * 4294967296 * c = val row1 + E → r2 = val row % E := by
          rcases MATH.out with h | h
          · omega
          · exact h.2
         have M2 := Lib.hid hm2
         have RV6 := Lib.hid (Q8.out.grown G6.out (by simp [Value.ownBlock]; omega))
         clear MATH hm2 ho hdo
         go_wp2_with fail
         go_at_call 220
         refine (KGV.out w6 row1 B6'.out L6.out s6 RV6.out).mono ?_
         rintro e w7 ⟨rfl, row2, B7, l7, s7, ⟨c, v7⟩, g7⟩
         obtain ⟨T1, hT1⟩ : ∃ T1, T1 = T - 1 := ⟨_, rfl⟩
         have hwT1 : IntKind.u64.wrap ((T : Int) - 1) = (T1 : Int) := by rw [IntKind.wrap_u64]; have := M2.out.1; omega
         have hwT2 := w32_of T1 (by omega)
         have l72 : row2.length = m + 1 := by rw [l7, L6.out, HRL.out]
         obtain ⟨z0, z1, z2⟩ := HSTEP.out w7 row2 T1 l72 s7 (M2.out.2.2 _ c (by have := val_lt s7; rwa [l72, Nat.pow_succ] at this) (by rw [hvD.out.1, L6.out, HRL.out, Nat.pow_succ] at v7; exact v7)) B7 (grown_trans G6.out g7) (by rw [hT1]; exact M2.out.2.1) (by omega)
         have Z2 := Lib.hid z2
         obtain ⟨y, hy⟩ : ∃ y, y = qs.getD i 0 := ⟨_, rfl⟩
         rw [← hy] at z0
         clear z2 hy KGV HSTEP B7 l7 s7 v7 g7 hT1 M2 RV6 l72
         go_wp2_with fail
         go_roundg i
         case measure => have := HI.out; omega
         case rel => exact ⟨_, rfl, rfl, by omega, Z2⟩
       · have hdo : decide (0 < o) = false := by simp [ho]
         rw [hdo]
         have hm2 : val row1 = val row % E ∧ T = val row / E := by
          rcases MATH.out with h | h
          · exact h.2
          · omega
         obtain ⟨z0, z1, z2⟩ := HSTEP.out w6 row1 T (by rw [L6.out, HRL.out]) s6 hm2.1 B6'.out G6.out hm2.2 hT
         have Z2 := Lib.hid z2
         obtain ⟨y, hy⟩ : ∃ y, y = qs.getD i 0 := ⟨_, rfl⟩
         rw [← hy] at z0
         clear z2 hy KGV HSTEP MATH hm2 ho hdo
         go_wp2_with fail
         go_roundg i
         case measure => have := HI.out; omega
         case rel => exact ⟨_, rfl, rfl, by omega, Z2⟩
theorem rof_any (n : Nat) (hn : n < 18446744073709551616) (w : World) :
  Calls Tryz.prog 186 #[.int .u64 n] w fun e w' => ∃ v, e = .returned v ∧ Reads w' v (digs n) ∧ Below w.heap.size w w' := by
 have hF : Fresh (w.alloc (.cells #[.int .u32 (n % 4294967296 : Nat), .int .u32 (n / 4294967296 : Nat)] 71)) w.heap.size (.slice (some ⟨w.heap.size, 0, none⟩) 2 2) [n % 4294967296, n / 4294967296] :=
  ⟨rfl, .inr ⟨w.heap.size, 2, _, rfl, Nat.le_refl _, World.alloc_heap_new w _, Nat.le_refl _, small_max (by omega), rfl, rfl⟩⟩
 have hsm : Sm [n % 4294967296, n / 4294967296] := Sm.cons (by omega) (Sm.cons (by omega) Sm.nil)
 have kt := rtrim_any hF.reads (by simp)
 have ev : val [n % 4294967296, n / 4294967296] = n := by simp [val]; omega
 rw [cut_eq hsm, ev] at kt
 rw [show ((n % 4294967296 : Nat) : Int) = (n : Int) % 4294967296 by omega, show ((n / 4294967296 : Nat) : Int) = (n : Int) / 4294967296 by omega] at kt
 have KT := Lib.hid kt
 clear kt hF hsm ev
 go_enter Tryz.func186, Tryz.ntmps186
 go_wp2_with fail
 go_at_call 193
 refine KT.out.mono ?_
 rintro e w' ⟨⟨u, rfl, hu⟩, rfl⟩
 have HU := Lib.hid hu
 clear hu
 go_wp2_with fail
 go_ret
 exact ⟨_, rfl, HU.out, (Below.refl _ _).alloc (Nat.le_refl _) _⟩
def divOk (A B : List Nat) : Prop := chk A = true ∧ chk B = true ∧ B ≠ []
instance (A B : List Nat) : Decidable (divOk A B) := inferInstanceAs (Decidable (_ ∧ _))
def divQ (A B : List Nat) : List Nat := if divOk A B then digs (val A / val B) else []
def divR (A B : List Nat) : List Nat := if divOk A B then digs (val A % val B) else []
def divE (A B : List Nat) : Int := if divOk A B then 0 else if chk A = true ∧ chk B = true then 10 else 1
theorem rdiv_bad {w : World} {va vb : Value} {A B : List Nat} (hA : Reads w va A) (hB : Reads w vb B) (hlA : A.length ≤ 100000) (hlB : B.length ≤ 100000) (h : chk A = false ∨ chk B = false) :
  Calls Tryz.prog 187 #[va, vb] w fun e w' => e = .returned (.tuple #[.slice none 0 0, .slice none 0 0, .int .i64 1]) ∧ w' = w := by
 have cA := rnc_any hA (by omega)
 have cB := rnc_any hB (by omega)
 obtain ⟨a1, c1, rfl⟩ := hA.form
 obtain ⟨b1, d1, rfl⟩ := hB.form
 clear hA hB
 cases h1 : chk A with
 | false =>
  rw [h1] at cA
  clear cB h1 h
  go_enter Tryz.func187, Tryz.ntmps187
  go_wp2_with (go_at_call 132; refine cA.mono ?_; clear cA; rintro e w' ⟨rfl, rfl⟩)
  go_ret3
  exact ⟨rfl, rfl⟩
 | true =>
  have h2 : chk B = false := by rcases h with h | h; rw [h1] at h; cases h; exact h
  rw [h1] at cA
  rw [h2] at cB
  clear h1 h2 h
  go_enter Tryz.func187, Tryz.ntmps187
  go_wp2_with fail
  go_at_call 132
  refine cA.mono ?_
  clear cA
  rintro e w' ⟨rfl, rfl⟩
  go_wp2_with fail
  go_at_call 132
  refine cB.mono ?_
  clear cB
  rintro e w' ⟨rfl, rfl⟩
  go_wp2_with fail
  go_ret3
  exact ⟨rfl, rfl⟩
theorem rdiv_zero {w : World} {va vb : Value} {A : List Nat} (hA : Reads w va A) (hB : Reads w vb []) (hlA : A.length ≤ 100000) (h : chk A = true) :
  Calls Tryz.prog 187 #[va, vb] w fun e w' => e = .returned (.tuple #[.slice none 0 0, .slice none 0 0, .int .i64 10]) ∧ w' = w := by
 have cA := rnc_any hA (by omega)
 have cB := rnc_any hB (by simp)
 rw [h] at cA
 rw [show chk [] = true from rfl] at cB
 obtain ⟨a1, c1, rfl⟩ := hA.form
 obtain ⟨b1, d1, rfl⟩ := hB.form
 rw [List.length_nil] at cB ⊢
 clear hA hB h
 go_enter Tryz.func187, Tryz.ntmps187
 go_wp2_with fail
 go_at_call 132
 refine cA.mono ?_
 clear cA
 rintro e w' ⟨rfl, rfl⟩
 go_wp2_with fail
 go_at_call 132
 refine cB.mono ?_
 clear cB
 rintro e w' ⟨rfl, rfl⟩
 go_wp2_with fail
 go_ret3
 exact ⟨rfl, rfl⟩
theorem rdiv_less {w : World} {va vb : Value} {A B : List Nat} (hA : Reads w va A) (hB : Reads w vb B) (hlA : A.length ≤ 100000) (hlB : B.length ≤ 100000) (hSA : Sm A) (hSB : Sm B) (hca : chk A = true) (hcb : chk B = true) (h0 : B ≠ []) (h : val A < val B) :
  Calls Tryz.prog 187 #[va, vb] w fun e w' => ∃ v1 v2, e = .returned (.tuple #[v1, v2, .int .i64 0]) ∧ Reads w' v1 (digs (val A / val B)) ∧ Reads w' v2 (digs (val A % val B)) ∧ Below w.heap.size w w' := by
 have cA := rnc_any hA (by omega)
 have cB := rnc_any hB (by omega)
 have kC := rcmp_any hA hB hlA hlB hSA hSB
 rw [hca] at cA
 rw [hcb] at cB
 rw [nv_chk hca, nv_chk hcb] at kC
 obtain ⟨z, hz⟩ : ∃ z, z = sgn (val A) (val B) := ⟨_, rfl⟩
 rw [← hz] at kC
 have hz0 : z < 0 := by rw [hz]; unfold sgn; rw [if_pos h]; decide
 have kT := Lib.hid (fun (W : World) (hW : Below w.heap.size w W) => rtwin_any (hA.below hW) hlA)
 have e1 : digs (val A / val B) = [] := by rw [Nat.div_eq_of_lt h, digs_zero]
 have e2 : digs (val A % val B) = A := by rw [Nat.mod_eq_of_lt h, digs_val hSA hca]
 rw [e1, e2]
 have hn : 0 < B.length := by
  rcases Nat.eq_zero_or_pos B.length with h | h
  · exact absurd (List.eq_nil_of_length_eq_zero h) h0
  · exact h
 obtain ⟨a1, c1, rfl⟩ := hA.form
 obtain ⟨b1, d1, rfl⟩ := hB.form
 have hm0 : ((B.length : Int) == 0) = false := by simp; omega
 clear hA hB hSA hSB hca hcb h0 h hz e1 e2 hlA hlB
 go_enter Tryz.func187, Tryz.ntmps187
 go_wp2_with fail
 go_at_call 132
 refine cA.mono ?_
 clear cA
 rintro e w' ⟨rfl, rfl⟩
 go_wp2_with fail
 go_at_call 132
 refine cB.mono ?_
 clear cB
 rintro e w' ⟨rfl, rfl⟩
 go_wp2_with fail
 go_at_call 190
 refine kC.mono ?_
 clear kC
 rintro e w1 ⟨rfl, r1⟩
 go_wp2_with fail
 go_at_call 203
 refine (kT.out w1 r1).mono ?_
 clear kT
 rintro e w2 ⟨u, rfl, fu, r2⟩
 have R2 := Lib.hid (then_below r1 r2)
 have FU := Lib.hid fu.reads
 clear fu r1 r2
 go_wp2_with fail
 go_ret3
 exact ⟨_, u, rfl, Reads.nil _, FU.out, R2.out⟩
theorem rdiv_one {w : World} {va vb : Value} {A : List Nat} {d : Nat} (hA : Reads w va A) (hB : Reads w vb [d]) (hlA : A.length ≤ 100000) (hSA : Sm A) (hca : chk A = true) (hd : 0 < d) (hd2 : d < 4294967296) (h : d ≤ val A) :
  Calls Tryz.prog 187 #[va, vb] w fun e w' => ∃ v1 v2, e = .returned (.tuple #[v1, v2, .int .i64 0]) ∧ Reads w' v1 (digs (val A / d)) ∧ Reads w' v2 (digs (val A % d)) ∧ Below w.heap.size w w' := by
 have hcb : chk [d] = true := by simp [chk]; omega
 have hSB : Sm [d] := by intro x hx; simp at hx; omega
 have cA := rnc_any hA (by omega)
 have cB := rnc_any hB (by simp)
 have kC := rcmp_any hA hB hlA (by simp) hSA hSB
 rw [hca] at cA
 rw [hcb] at cB
 rw [nv_chk hca, nv_chk hcb, val_one] at kC
 obtain ⟨z, hz⟩ : ∃ z, z = sgn (val A) d := ⟨_, rfl⟩
 rw [← hz] at kC
 have hz0 : ¬ z < 0 := by rw [hz]; unfold sgn; split; omega; split <;> omega
 have kS := Lib.hid (fun (W : World) (hW : Below w.heap.size w W) => rsmall_any (t := d) (hA.below hW) hlA hSA hd hd2)
 have kO := Lib.hid (fun (W : World) => rof_any (val A % d) (by have := Nat.mod_lt (val A) hd; omega) W)
 have hmd : val A % d < 4294967296 := by have := Nat.mod_lt (val A) hd; omega
 obtain ⟨R, hR⟩ : ∃ R, R = val A % d := ⟨_, rfl⟩
 rw [← hR] at kS kO hmd ⊢
 obtain ⟨bb, ob, hbb, hcell⟩ : ∃ bb ob, (∃ d1, vb = .slice (some ⟨bb, ob, none⟩) 1 d1) ∧ w.cell? ⟨bb, ob, none⟩ = some (.int .u32 (d : Int)) ∧ bb < w.heap.size := by
  obtain ⟨b1, d1, rfl⟩ := hB.form
  obtain ⟨bb, ob, h1, h2⟩ := hB.addr
  obtain ⟨rfl, h4⟩ := h1 (by simp)
  exact ⟨bb, ob, ⟨d1, rfl⟩, by have := h2 0 (by simp); simpa using this, h4⟩
 obtain ⟨d1, rfl⟩ := hbb
 have HW := Lib.hid (fun (W : World) (hW : Below w.heap.size w W) => (hW.cell (p := ⟨bb, ob, none⟩) hcell.2).trans hcell.1)
 obtain ⟨a1, c1, rfl⟩ := hA.form
 clear hA hB hSA hSB hca hcb h hz hlA hR hcell
 go_enter Tryz.func187, Tryz.ntmps187
 go_wp2_with fail
 go_at_call 132
 refine cA.mono ?_
 clear cA
 rintro e w' ⟨rfl, rfl⟩
 go_wp2_with fail
 go_at_call 132
 refine cB.mono ?_
 clear cB
 rintro e w' ⟨rfl, rfl⟩
 go_wp2_with fail
 go_at_call 190
 refine kC.mono ?_
 clear kC
 rintro e w1 ⟨rfl, r1⟩
 have q1 := HW.out w1 r1
 go_wp2_with fail
 go_at_call 216
 refine (kS.out w1 r1).mono ?_
 clear kS
 rintro e w2 ⟨u, rfl, fu, r2⟩
 have R2 := Lib.hid (then_below r1 r2)
 have FU := Lib.hid fu
 clear fu r1 r2 q1
 have u1 := w64_of R (by omega)
 go_wp2_with fail
 go_at_call 186
 refine (kO.out w2).mono ?_
 clear kO
 rintro e w3 ⟨v, rfl, fv, r3⟩
 have R3 := Lib.hid (then_below R2.out r3)
 have FU3 := Lib.hid (FU.out.below r3)
 have FV := Lib.hid fv
 clear fv r3
 go_wp2_with fail
 go_ret3
 exact ⟨u, v, rfl, FU3.out, FV.out, R3.out⟩
theorem rdiv_any {w : World} {va vb : Value} {A B : List Nat} (hA : Reads w va A) (hB : Reads w vb B) (hlA : A.length ≤ 80000) (hlB : B.length ≤ 80000) (hSA : Sm A) (hSB : Sm B) :
   Calls Tryz.prog 187 #[va, vb] w fun e w' => ∃ v1 v2, e = .returned (.tuple #[v1, v2, .int .i64 (divE A B)]) ∧ Reads w' v1 (divQ A B) ∧ Reads w' v2 (divR A B) ∧ Below w.heap.size w w' := by
 by_cases h : divOk A B
 · rw [divE, divQ, divR, if_pos h, if_pos h, if_pos h]
   obtain ⟨hca, hcb, h0⟩ := h
   rcases Nat.lt_or_ge (val A) (val B) with h | h
   · exact rdiv_less hA hB (by omega) (by omega) hSA hSB hca hcb h0 h
   · match B, h0 with
     | [d], _ =>
       have hd : 0 < d := by simp [chk] at hcb; omega
       have := rdiv_one hA hB (by omega) hSA hca hd hSB.head (by rw [val_one] at h; exact h)
       rw [val_one]; exact this
     | d :: d2 :: t, _ => exact rdiv_long hA hB hlA hlB hSA hSB hca hcb (by simp) h
 · rw [divE, divQ, divR, if_neg h, if_neg h, if_neg h]
   by_cases h2 : chk A = true ∧ chk B = true
   · rw [if_pos h2]
     have : B = [] := by
       by_cases h3 : B = []
       · exact h3
       · exact absurd ⟨h2.1, h2.2, h3⟩ h
     subst this
     refine (rdiv_zero hA hB (by omega) h2.1).mono ?_
     rintro e w' ⟨rfl, q⟩
     exact ⟨_, _, rfl, Reads.nil _, Reads.nil _, by rw [q]; exact Below.refl _ _⟩
   · rw [if_neg h2]
     refine (rdiv_bad hA hB (by omega) (by omega) ?_).mono ?_
     · cases h3 : chk A with
       | false => exact .inl rfl
       | true =>
         cases h4 : chk B with
         | false => exact .inr rfl
         | true => exact absurd ⟨h3, h4⟩ h2
     · rintro e w' ⟨rfl, q⟩
       exact ⟨_, _, rfl, Reads.nil _, Reads.nil _, by rw [q]; exact Below.refl _ _⟩
theorem rdiv_digs {w : World} {va vb : Value} {X Y : Nat} (hA : Reads w va (digs X)) (hB : Reads w vb (digs Y)) (hlA : (digs X).length ≤ 80000) (hlB : (digs Y).length ≤ 80000) (h0 : Y ≠ 0) :
  Calls Tryz.prog 187 #[va, vb] w fun e w' => ∃ v1 v2, e = .returned (.tuple #[v1, v2, .int .i64 0]) ∧ Reads w' v1 (digs (X / Y)) ∧ Reads w' v2 (digs (X % Y)) ∧ Below w.heap.size w w' := by
 have k := rdiv_any hA hB hlA hlB (sm_digs _) (sm_digs _)
 have h : divOk (digs X) (digs Y) := ⟨chk_digs _, chk_digs _, fun e => h0 (digs_eq_nil.1 e)⟩
 rw [divE, divQ, divR, if_pos h, if_pos h, if_pos h, val_digs, val_digs] at k
 exact k
theorem rgcd_any {w : World} {va vb : Value} {A B : List Nat} (hA : Reads w va A) (hB : Reads w vb B) (hlA : A.length ≤ 80000) (hlB : B.length ≤ 80000) (hSA : Sm A) (hSB : Sm B) :
  Calls Tryz.prog 133 #[va, vb] w fun e w' => ∃ v, e = .returned v ∧ Reads w' v (digs (Nat.gcd (nv A) (nv B))) ∧ Below w.heap.size w w' := by
 have k1 := flip (rfit_any hA (by omega))
 have rA := orzV_reads hA
 have rB := orzV_reads hB
 have kB := Lib.hid (fun (W : World) (hW : Below w.heap.size w W) => flip (rfit_any (hB.below hW) (by omega)))
 have eA : orz A = digs (nv A) := by rw [← val_orz, digs_val (sm_orz hSA) (chk_orz A)]
 have eB : orz B = digs (nv B) := by rw [← val_orz, digs_val (sm_orz hSB) (chk_orz B)]
 rw [eA] at rA
 rw [eB] at rB
 have lA : (digs (nv A)).length ≤ 80000 := eA ▸ Nat.le_trans (orz_length A) hlA
 have lB : (digs (nv B)).length ≤ 80000 := eB ▸ Nat.le_trans (orz_length B) hlB
 generalize nv A = X at *
 generalize nv B = Y at *
 obtain ⟨a1, c1, e1⟩ := rA.form
 obtain ⟨b1, d1, e2⟩ := rB.form
 rw [e1] at k1 rA
 rw [e2] at kB rB
 have kT1 := rtwin_any rA (by omega)
 have kT2 := Lib.hid (fun (W : World) (hW : Below w.heap.size w W) => rtwin_any (rB.below hW) (by omega))
 obtain ⟨x1, x2, rfl⟩ := hA.form
 obtain ⟨y1, y2, rfl⟩ := hB.form
 have LA := Lib.hid lA
 have LB := Lib.hid lB
 obtain ⟨G, hG⟩ : ∃ G, G = Nat.gcd X Y := ⟨_, rfl⟩
 rw [← hG]
 have HG := Lib.hid hG
 clear hG
 clear hA hB e1 e2 eA eB rA rB lA lB hSA hSB hlA hlB
 go_enter Tryz.func133, Tryz.ntmps133
 go_wp2_with fail
 go_at_call 192
 refine k1.mono ?_
 clear k1
 rintro e w' ⟨rfl, hw⟩
 subst w'
 go_wp2_with fail
 go_at_call 203
 refine kT1.mono ?_
 clear kT1
 rintro e w1 ⟨u1, rfl, f1, r1⟩
 obtain ⟨p1, q1, rfl⟩ := f1.reads.form
 have F1 := Lib.hid f1.reads
 have KB := Lib.hid (kB.out w1 r1)
 have KT := Lib.hid (kT2.out w1 r1)
 have R1 := Lib.hid r1
 clear f1 kB kT2 r1
 go_wp2_with fail
 go_at_call 192
 refine KB.out.mono ?_
 clear KB
 rintro e w' ⟨rfl, hw⟩
 subst w'
 go_wp2_with fail
 go_at_call 203
 refine KT.out.mono ?_
 clear KT
 rintro e w2 ⟨u2, rfl, f2, r2⟩
 obtain ⟨p2, q2, rfl⟩ := f2.reads.form
 have F2 := Lib.hid f2.reads
 have F12 := Lib.hid (F1.out.below r2)
 have R2 := Lib.hid (then_below R1.out r2)
 clear f2 r2 F1 R1
 go_wp2_with fail
 go_loopg [0, 1] Y (fun gk x y wr => ∃ (P Q : Nat) (a : Option Addr) (c : Nat) (b : Option Addr) (d : Nat), x = .slice a (digs P).length c ∧ y = .slice b (digs Q).length d ∧ Q = gk ∧ Hid (Reads wr (.slice a (digs P).length c) (digs P) ∧ Reads wr (.slice b (digs Q).length d) (digs Q) ∧ (digs P).length ≤ 80000 ∧ (digs Q).length ≤ 80000 ∧ Nat.gcd P Q = G ∧ Below w.heap.size w wr))
 case atStart => exact ⟨X, Y, _, _, _, _, rfl, rfl, rfl, Lib.hid ⟨F12.out, F2.out, LA.out, LB.out, HG.out.symm, R2.out⟩⟩
 case round =>
  obtain ⟨P, Q, a, c, b, d, rfl, rfl, hQ, H⟩ := hrel
  clear F12 F2 LA LB HG R2
  by_cases h0 : Q = 0
  · have hl : ((digs Q).length : Int) = 0 := by rw [h0, digs_zero]; rfl
    have hl0 : ¬ (0 : Int) < ((digs Q).length : Int) := by omega
    have eG : P = G := by have := H.out.2.2.2.2.1; rw [h0, Nat.gcd_zero_right] at this; exact this
    have EG := Lib.hid eG
    clear h0 hl eG hQ
    go_wp2_with fail
    go_ret
    rw [← EG.out]
    exact ⟨_, rfl, H.out.1, H.out.2.2.2.2.2⟩
  · have hp := digs_len_pos h0
    have hl0 : (0 : Int) < ((digs Q).length : Int) := by omega
    have kd := rdiv_digs H.out.1 H.out.2.1 H.out.2.2.1 H.out.2.2.2.1 h0
    have KD := Lib.hid kd
    have H0 := Lib.hid h0
    have HQ := Lib.hid hQ
    clear kd h0 hp hQ
    go_wp2_with fail
    go_at_call 187
    refine KD.out.mono ?_
    clear KD
    rintro e w3 ⟨v1, v2, rfl, g1, g2, r3⟩
    obtain ⟨s1, t1, rfl⟩ := g1.form
    obtain ⟨s2, t2, rfl⟩ := g2.form
    have hlt : P % Q < Q := Nat.mod_lt _ (Nat.pos_of_ne_zero H0.out)
    have HH := Lib.hid (show Reads w3 (.slice b (digs Q).length d) (digs Q) ∧ Reads w3 (.slice s2 (digs (P % Q)).length t2) (digs (P % Q)) ∧ (digs Q).length ≤ 80000 ∧ (digs (P % Q)).length ≤ 80000 ∧ Nat.gcd Q (P % Q) = G ∧ Below w.heap.size w w3 from
     ⟨H.out.2.1.below r3, g2, H.out.2.2.2.1, Nat.le_trans (digs_mono (Nat.le_of_lt hlt)) H.out.2.2.2.1, by rw [Nat.gcd_comm, ← Nat.gcd_rec, Nat.gcd_comm]; exact H.out.2.2.2.2.1, then_below H.out.2.2.2.2.2 r3⟩)
    obtain ⟨R, hR⟩ : ∃ R, R = P % Q := ⟨_, rfl⟩
    rw [← hR] at HH hlt ⊢
    have HLT := Lib.hid hlt
    clear g1 g2 r3 hR hlt
    go_wp2_with fail
    go_roundg R
    case measure => have := HLT.out; have := HQ.out; omega
    case rel => exact ⟨Q, R, _, _, _, _, rfl, rfl, rfl, HH⟩
section
variable {W : World} {p1 p2 : Option Addr} {q1 q2 : Nat} {s1 s2 s3 : Bool} {L1 L2 L3 : List Nat} {X Y : Int}
theorem p_add (hX : Is s1 L1 X) (hY : Is s2 L2 Y) {Z : Int} (hZ : Can s3 L3 Z) (e : Z = X + Y) (l1 : L1.length ≤ 50000) (l2 : L2.length ≤ 50000) (h1 : Reads W (.slice p1 L1.length q1) L1) (h2 : Reads W (.slice p2 L2.length q2) L2) :
  Calls Tryz.prog 123 #[.agg #[.bool s1, .slice p1 L1.length q1], .agg #[.bool s2, .slice p2 L2.length q2]] W fun e w' => ∃ a c, e = .returned (.agg #[.bool s3, .slice a L3.length c]) ∧ Reads w' (.slice a L3.length c) L3 ∧ Below W.heap.size W w' := by
 obtain ⟨rfl, rfl⟩ := hZ
 exact ri_add Z h1 h2 l1 l2 hX.1 hY.1 (by rw [hX.2, hY.2, e])
theorem p_mul (hX : Is s1 L1 X) (hY : Is s2 L2 Y) {Z : Int} (hZ : Can s3 L3 Z) (e : Z = X * Y) (l1 : L1.length ≤ 50000) (l2 : L2.length ≤ 50000) (h1 : Reads W (.slice p1 L1.length q1) L1) (h2 : Reads W (.slice p2 L2.length q2) L2) :
  Calls Tryz.prog 126 #[.agg #[.bool s1, .slice p1 L1.length q1], .agg #[.bool s2, .slice p2 L2.length q2]] W fun e w' => ∃ a c, e = .returned (.agg #[.bool s3, .slice a L3.length c]) ∧ Reads w' (.slice a L3.length c) L3 ∧ Below W.heap.size W w' := by
 obtain ⟨rfl, rfl⟩ := hZ
 exact ri_mul Z h1 h2 l1 l2 hX.1 hY.1 (by rw [hX.2, hY.2, e])
theorem p_quo {Q : List Nat} {A B C : Nat} (hA : L1 = digs A) (hB : L2 = digs B) (hQ : Q = digs C) (e : A = B * C) (h0 : B ≠ 0) (l1 : L1.length ≤ 80000) (l2 : L2.length ≤ 80000) (h1 : Reads W (.slice p1 L1.length q1) L1) (h2 : Reads W (.slice p2 L2.length q2) L2) :
  Calls Tryz.prog 187 #[.slice p1 L1.length q1, .slice p2 L2.length q2] W fun e w' => ∃ a c b d, e = .returned (.tuple #[.slice a Q.length c, .slice b 0 d, .int .i64 0]) ∧ Reads w' (.slice a Q.length c) Q ∧ Below W.heap.size W w' := by
 subst hA hB hQ
 refine (rdiv_digs h1 h2 l1 l2 h0).mono ?_
 rintro _ w' ⟨v1, v2, rfl, g, g2, hb⟩
 rw [e, Nat.mul_div_cancel_left _ (Nat.pos_of_ne_zero h0)] at g
 rw [e, Nat.mul_mod_right, digs_zero] at g2
 obtain ⟨a, c, rfl⟩ := g.form
 obtain ⟨b, d, rfl⟩ := g2.form
 exact ⟨a, c, b, d, rfl, g, hb⟩
theorem p_gcd {G : List Nat} {A B : Nat} (hA : L1 = digs A) (hB : L2 = digs B) (hG : G = digs (Nat.gcd A B)) (l1 : L1.length ≤ 80000) (l2 : L2.length ≤ 80000) (h1 : Reads W (.slice p1 L1.length q1) L1) (h2 : Reads W (.slice p2 L2.length q2) L2) :
  Calls Tryz.prog 133 #[.slice p1 L1.length q1, .slice p2 L2.length q2] W fun e w' => ∃ a c, e = .returned (.slice a G.length c) ∧ Reads w' (.slice a G.length c) G ∧ Below W.heap.size W w' := by
 subst hA hB hG
 have k := rgcd_any h1 h2 l1 l2 (sm_digs _) (sm_digs _)
 rw [nv_digs, nv_digs] at k
 refine k.mono ?_
 rintro _ w' ⟨v, rfl, g, hb⟩
 obtain ⟨a, c, rfl⟩ := g.form
 exact ⟨a, c, rfl, g, hb⟩
theorem p_nmul {P : List Nat} {A B : Nat} (hA : L1 = digs A) (hB : L2 = digs B) (hP : P = digs (A * B)) (l1 : L1.length ≤ 80000) (l2 : L2.length ≤ 80000) (h1 : Reads W (.slice p1 L1.length q1) L1) (h2 : Reads W (.slice p2 L2.length q2) L2) :
  Calls Tryz.prog 125 #[.slice p1 L1.length q1, .slice p2 L2.length q2] W fun e w' => ∃ a c, e = .returned (.slice a P.length c) ∧ Reads w' (.slice a P.length c) P ∧ Below W.heap.size W w' := by
 subst hA hB hP
 have k := rmul_any h1 h2 (by omega) (by omega) (sm_digs _) (sm_digs _)
 rw [nv_digs, nv_digs] at k
 refine k.mono ?_
 rintro _ w' ⟨v, rfl, g, hb⟩
 obtain ⟨a, c, rfl⟩ := g.form
 exact ⟨a, c, rfl, g, hb⟩
end
theorem digs_single {G : Nat} (h : (digs G).length = 1) : digs G = [G] := by
 cases e : digs G with
 | nil => rw [e] at h; simp at h
 | cons x t =>
  have ht : t = [] := by rw [e] at h; simpa using h
  subst ht
  have := val_digs G
  rw [e, val_one] at this
  rw [this]
theorem rr_lowest {w : World} {p1 p2 : Option Addr} {q1 q2 B : Nat} {s1 sZ : Bool} {L1 L2 LZ DZ : List Nat} {N : Int} {Z : Rat} (cN : Can s1 L1 N) (hB : L2 = digs B) (h0 : B ≠ 0) (kZ : RCan sZ LZ DZ Z) (eZ : Z = (N : Rat) / (((B : Nat) : Int) : Rat)) (l1 : L1.length ≤ 40000) (l2 : L2.length ≤ 40000) (h1 : Reads w (.slice p1 L1.length q1) L1) (h2 : Reads w (.slice p2 L2.length q2) L2) :
  Calls Tryz.prog 122 #[.agg #[.bool s1, .slice p1 L1.length q1], .slice p2 L2.length q2] w fun e w' => ∃ a c a' c', e = .returned (.agg #[.bool sZ, .slice a LZ.length c, .slice a' DZ.length c']) ∧ Reads w' (.slice a LZ.length c) LZ ∧ Reads w' (.slice a' DZ.length c') DZ ∧ Below w.heap.size w w' := by
 obtain ⟨g, d, k, hg, g0, e1, e2, e3, e4⟩ := rmake_parts N (B : Int) (by omega)
 rw [← eZ] at e3 e4
 rw [Int.natAbs_natCast] at hg
 have e2' : B = g * d := by omega
 have eN : N.natAbs = g * k.natAbs := by rw [e1, Int.natAbs_mul, Int.natAbs_natCast]
 obtain ⟨Lg, hLg⟩ : ∃ L, L = digs g := ⟨_, rfl⟩
 have lg : Lg.length ≤ 40000 := by
  rw [hLg]
  have h3 := digs_mono (show g ≤ B by rw [e2']; exact Nat.le_mul_of_pos_right _ (Nat.pos_of_ne_zero (fun e => h0 (by rw [e2', e, Nat.mul_zero]))))
  rw [← hB] at h3; omega
 have hLZ : LZ = digs k.natAbs := by rw [kZ.1.2, e3]
 have hDZ : DZ = digs d := by rw [kZ.2, e4]
 have hs : (s1 && decide (0 < LZ.length)) = sZ := by
  rw [cN.1, kZ.1.1, e3, hLZ, dec_digs]
  have hgp : (0 : Int) < (g : Int) := by omega
  by_cases hk : k = 0
  · subst hk; simp
  · have h5 : 0 < k.natAbs := Int.natAbs_pos.2 hk
    rw [decide_eq_true h5, Bool.and_true, e1]
    by_cases hn : k < 0
    · rw [decide_eq_true hn, decide_eq_true (Int.mul_neg_of_pos_of_neg hgp hn)]
    · rw [decide_eq_false hn, decide_eq_false]
      have := Int.mul_nonneg (Int.le_of_lt hgp) (Int.not_lt.1 hn)
      omega
 have KG := Lib.hid (fun (W : World) (y1 : Reads W (.slice p1 L1.length q1) L1) (y2 : Reads W (.slice p2 L2.length q2) L2) => p_gcd (G := Lg) cN.2 hB (by rw [hLg, hg]) (by omega) (by omega) y1 y2)
 have KA := Lib.hid (fun (W : World) {a : Option Addr} {c : Nat} (y1 : Reads W (.slice p1 L1.length q1) L1) (y2 : Reads W (.slice a Lg.length c) Lg) => p_quo cN.2 hLg hLZ eN g0 (by omega) (by omega) y1 y2)
 have KB := Lib.hid (fun (W : World) {a : Option Addr} {c : Nat} (y1 : Reads W (.slice p2 L2.length q2) L2) (y2 : Reads W (.slice a Lg.length c) Lg) => p_quo hB hLg hDZ e2' g0 (by omega) (by omega) y1 y2)
 have KS := Lib.hid (fun (W : World) (a : Option Addr) (c : Nat) => hs ▸ rsigned_any s1 a LZ.length c W)
 have M : Mem w [(w.heap.size + 1, 30, [.bool false, .slice none 0 0, .slice none 0 0]), (w.heap.size, 28, [.bool s1, .slice p1 L1.length q1])] [(.slice p2 L2.length q2, L2), (.slice p1 L1.length q1, L1)] ((w.alloc (.cells #[.bool s1, .slice p1 L1.length q1] 28)).alloc (.cells #[.bool false, .slice none 0 0, .slice none 0 0] 30)) := by
  have M := (((((Mem.start w).add h1).add h2).new 28 [.bool s1, .slice p1 L1.length q1]).new 30 [.bool false, .slice none 0 0, .slice none 0 0])
  simpa only [World.size_alloc] using M
 clear h1 h2 l1 l2 cN hB h0 kZ eZ hg g0 e1 e2 e3 e4 e2' eN hLg lg hLZ hDZ hs
 go_enter Tryz.func122, Tryz.ntmps122
 have z0 := M.cell 1 rfl 0 rfl; have z1 := M.cell 1 rfl 1 rfl
 go_wp2_with fail
 clear z0 z1
 refine (KG.out _ (M.get 1 rfl) (M.get 0 rfl)).mono ?_
 rintro e w1 ⟨ag, cg, rfl, y, rr⟩
 have M' := (M.up rr).add y; clear M rr y; have M := M'; clear M'
 have z0 := M.cell 1 rfl 0 rfl; have z1 := M.cell 1 rfl 1 rfl
 go_wp2_with fail
 clear z0 z1
 refine (KA.out _ (M.get 2 rfl) (M.get 0 rfl)).mono ?_
 rintro e w2 ⟨aa, ca, b2, d2, rfl, y, rr⟩
 have M' := (M.up rr).add y; clear M rr y; have M := M'; clear M'
 have z0 := M.cell 1 rfl 0 rfl; have z1 := M.cell 1 rfl 1 rfl
 go_wp2_with fail
 clear z0 z1
 refine (KB.out _ (M.get 2 rfl) (M.get 1 rfl)).mono ?_
 rintro e w3 ⟨ab, cb, b3, d3, rfl, y, rr⟩
 have M' := (M.up rr).add y; clear M rr y; have M := M'; clear M'
 have z0 := M.cell 1 rfl 0 rfl; have z1 := M.cell 1 rfl 1 rfl
 go_wp2_with fail
 clear z0 z1
 refine (KS.out _ _ _).mono ?_
 rintro e w4 ⟨rfl, rr⟩
 have M' := M.up rr; clear M rr; have M := M'; clear M'
 have f0 := M.fr 0 rfl 0; have f1 := M.fr 0 rfl 1; have f2 := M.fr 0 rfl 2; have y0 := M.cell 0 rfl 0 rfl; have y1 := M.cell 0 rfl 1 rfl; have y2 := M.cell 0 rfl 2 rfl
 go_wp2_with fail
 have M' := ((M.put 0 rfl rfl 0 (.bool sZ)).put 0 rfl rfl 1 (.slice aa LZ.length ca)).put 0 rfl rfl 2 (.slice ab DZ.length cb)
 refine ret_boxN rfl rfl (M'.box 0 rfl) Tryz.underlying30 size_rat rfl ?_
 exact ⟨aa, ca, ab, cb, rfl, M'.get 1 rfl, M'.get 0 rfl, M'.below⟩
theorem lit_one (W : World) : Reads (W.alloc (.cells #[.int .u32 1] 71)) (.slice (some ⟨W.heap.size, 0, none⟩) 1 1) [1] :=
 (show Fresh (W.alloc (.cells #[.int .u32 1] 71)) W.heap.size (.slice (some ⟨W.heap.size, 0, none⟩) 1 1) [1] from ⟨rfl, .inr ⟨W.heap.size, 1, _, rfl, Nat.le_refl _, World.alloc_heap_new W _, Nat.le_refl _, small_max (by decide), rfl, rfl⟩⟩).reads
theorem digs_one1 : digs 1 = [1] := by rw [digs_pos (by decide)]; simp [digs_zero]
section
variable {w : World} {p1 p2 : Option Addr} {q1 q2 : Nat} {n : Bool} {l d : List Nat}
theorem rr_check_1 (h1 : Reads w (.slice p1 l.length q1) l) (h2 : Reads w (.slice p2 d.length q2) d) (s1 : Sm l) (s2 : Sm d) (l1 : l.length ≤ 70000) (l2 : d.length ≤ 70000) (c1 : ichk n l = false) :
  Calls Tryz.prog 53 #[.agg #[.bool n, .slice p1 l.length q1, .slice p2 d.length q2]] w fun e w' => e = .returned (.bool false) ∧ Below w.heap.size w w' := by
 have kc1 := fun (W : World) (g : Reads W (.slice p1 l.length q1) l) => richeck_any (n := n) g (by omega)
 rw [c1] at kc1
 have M : Mem w [(w.heap.size, 30, [.bool n, .slice p1 l.length q1, .slice p2 d.length q2])] [(.slice p2 d.length q2, d), (.slice p1 l.length q1, l)] (w.alloc (.cells #[.bool n, .slice p1 l.length q1, .slice p2 d.length q2] 30)) := by
  have M := ((((Mem.start w).add h1).add h2).new 30 [.bool n, .slice p1 l.length q1, .slice p2 d.length q2])
  simpa only [World.size_alloc] using M
 clear h1 h2 s1 s2 l1 l2 c1
 go_enter Tryz.func53, Tryz.ntmps53
 have z0_0 := M.cell 0 rfl 0 rfl; have z0_1 := M.cell 0 rfl 1 rfl; have z0_2 := M.cell 0 rfl 2 rfl
 go_wp2_with fail
 go_at_call 131
 refine (kc1 _ (M.get 1 rfl)).mono ?_
 rintro e w1 ⟨rfl, rr⟩
 have M' := M.up rr
 clear M rr z0_0 z0_1 z0_2
 have M := M'; clear M'
 have z0_0 := M.cell 0 rfl 0 rfl; have z0_1 := M.cell 0 rfl 1 rfl; have z0_2 := M.cell 0 rfl 2 rfl
 go_wp2_with fail
 go_ret
 exact ⟨rfl, M.below⟩
theorem rr_check_2 (h1 : Reads w (.slice p1 l.length q1) l) (h2 : Reads w (.slice p2 d.length q2) d) (s1 : Sm l) (s2 : Sm d) (l1 : l.length ≤ 70000) (l2 : d.length ≤ 70000) (c1 : ichk n l = true) (c2 : chk d = false) :
  Calls Tryz.prog 53 #[.agg #[.bool n, .slice p1 l.length q1, .slice p2 d.length q2]] w fun e w' => e = .returned (.bool false) ∧ Below w.heap.size w w' := by
 have kc1 := fun (W : World) (g : Reads W (.slice p1 l.length q1) l) => richeck_any (n := n) g (by omega)
 rw [c1] at kc1
 have kc2 := fun (W : World) (g : Reads W (.slice p2 d.length q2) d) => rnc_any g (by omega)
 rw [c2] at kc2
 have M : Mem w [(w.heap.size, 30, [.bool n, .slice p1 l.length q1, .slice p2 d.length q2])] [(.slice p2 d.length q2, d), (.slice p1 l.length q1, l)] (w.alloc (.cells #[.bool n, .slice p1 l.length q1, .slice p2 d.length q2] 30)) := by
  have M := ((((Mem.start w).add h1).add h2).new 30 [.bool n, .slice p1 l.length q1, .slice p2 d.length q2])
  simpa only [World.size_alloc] using M
 clear h1 h2 s1 s2 l1 l2 c1 c2
 go_enter Tryz.func53, Tryz.ntmps53
 have z0_0 := M.cell 0 rfl 0 rfl; have z0_1 := M.cell 0 rfl 1 rfl; have z0_2 := M.cell 0 rfl 2 rfl
 go_wp2_with fail
 go_at_call 131
 refine (kc1 _ (M.get 1 rfl)).mono ?_
 rintro e w1 ⟨rfl, rr⟩
 have M' := M.up rr
 clear M rr z0_0 z0_1 z0_2
 have M := M'; clear M'
 have z0_0 := M.cell 0 rfl 0 rfl; have z0_1 := M.cell 0 rfl 1 rfl; have z0_2 := M.cell 0 rfl 2 rfl
 go_wp2_with fail
 go_at_call 132
 refine (kc2 _ (M.get 0 rfl)).mono ?_
 rintro e w2 ⟨rfl, hw⟩
 subst w2
 go_wp2_with fail
 go_ret
 exact ⟨rfl, M.below⟩
theorem rr_check_3 (h1 : Reads w (.slice p1 l.length q1) l) (h2 : Reads w (.slice p2 d.length q2) d) (s1 : Sm l) (s2 : Sm d) (l1 : l.length ≤ 70000) (l2 : d.length ≤ 70000) (c1 : ichk n l = true) (c2 : chk d = true) (c3 : d.length = 0) :
  Calls Tryz.prog 53 #[.agg #[.bool n, .slice p1 l.length q1, .slice p2 d.length q2]] w fun e w' => e = .returned (.bool false) ∧ Below w.heap.size w w' := by
 have kc1 := fun (W : World) (g : Reads W (.slice p1 l.length q1) l) => richeck_any (n := n) g (by omega)
 rw [c1] at kc1
 have kc2 := fun (W : World) (g : Reads W (.slice p2 d.length q2) d) => rnc_any g (by omega)
 rw [c2] at kc2
 have hl : ((d.length : Int) == 0) = true := by rw [c3]; rfl
 have M : Mem w [(w.heap.size, 30, [.bool n, .slice p1 l.length q1, .slice p2 d.length q2])] [(.slice p2 d.length q2, d), (.slice p1 l.length q1, l)] (w.alloc (.cells #[.bool n, .slice p1 l.length q1, .slice p2 d.length q2] 30)) := by
  have M := ((((Mem.start w).add h1).add h2).new 30 [.bool n, .slice p1 l.length q1, .slice p2 d.length q2])
  simpa only [World.size_alloc] using M
 clear h1 h2 s1 s2 l1 l2 c1 c2 c3
 go_enter Tryz.func53, Tryz.ntmps53
 have z0_0 := M.cell 0 rfl 0 rfl; have z0_1 := M.cell 0 rfl 1 rfl; have z0_2 := M.cell 0 rfl 2 rfl
 go_wp2_with fail
 go_at_call 131
 refine (kc1 _ (M.get 1 rfl)).mono ?_
 rintro e w1 ⟨rfl, rr⟩
 have M' := M.up rr
 clear M rr z0_0 z0_1 z0_2
 have M := M'; clear M'
 have z0_0 := M.cell 0 rfl 0 rfl; have z0_1 := M.cell 0 rfl 1 rfl; have z0_2 := M.cell 0 rfl 2 rfl
 go_wp2_with fail
 go_at_call 132
 refine (kc2 _ (M.get 0 rfl)).mono ?_
 rintro e w2 ⟨rfl, hw⟩
 subst w2
 go_wp2_with fail
 go_ret
 exact ⟨rfl, M.below⟩
theorem rr_check_4 (h1 : Reads w (.slice p1 l.length q1) l) (h2 : Reads w (.slice p2 d.length q2) d) (s1 : Sm l) (s2 : Sm d) (l1 : l.length ≤ 70000) (l2 : d.length ≤ 70000) (c1 : ichk n l = true) (c2 : chk d = true) (c3 : d.length ≠ 0) (c4 : Nat.gcd (val l) (val d) = 1) :
  Calls Tryz.prog 53 #[.agg #[.bool n, .slice p1 l.length q1, .slice p2 d.length q2]] w fun e w' => e = .returned (.bool true) ∧ Below w.heap.size w w' := by
 have kc1 := fun (W : World) (g : Reads W (.slice p1 l.length q1) l) => richeck_any (n := n) g (by omega)
 rw [c1] at kc1
 have kc2 := fun (W : World) (g : Reads W (.slice p2 d.length q2) d) => rnc_any g (by omega)
 rw [c2] at kc2
 have hl : ((d.length : Int) == 0) = false := beq_eq_false_iff_ne.2 (by omega)
 have k1 : chk l = true := by unfold ichk at c1; simp at c1; exact c1.1
 have eL : l = digs (val l) := (digs_val s1 k1).symm
 have eD : d = digs (val d) := (digs_val s2 c2).symm
 obtain ⟨G, hG⟩ : ∃ G, G = Nat.gcd (val l) (val d) := ⟨_, rfl⟩
 obtain ⟨LG, hLG⟩ : ∃ L, L = digs G := ⟨_, rfl⟩
 have kg := fun (W : World) (g1 : Reads W (.slice p1 l.length q1) l) (g2 : Reads W (.slice p2 d.length q2) d) => p_gcd (G := LG) eL eD (by rw [hLG, hG]) (by omega) (by omega) g1 g2
 rw [← hG] at c4
 have eG : LG = [1] := by rw [hLG, c4]; exact digs_one1
 have M : Mem w [(w.heap.size, 30, [.bool n, .slice p1 l.length q1, .slice p2 d.length q2])] [(.slice p2 d.length q2, d), (.slice p1 l.length q1, l)] (w.alloc (.cells #[.bool n, .slice p1 l.length q1, .slice p2 d.length q2] 30)) := by
  have M := ((((Mem.start w).add h1).add h2).new 30 [.bool n, .slice p1 l.length q1, .slice p2 d.length q2])
  simpa only [World.size_alloc] using M
 clear h1 h2 s1 s2 l1 l2 c1 c2 c3 k1 eL eD hG hLG c4
 go_enter Tryz.func53, Tryz.ntmps53
 have z0_0 := M.cell 0 rfl 0 rfl; have z0_1 := M.cell 0 rfl 1 rfl; have z0_2 := M.cell 0 rfl 2 rfl
 go_wp2_with fail
 go_at_call 131
 refine (kc1 _ (M.get 1 rfl)).mono ?_
 rintro e w1 ⟨rfl, rr⟩
 have M' := M.up rr
 clear M rr z0_0 z0_1 z0_2
 have M := M'; clear M'
 have z0_0 := M.cell 0 rfl 0 rfl; have z0_1 := M.cell 0 rfl 1 rfl; have z0_2 := M.cell 0 rfl 2 rfl
 go_wp2_with fail
 go_at_call 132
 refine (kc2 _ (M.get 0 rfl)).mono ?_
 rintro e w2 ⟨rfl, hw⟩
 subst w2
 go_wp2_with fail
 go_at_call 133
 refine (kg _ (M.get 1 rfl) (M.get 0 rfl)).mono ?_
 rintro e w3 ⟨a, c, rfl, g, rr⟩
 have M' := M.up rr
 clear M rr z0_0 z0_1 z0_2
 have M := M'; clear M'
 rw [eG] at g ⊢
 obtain ⟨bG, oG, hb, hc⟩ := g.addr
 obtain ⟨rfl, _⟩ := hb (by simp)
 have hcell := hc 0 (by simp)
 simp only [Nat.add_zero, List.getD_cons_zero] at hcell
 clear hb hc g eG
 have ln : ([1] : List Nat).length = 1 := rfl
 rw [ln]
 go_wp2_with fail
 go_ret
 exact ⟨rfl, M.below⟩
theorem rr_check_5 (h1 : Reads w (.slice p1 l.length q1) l) (h2 : Reads w (.slice p2 d.length q2) d) (s1 : Sm l) (s2 : Sm d) (l1 : l.length ≤ 70000) (l2 : d.length ≤ 70000) (c1 : ichk n l = true) (c2 : chk d = true) (c3 : d.length ≠ 0) (c4 : Nat.gcd (val l) (val d) ≠ 1) (c5 : (digs (Nat.gcd (val l) (val d))).length = 1) :
  Calls Tryz.prog 53 #[.agg #[.bool n, .slice p1 l.length q1, .slice p2 d.length q2]] w fun e w' => e = .returned (.bool false) ∧ Below w.heap.size w w' := by
 have kc1 := fun (W : World) (g : Reads W (.slice p1 l.length q1) l) => richeck_any (n := n) g (by omega)
 rw [c1] at kc1
 have kc2 := fun (W : World) (g : Reads W (.slice p2 d.length q2) d) => rnc_any g (by omega)
 rw [c2] at kc2
 have hl : ((d.length : Int) == 0) = false := beq_eq_false_iff_ne.2 (by omega)
 have k1 : chk l = true := by unfold ichk at c1; simp at c1; exact c1.1
 have eL : l = digs (val l) := (digs_val s1 k1).symm
 have eD : d = digs (val d) := (digs_val s2 c2).symm
 obtain ⟨G, hG⟩ : ∃ G, G = Nat.gcd (val l) (val d) := ⟨_, rfl⟩
 obtain ⟨LG, hLG⟩ : ∃ L, L = digs G := ⟨_, rfl⟩
 have kg := fun (W : World) (g1 : Reads W (.slice p1 l.length q1) l) (g2 : Reads W (.slice p2 d.length q2) d) => p_gcd (G := LG) eL eD (by rw [hLG, hG]) (by omega) (by omega) g1 g2
 rw [← hG] at c4 c5
 have eG : LG = [G] := by rw [hLG]; exact digs_single c5
 have hg1 : ((G : Int) == 1) = false := beq_eq_false_iff_ne.2 (by omega)
 have hg2 : ¬ (G : Int) = 1 := by omega
 have M : Mem w [(w.heap.size, 30, [.bool n, .slice p1 l.length q1, .slice p2 d.length q2])] [(.slice p2 d.length q2, d), (.slice p1 l.length q1, l)] (w.alloc (.cells #[.bool n, .slice p1 l.length q1, .slice p2 d.length q2] 30)) := by
  have M := ((((Mem.start w).add h1).add h2).new 30 [.bool n, .slice p1 l.length q1, .slice p2 d.length q2])
  simpa only [World.size_alloc] using M
 clear h1 h2 s1 s2 l1 l2 c1 c2 c3 k1 eL eD hG hLG c4 c5
 go_enter Tryz.func53, Tryz.ntmps53
 have z0_0 := M.cell 0 rfl 0 rfl; have z0_1 := M.cell 0 rfl 1 rfl; have z0_2 := M.cell 0 rfl 2 rfl
 go_wp2_with fail
 go_at_call 131
 refine (kc1 _ (M.get 1 rfl)).mono ?_
 rintro e w1 ⟨rfl, rr⟩
 have M' := M.up rr
 clear M rr z0_0 z0_1 z0_2
 have M := M'; clear M'
 have z0_0 := M.cell 0 rfl 0 rfl; have z0_1 := M.cell 0 rfl 1 rfl; have z0_2 := M.cell 0 rfl 2 rfl
 go_wp2_with fail
 go_at_call 132
 refine (kc2 _ (M.get 0 rfl)).mono ?_
 rintro e w2 ⟨rfl, hw⟩
 subst w2
 go_wp2_with fail
 go_at_call 133
 refine (kg _ (M.get 1 rfl) (M.get 0 rfl)).mono ?_
 rintro e w3 ⟨a, c, rfl, g, rr⟩
 have M' := M.up rr
 clear M rr z0_0 z0_1 z0_2
 have M := M'; clear M'
 rw [eG] at g ⊢
 obtain ⟨bG, oG, hb, hc⟩ := g.addr
 obtain ⟨rfl, _⟩ := hb (by simp)
 have hcell := hc 0 (by simp)
 simp only [Nat.add_zero, List.getD_cons_zero] at hcell
 clear hb hc g eG
 have ln : ([G] : List Nat).length = 1 := rfl
 rw [ln]
 go_wp2_with fail
 go_ret
 exact ⟨rfl, M.below⟩
theorem rr_check_6 (h1 : Reads w (.slice p1 l.length q1) l) (h2 : Reads w (.slice p2 d.length q2) d) (s1 : Sm l) (s2 : Sm d) (l1 : l.length ≤ 70000) (l2 : d.length ≤ 70000) (c1 : ichk n l = true) (c2 : chk d = true) (c3 : d.length ≠ 0) (c5 : (digs (Nat.gcd (val l) (val d))).length ≠ 1) :
  Calls Tryz.prog 53 #[.agg #[.bool n, .slice p1 l.length q1, .slice p2 d.length q2]] w fun e w' => e = .returned (.bool false) ∧ Below w.heap.size w w' := by
 have kc1 := fun (W : World) (g : Reads W (.slice p1 l.length q1) l) => richeck_any (n := n) g (by omega)
 rw [c1] at kc1
 have kc2 := fun (W : World) (g : Reads W (.slice p2 d.length q2) d) => rnc_any g (by omega)
 rw [c2] at kc2
 have hl : ((d.length : Int) == 0) = false := beq_eq_false_iff_ne.2 (by omega)
 have k1 : chk l = true := by unfold ichk at c1; simp at c1; exact c1.1
 have eL : l = digs (val l) := (digs_val s1 k1).symm
 have eD : d = digs (val d) := (digs_val s2 c2).symm
 obtain ⟨G, hG⟩ : ∃ G, G = Nat.gcd (val l) (val d) := ⟨_, rfl⟩
 obtain ⟨LG, hLG⟩ : ∃ L, L = digs G := ⟨_, rfl⟩
 have kg := fun (W : World) (g1 : Reads W (.slice p1 l.length q1) l) (g2 : Reads W (.slice p2 d.length q2) d) => p_gcd (G := LG) eL eD (by rw [hLG, hG]) (by omega) (by omega) g1 g2
 rw [← hG, ← hLG] at c5
 have hg1 : ((LG.length : Int) == 1) = false := beq_eq_false_iff_ne.2 (by omega)
 have hg2 : ¬ (LG.length : Int) = 1 := by omega
 have M : Mem w [(w.heap.size, 30, [.bool n, .slice p1 l.length q1, .slice p2 d.length q2])] [(.slice p2 d.length q2, d), (.slice p1 l.length q1, l)] (w.alloc (.cells #[.bool n, .slice p1 l.length q1, .slice p2 d.length q2] 30)) := by
  have M := ((((Mem.start w).add h1).add h2).new 30 [.bool n, .slice p1 l.length q1, .slice p2 d.length q2])
  simpa only [World.size_alloc] using M
 clear h1 h2 s1 s2 l1 l2 c1 c2 c3 k1 eL eD hG hLG c5
 go_enter Tryz.func53, Tryz.ntmps53
 have z0_0 := M.cell 0 rfl 0 rfl; have z0_1 := M.cell 0 rfl 1 rfl; have z0_2 := M.cell 0 rfl 2 rfl
 go_wp2_with fail
 go_at_call 131
 refine (kc1 _ (M.get 1 rfl)).mono ?_
 rintro e w1 ⟨rfl, rr⟩
 have M' := M.up rr
 clear M rr z0_0 z0_1 z0_2
 have M := M'; clear M'
 have z0_0 := M.cell 0 rfl 0 rfl; have z0_1 := M.cell 0 rfl 1 rfl; have z0_2 := M.cell 0 rfl 2 rfl
 go_wp2_with fail
 go_at_call 132
 refine (kc2 _ (M.get 0 rfl)).mono ?_
 rintro e w2 ⟨rfl, hw⟩
 subst w2
 go_wp2_with fail
 go_at_call 133
 refine (kg _ (M.get 1 rfl) (M.get 0 rfl)).mono ?_
 rintro e w3 ⟨a, c, rfl, g, rr⟩
 have M' := M.up rr
 clear M rr z0_0 z0_1 z0_2
 have M := M'; clear M'
 clear g
 go_wp2_with fail
 go_ret
 exact ⟨rfl, M.below⟩
theorem rr_check (h1 : Reads w (.slice p1 l.length q1) l) (h2 : Reads w (.slice p2 d.length q2) d) (s1 : Sm l) (s2 : Sm d) (l1 : l.length ≤ 70000) (l2 : d.length ≤ 70000) :
  Calls Tryz.prog 53 #[.agg #[.bool n, .slice p1 l.length q1, .slice p2 d.length q2]] w fun e w' => e = .returned (.bool (rchk n l d)) ∧ Below w.heap.size w w' := by
 unfold rchk
 cases c1 : ichk n l with
 | false => exact rr_check_1 h1 h2 s1 s2 l1 l2 c1
 | true =>
  cases c2 : chk d with
  | false => exact rr_check_2 h1 h2 s1 s2 l1 l2 c1 c2
  | true =>
   by_cases c3 : d.length = 0
   · rw [show decide (0 < d.length) = false from decide_eq_false (by omega)]
     exact rr_check_3 h1 h2 s1 s2 l1 l2 c1 c2 c3
   · rw [show decide (0 < d.length) = true from decide_eq_true (by omega)]
     by_cases c4 : Nat.gcd (val l) (val d) = 1
     · rw [show decide (Nat.gcd (val l) (val d) = 1) = true by simp [c4]]
       exact rr_check_4 h1 h2 s1 s2 l1 l2 c1 c2 c3 c4
     · rw [show decide (Nat.gcd (val l) (val d) = 1) = false by simp [c4]]
       by_cases c5 : (digs (Nat.gcd (val l) (val d))).length = 1
       · exact rr_check_5 h1 h2 s1 s2 l1 l2 c1 c2 c3 c4 c5
       · exact rr_check_6 h1 h2 s1 s2 l1 l2 c1 c2 c3 c5
end
section
variable {w : World} {p1 p2 : Option Addr} {q1 q2 : Nat} {n : Bool} {l d : List Nat}
theorem rr_fit_ok {s : Bool} {L D : List Nat} {X : Rat} (hX : RIs n l d X) (cX : RCan s L D X) (l1 : l.length ≤ 70000) (l2 : d.length ≤ 70000) (h1 : Reads w (.slice p1 l.length q1) l) (h2 : Reads w (.slice p2 d.length q2) d) (hc : rchk n l d = true) :
  Calls Tryz.prog 121 #[.agg #[.bool n, .slice p1 l.length q1, .slice p2 d.length q2]] w fun e w' => ∃ a c a' c', e = .returned (.agg #[.bool s, .slice a L.length c, .slice a' D.length c']) ∧ Reads w' (.slice a L.length c) L ∧ Reads w' (.slice a' D.length c') D ∧ Below w.heap.size w w' := by
 have kc := fun (W : World) (g1 : Reads W (.slice p1 l.length q1) l) (g2 : Reads W (.slice p2 d.length q2) d) => rr_check (n := n) g1 g2 hX.1 hX.2.1 l1 l2
 rw [hc] at kc
 obtain ⟨rfl, rfl, rfl⟩ := (hX.can hc).uniq cX
 have M : Mem w [(w.heap.size + 1, 30, [.bool false, .slice none 0 0, .slice none 0 0]), (w.heap.size, 30, [.bool n, .slice p1 l.length q1, .slice p2 d.length q2])] [(.slice p2 d.length q2, d), (.slice p1 l.length q1, l)] ((w.alloc (.cells #[.bool n, .slice p1 l.length q1, .slice p2 d.length q2] 30)).alloc (.cells #[.bool false, .slice none 0 0, .slice none 0 0] 30)) := by
  have M := (((((Mem.start w).add h1).add h2).new 30 [.bool n, .slice p1 l.length q1, .slice p2 d.length q2]).new 30 [.bool false, .slice none 0 0, .slice none 0 0])
  simpa only [World.size_alloc] using M
 clear hX cX l1 l2 h1 h2 hc
 go_enter Tryz.func121, Tryz.ntmps121
 have z1_0 := M.cell 1 rfl 0 rfl; have z1_1 := M.cell 1 rfl 1 rfl; have z1_2 := M.cell 1 rfl 2 rfl
 go_wp2_with fail
 go_at_call 53
 refine (kc _ (M.get 1 rfl) (M.get 0 rfl)).mono ?_
 rintro e w1 ⟨rfl, rr⟩
 have M' := M.up rr
 clear M rr kc z1_0 z1_1 z1_2
 have M := M'; clear M'
 have z0_0 := M.cell 0 rfl 0 rfl; have z0_1 := M.cell 0 rfl 1 rfl; have z0_2 := M.cell 0 rfl 2 rfl; have z1_0 := M.cell 1 rfl 0 rfl; have z1_1 := M.cell 1 rfl 1 rfl; have z1_2 := M.cell 1 rfl 2 rfl
 have f0_0 := M.fr 0 rfl 0; have f0_1 := M.fr 0 rfl 1; have f0_2 := M.fr 0 rfl 2
 go_wp2_with fail
 have M' := ((M.put 0 rfl rfl 0 (.bool n)).put 0 rfl rfl 1 (.slice p1 l.length q1)).put 0 rfl rfl 2 (.slice p2 d.length q2)
 refine ret_boxN rfl rfl (M'.box 0 rfl) Tryz.underlying30 size_rat rfl ?_
 exact ⟨p1, q1, p2, q2, rfl, M'.get 1 rfl, M'.get 0 rfl, M'.below⟩
theorem rr_fit_no {s : Bool} {L D : List Nat} {X : Rat} (hX : RIs n l d X) (cX : RCan s L D X) (l1 : l.length ≤ 70000) (l2 : d.length ≤ 70000) (h1 : Reads w (.slice p1 l.length q1) l) (h2 : Reads w (.slice p2 d.length q2) d) (hc : rchk n l d = false) :
  Calls Tryz.prog 121 #[.agg #[.bool n, .slice p1 l.length q1, .slice p2 d.length q2]] w fun e w' => ∃ a c a' c', e = .returned (.agg #[.bool s, .slice a L.length c, .slice a' D.length c']) ∧ Reads w' (.slice a L.length c) L ∧ Reads w' (.slice a' D.length c') D ∧ Below w.heap.size w w' := by
 have kc := fun (W : World) (g1 : Reads W (.slice p1 l.length q1) l) (g2 : Reads W (.slice p2 d.length q2) d) => rr_check (n := n) g1 g2 hX.1 hX.2.1 l1 l2
 rw [hc] at kc
 obtain rfl := hX.zero hc
 obtain ⟨rfl, rfl, rfl⟩ := rcan_zero cX
 have M : Mem w [(w.heap.size + 1, 30, [.bool false, .slice none 0 0, .slice none 0 0]), (w.heap.size, 30, [.bool n, .slice p1 l.length q1, .slice p2 d.length q2])] [(.slice p2 d.length q2, d), (.slice p1 l.length q1, l)] ((w.alloc (.cells #[.bool n, .slice p1 l.length q1, .slice p2 d.length q2] 30)).alloc (.cells #[.bool false, .slice none 0 0, .slice none 0 0] 30)) := by
  have M := (((((Mem.start w).add h1).add h2).new 30 [.bool n, .slice p1 l.length q1, .slice p2 d.length q2]).new 30 [.bool false, .slice none 0 0, .slice none 0 0])
  simpa only [World.size_alloc] using M
 clear hX cX l1 l2 h1 h2 hc
 rw [digs_one1]
 go_enter Tryz.func121, Tryz.ntmps121
 have z1_0 := M.cell 1 rfl 0 rfl; have z1_1 := M.cell 1 rfl 1 rfl; have z1_2 := M.cell 1 rfl 2 rfl
 go_wp2_with fail
 go_at_call 53
 refine (kc _ (M.get 1 rfl) (M.get 0 rfl)).mono ?_
 rintro e w1 ⟨rfl, rr⟩
 have M' := M.up rr
 clear M rr kc z1_0 z1_1 z1_2
 have M := M'; clear M'
 have M1 := ((M.put 0 rfl rfl 0 (.bool false)).put 0 rfl rfl 1 (.slice none 0 0)).put 0 rfl rfl 2 (.slice (some ⟨w1.heap.size, 0, none⟩) 1 1)
 have hf := lit_one (((w1.setCell ⟨w.heap.size + 1, 0, none⟩ (.bool false)).setCell ⟨w.heap.size + 1, 1, none⟩ (.slice none 0 0)).setCell ⟨w.heap.size + 1, 2, none⟩ (.slice (some ⟨w1.heap.size, 0, none⟩) 1 1))
 have hs3 : (((w1.setCell ⟨w.heap.size + 1, 0, none⟩ (.bool false)).setCell ⟨w.heap.size + 1, 1, none⟩ (.slice none 0 0)).setCell ⟨w.heap.size + 1, 2, none⟩ (.slice (some ⟨w1.heap.size, 0, none⟩) 1 1)).heap.size = w1.heap.size := by simp
 rw [hs3] at hf
 have M' := (M1.up ((Below.refl _ _).alloc (Nat.le_refl _) (.cells #[.int .u32 1] 71))).add hf
 have z0 := M.cell 0 rfl 0 rfl; have z1 := M.cell 0 rfl 1 rfl; have z2 := M.cell 0 rfl 2 rfl
 have f0 := M.fr 0 rfl 0; have f1 := M.fr 0 rfl 1; have f2 := M.fr 0 rfl 2
 have q0 := M.lt (k := 0) rfl
 clear M M1 hf hs3
 go_wp2_with fail
 refine ret_boxN rfl rfl (M'.box 0 rfl) Tryz.underlying30 size_rat rfl ?_
 exact ⟨none, 0, some ⟨w1.heap.size, 0, none⟩, 1, rfl, Reads.nil _, M'.get 0 rfl, M'.below⟩
theorem rr_fit {s : Bool} {L D : List Nat} {X : Rat} (hX : RIs n l d X) (cX : RCan s L D X) (l1 : l.length ≤ 70000) (l2 : d.length ≤ 70000) (h1 : Reads w (.slice p1 l.length q1) l) (h2 : Reads w (.slice p2 d.length q2) d) :
  Calls Tryz.prog 121 #[.agg #[.bool n, .slice p1 l.length q1, .slice p2 d.length q2]] w fun e w' => ∃ a c a' c', e = .returned (.agg #[.bool s, .slice a L.length c, .slice a' D.length c']) ∧ Reads w' (.slice a L.length c) L ∧ Reads w' (.slice a' D.length c') D ∧ Below w.heap.size w w' := by
 cases hc : rchk n l d with
 | true => exact rr_fit_ok hX cX l1 l2 h1 h2 hc
 | false => exact rr_fit_no hX cX l1 l2 h1 h2 hc
end
theorem rr_times {w : World} {p1 p2 : Option Addr} {q1 q2 B : Nat} {s1 s3 : Bool} {L1 L2 L3 : List Nat} {N P : Int} (cN : Can s1 L1 N) (hB : L2 = digs B) (cP : Can s3 L3 P) (e : P = N * ((B : Nat) : Int)) (l1 : L1.length ≤ 50000) (l2 : L2.length ≤ 50000) (h1 : Reads w (.slice p1 L1.length q1) L1) (h2 : Reads w (.slice p2 L2.length q2) L2) :
  Calls Tryz.prog 124 #[.agg #[.bool s1, .slice p1 L1.length q1], .slice p2 L2.length q2] w fun e w' => ∃ a c, e = .returned (.agg #[.bool s3, .slice a L3.length c]) ∧ Reads w' (.slice a L3.length c) L3 ∧ Below w.heap.size w w' := by
 have cB : Can false L2 ((B : Nat) : Int) := ⟨by simp, by rw [hB]; simp⟩
 have K := Lib.hid (fun (W : World) (y1 : Reads W (.slice p1 L1.length q1) L1) (y2 : Reads W (.slice p2 L2.length q2) L2) => p_mul cN.is cB.is cP e l1 l2 y1 y2)
 have M : Mem w [(w.heap.size + 1, 28, [.bool false, .slice none 0 0]), (w.heap.size, 28, [.bool s1, .slice p1 L1.length q1])] [(.slice p2 L2.length q2, L2), (.slice p1 L1.length q1, L1)] ((w.alloc (.cells #[.bool s1, .slice p1 L1.length q1] 28)).alloc (.cells #[.bool false, .slice none 0 0] 28)) := by
  have M := (((((Mem.start w).add h1).add h2).new 28 [.bool s1, .slice p1 L1.length q1]).new 28 [.bool false, .slice none 0 0])
  simpa only [World.size_alloc] using M
 clear cN hB cP e l1 l2 cB h1 h2
 go_enter Tryz.func124, Tryz.ntmps124
 have z0 := M.cell 1 rfl 0 rfl; have z1 := M.cell 1 rfl 1 rfl
 go_wp2_with fail
 clear z0 z1
 refine (K.out _ (M.get 1 rfl) (M.get 0 rfl)).mono ?_
 rintro e w1 ⟨a, c, rfl, y, rr⟩
 have M' := (M.up rr).add y; clear M rr y; have M := M'; clear M'
 have z0 := M.cell 0 rfl 0 rfl; have z1 := M.cell 0 rfl 1 rfl; have f0 := M.fr 0 rfl 0; have f1 := M.fr 0 rfl 1
 go_wp2_with fail
 have M' := (M.put 0 rfl rfl 0 (.bool s3)).put 0 rfl rfl 1 (.slice a L3.length c)
 refine ret_boxN rfl rfl (M'.box 0 rfl) Tryz.underlying28 size_int rfl ?_
 exact ⟨a, c, rfl, M'.get 0 rfl, M'.below⟩
theorem rr_sum_eq (X Y : Rat) : X + Y = ((X.num * ((Y.den : Nat) : Int) + Y.num * ((X.den : Nat) : Int) : Int) : Rat) / (((X.den * Y.den : Nat) : Int) : Rat) := by
 have h1 := rat_den X
 have h2 := rat_den Y
 have n1 := rnz X.den_nz
 have n2 := rnz Y.den_nz
 rw [Rat.intCast_natCast, Rat.natCast_mul, Rat.intCast_add, Rat.intCast_mul, Rat.intCast_mul, Rat.intCast_natCast, Rat.intCast_natCast]
 generalize ((X.num : Int) : Rat) = a at *
 generalize ((X.den : Nat) : Rat) = b at *
 generalize ((Y.num : Int) : Rat) = c at *
 generalize ((Y.den : Nat) : Rat) = d at *
 have h3 : X = a / b := by grind
 have h4 : Y = c / d := by grind
 rw [h3, h4]
 grind
theorem rr_mul_eq (X Y : Rat) : X * Y = ((X.num * Y.num : Int) : Rat) / (((X.den * Y.den : Nat) : Int) : Rat) := by
 have h1 := rat_den X
 have h2 := rat_den Y
 have n1 := rnz X.den_nz
 have n2 := rnz Y.den_nz
 rw [Rat.intCast_natCast, Rat.natCast_mul, Rat.intCast_mul]
 generalize ((X.num : Int) : Rat) = a at *
 generalize ((X.den : Nat) : Rat) = b at *
 generalize ((Y.num : Int) : Rat) = c at *
 generalize ((Y.den : Nat) : Rat) = d at *
 have h3 : X = a / b := by grind
 have h4 : Y = c / d := by grind
 rw [h3, h4]
 grind
theorem rr_mul {w : World} {p1 o1 p2 o2 : Option Addr} {q1 r1 q2 r2 : Nat} {n1 n2 : Bool} {l1 d1 l2 d2 : List Nat} {X Y : Rat} {sZ : Bool} {LZ DZ : List Nat} {Z : Rat} (kZ : RCan sZ LZ DZ Z) (eZ : Z = X * Y) (hX : RIs n1 l1 d1 X) (hY : RIs n2 l2 d2 Y) (b1 : l1.length ≤ 9999) (b2 : d1.length ≤ 9999) (b3 : l2.length ≤ 9999) (b4 : d2.length ≤ 9999) (g1 : Reads w (.slice p1 l1.length q1) l1) (g2 : Reads w (.slice o1 d1.length r1) d1) (g3 : Reads w (.slice p2 l2.length q2) l2) (g4 : Reads w (.slice o2 d2.length r2) d2) :
  Calls Tryz.prog 49 #[.agg #[.bool n1, .slice p1 l1.length q1, .slice o1 d1.length r1], .agg #[.bool n2, .slice p2 l2.length q2, .slice o2 d2.length r2]] w fun e w' => ∃ a c a' c', e = .returned (.agg #[.bool sZ, .slice a LZ.length c, .slice a' DZ.length c']) ∧ Reads w' (.slice a LZ.length c) LZ ∧ Reads w' (.slice a' DZ.length c') DZ ∧ Below w.heap.size w w' := by
 obtain ⟨sX, LX, DX, kX⟩ := RCan.ex X
 have lX := hX.lens kX
 obtain ⟨sY, LY, DY, kY⟩ := RCan.ex Y
 have lY := hY.lens kY
 have KFX := Lib.hid (fun (W : World) (y1 : Reads W (.slice p1 l1.length q1) l1) (y2 : Reads W (.slice o1 d1.length r1) d1) => rr_fit hX kX (by omega) (by omega) y1 y2)
 have KFY := Lib.hid (fun (W : World) (y1 : Reads W (.slice p2 l2.length q2) l2) (y2 : Reads W (.slice o2 d2.length r2) d2) => rr_fit hY kY (by omega) (by omega) y1 y2)
 obtain ⟨B, hB⟩ : ∃ B, B = X.den * Y.den := ⟨_, rfl⟩
 obtain ⟨LB, hLB⟩ : ∃ L, L = digs B := ⟨_, rfl⟩
 have hB0 : B ≠ 0 := by rw [hB]; exact Nat.mul_ne_zero X.den_nz Y.den_nz
 have lB : LB.length ≤ 20000 := by
  have h6 := digs_mul_le X.den Y.den
  rw [← kX.2, ← kY.2] at h6
  rw [hLB, hB]
  omega
 have KB := Lib.hid (fun (W : World) {a b : Option Addr} {c d : Nat} (y1 : Reads W (.slice a DX.length c) DX) (y2 : Reads W (.slice b DY.length d) DY) => p_nmul (P := LB) kX.2 kY.2 (by rw [hLB, hB]) (by omega) (by omega) y1 y2)
 obtain ⟨sP, LP, cP⟩ := Can.ex (X.num * Y.num)
 have lP : LP.length ≤ 20000 := by
  have h6 := digs_mul_le X.num.natAbs Y.num.natAbs
  rw [← kX.1.2, ← kY.1.2] at h6
  rw [cP.2, Int.natAbs_mul]
  omega
 have KP := Lib.hid (fun (W : World) {a b : Option Addr} {c d : Nat} (y1 : Reads W (.slice a LX.length c) LX) (y2 : Reads W (.slice b LY.length d) LY) => p_mul kX.1.is kY.1.is cP rfl (by omega) (by omega) y1 y2)
 have KL := Lib.hid (fun (W : World) {a b : Option Addr} {c d : Nat} (y1 : Reads W (.slice a LP.length c) LP) (y2 : Reads W (.slice b LB.length d) LB) => rr_lowest cP hLB hB0 kZ (by rw [eZ, hB]; exact rr_mul_eq X Y) (by omega) (by omega) y1 y2)
 have M : Mem w [(w.heap.size + 1 + 1, 30, [.bool false, .slice none 0 0, .slice none 0 0]), (w.heap.size + 1, 30, [.bool n2, .slice p2 l2.length q2, .slice o2 d2.length r2]), (w.heap.size, 30, [.bool n1, .slice p1 l1.length q1, .slice o1 d1.length r1])] [(.slice o2 d2.length r2, d2), (.slice p2 l2.length q2, l2), (.slice o1 d1.length r1, d1), (.slice p1 l1.length q1, l1)] (((w.alloc (.cells #[.bool n1, .slice p1 l1.length q1, .slice o1 d1.length r1] 30)).alloc (.cells #[.bool n2, .slice p2 l2.length q2, .slice o2 d2.length r2] 30)).alloc (.cells #[.bool false, .slice none 0 0, .slice none 0 0] 30)) := by
  have M := ((((((((Mem.start w).add g1).add g2).add g3).add g4).new 30 [.bool n1, .slice p1 l1.length q1, .slice o1 d1.length r1]).new 30 [.bool n2, .slice p2 l2.length q2, .slice o2 d2.length r2]).new 30 [.bool false, .slice none 0 0, .slice none 0 0])
  simpa only [World.size_alloc] using M
 clear g1 g2 g3 g4 b1 b2 b3 b4 hX hY kX kY lX lY hB hLB hB0 lB cP lP kZ eZ
 go_enter Tryz.func49, Tryz.ntmps49
 have z0_0 := M.cell 0 rfl 0 rfl; have z0_1 := M.cell 0 rfl 1 rfl; have z0_2 := M.cell 0 rfl 2 rfl; have z1_0 := M.cell 1 rfl 0 rfl; have z1_1 := M.cell 1 rfl 1 rfl; have z1_2 := M.cell 1 rfl 2 rfl; have z2_0 := M.cell 2 rfl 0 rfl; have z2_1 := M.cell 2 rfl 1 rfl; have z2_2 := M.cell 2 rfl 2 rfl
 go_wp2_with fail
 clear z0_0 z0_1 z0_2 z1_0 z1_1 z1_2 z2_0 z2_1 z2_2
 refine (KFX.out _ (M.get 3 rfl) (M.get 2 rfl)).mono ?_
 rintro e w1 ⟨aX, cX, oX, rX, rfl, g, g', rr⟩
 have M' := ((M.up rr).add g).add g'; clear M rr g g'; have M := M'; clear M'
 have z0_0 := M.cell 0 rfl 0 rfl; have z0_1 := M.cell 0 rfl 1 rfl; have z0_2 := M.cell 0 rfl 2 rfl; have z1_0 := M.cell 1 rfl 0 rfl; have z1_1 := M.cell 1 rfl 1 rfl; have z1_2 := M.cell 1 rfl 2 rfl; have z2_0 := M.cell 2 rfl 0 rfl; have z2_1 := M.cell 2 rfl 1 rfl; have z2_2 := M.cell 2 rfl 2 rfl
 have f2_0 := M.fr 2 rfl 0; have f2_1 := M.fr 2 rfl 1; have f2_2 := M.fr 2 rfl 2
 go_wp2_with fail
 clear z0_0 z0_1 z0_2 z1_0 z1_1 z1_2 z2_0 z2_1 z2_2 f2_0 f2_1 f2_2
 have M' := (((M.put 2 rfl rfl 0 (.bool sX)).put 2 rfl rfl 1 (.slice aX LX.length cX)).put 2 rfl rfl 2 (.slice oX DX.length rX))
 clear M
 simp only [List.set_cons_zero, List.set_cons_succ] at M'
 have M := M'
 clear M'
 refine (KFY.out _ (M.get 3 rfl) (M.get 2 rfl)).mono ?_
 rintro e w2 ⟨aY, cY, oY, rY, rfl, g, g', rr⟩
 have M' := ((M.up rr).add g).add g'; clear M rr g g'; have M := M'; clear M'
 have z0_0 := M.cell 0 rfl 0 rfl; have z0_1 := M.cell 0 rfl 1 rfl; have z0_2 := M.cell 0 rfl 2 rfl; have z1_0 := M.cell 1 rfl 0 rfl; have z1_1 := M.cell 1 rfl 1 rfl; have z1_2 := M.cell 1 rfl 2 rfl; have z2_0 := M.cell 2 rfl 0 rfl; have z2_1 := M.cell 2 rfl 1 rfl; have z2_2 := M.cell 2 rfl 2 rfl
 have f1_0 := M.fr 1 rfl 0; have f1_1 := M.fr 1 rfl 1; have f1_2 := M.fr 1 rfl 2
 go_wp2_with fail
 clear z0_0 z0_1 z0_2 z1_0 z1_1 z1_2 z2_0 z2_1 z2_2 f1_0 f1_1 f1_2
 have M' := (((M.put 1 rfl rfl 0 (.bool sY)).put 1 rfl rfl 1 (.slice aY LY.length cY)).put 1 rfl rfl 2 (.slice oY DY.length rY))
 clear M
 simp only [List.set_cons_zero, List.set_cons_succ] at M'
 have M := M'
 clear M'
 refine region_mem (S := (fun W => BoxN W (w.heap.size) 30 #[.bool sX, .slice aX LX.length cX, .slice oX DX.length rX] ∧ BoxN W (w.heap.size + 1) 30 #[.bool sY, .slice aY LY.length cY, .slice oY DY.length rY])) M (by kernel_rfl) ?_
 intro V0 M
 have hS0 : (fun W => BoxN W (w.heap.size) 30 #[.bool sX, .slice aX LX.length cX, .slice oX DX.length rX] ∧ BoxN W (w.heap.size + 1) 30 #[.bool sY, .slice aY LY.length cY, .slice oY DY.length rY]) V0 := ⟨M.box 2 rfl, M.box 1 rfl⟩
 refine wtk 0 (.pointer (some ⟨w.heap.size, 0, none⟩)) rfl (fun _ _ _ h => h) (Or.inl ⟨by rfl, fun W3 hS => by go_simp⟩) hS0 ?_
 try simp only [Act.put, List.setIfInBounds_toArray, List.set_cons_zero, List.set_cons_succ]
 refine wtk 1 (.agg #[.bool sX, .slice aX LX.length cX]) rfl (fun _ _ _ h => h) (Or.inl ⟨by rfl, fun W3 hS => by obtain ⟨hS1, hS2⟩ := hS; have c1_0 := hS1.cell 0 _ rfl; have c1_1 := hS1.cell 1 _ rfl; have c1_2 := hS1.cell 2 _ rfl; go_simp⟩) hS0 ?_
 try simp only [Act.put, List.setIfInBounds_toArray, List.set_cons_zero, List.set_cons_succ]
 refine wtk 2 (.pointer (some ⟨w.heap.size + 1, 0, none⟩)) rfl (fun _ _ _ h => h) (Or.inl ⟨by rfl, fun W3 hS => by go_simp⟩) hS0 ?_
 try simp only [Act.put, List.setIfInBounds_toArray, List.set_cons_zero, List.set_cons_succ]
 refine wtk 3 (.agg #[.bool sY, .slice aY LY.length cY]) rfl (fun _ _ _ h => h) (Or.inl ⟨by rfl, fun W3 hS => by obtain ⟨hS1, hS2⟩ := hS; have c2_0 := hS2.cell 0 _ rfl; have c2_1 := hS2.cell 1 _ rfl; have c2_2 := hS2.cell 2 _ rfl; go_simp⟩) hS0 ?_
 try simp only [Act.put, List.setIfInBounds_toArray, List.set_cons_zero, List.set_cons_succ]
 refine wtk 5 (.pointer (some ⟨w.heap.size, 2, none⟩)) rfl (fun _ _ _ h => h) (Or.inl ⟨by rfl, fun W3 hS => by go_simp⟩) hS0 ?_
 try simp only [Act.put, List.setIfInBounds_toArray, List.set_cons_zero, List.set_cons_succ]
 refine wtk 6 (.slice oX DX.length rX) rfl (fun _ _ _ h => h) (Or.inl ⟨by rfl, fun W3 hS => by obtain ⟨hS1, hS2⟩ := hS; have c1_0 := hS1.cell 0 _ rfl; have c1_1 := hS1.cell 1 _ rfl; have c1_2 := hS1.cell 2 _ rfl; go_simp⟩) hS0 ?_
 try simp only [Act.put, List.setIfInBounds_toArray, List.set_cons_zero, List.set_cons_succ]
 refine wtk 7 (.pointer (some ⟨w.heap.size + 1, 2, none⟩)) rfl (fun _ _ _ h => h) (Or.inl ⟨by rfl, fun W3 hS => by go_simp⟩) hS0 ?_
 try simp only [Act.put, List.setIfInBounds_toArray, List.set_cons_zero, List.set_cons_succ]
 refine wtk 8 (.slice oY DY.length rY) rfl (fun _ _ _ h => h) (Or.inl ⟨by rfl, fun W3 hS => by obtain ⟨hS1, hS2⟩ := hS; have c2_0 := hS2.cell 0 _ rfl; have c2_1 := hS2.cell 1 _ rfl; have c2_2 := hS2.cell 2 _ rfl; go_simp⟩) hS0 ?_
 try simp only [Act.put, List.setIfInBounds_toArray, List.set_cons_zero, List.set_cons_succ]
 clear hS0
 refine one_op 4 rfl (fun K1 hK => ?_)
 go_simp
 refine (KP.out _ (M.get 3 rfl) (M.get 1 rfl)).mono ?_
 rintro e V1_4 ⟨a1, c1, rfl, g, rr⟩
 have M' := (M.up rr).add g
 clear M rr g
 have M := M'; clear M'
 refine hK _ _ ⟨⟨M.box 2 rfl, M.box 1 rfl⟩, ?_⟩
 clear hK K1
 refine one_op 9 rfl (fun K2 hK => ?_)
 go_simp
 refine (KB.out _ (M.get 3 rfl) (M.get 1 rfl)).mono ?_
 rintro e V2_9 ⟨a2, c2, rfl, g, rr⟩
 have M' := (M.up rr).add g
 clear M rr g
 have M := M'; clear M'
 refine hK _ _ ⟨⟨M.box 2 rfl, M.box 1 rfl⟩, ?_⟩
 clear hK K2
 refine one_op 10 rfl (fun K3 hK => ?_)
 go_simp
 refine (KL.out _ (M.get 1 rfl) (M.get 0 rfl)).mono ?_
 rintro e V3_10 ⟨a, c, a', c', rfl, g, g', rr⟩
 have M' := ((M.up rr).add g).add g'
 clear M rr g g'
 have M := M'; clear M'
 refine hK _ _ ⟨⟨M.box 2 rfl, M.box 1 rfl⟩, ?_⟩
 clear hK K3
 have f0_0 := M.fr 0 rfl 0; have f0_1 := M.fr 0 rfl 1; have f0_2 := M.fr 0 rfl 2
 have z0_0 := M.cell 0 rfl 0 rfl; have z0_1 := M.cell 0 rfl 1 rfl; have z0_2 := M.cell 0 rfl 2 rfl
 refine one_op 11 rfl (fun Ks4 hK => ?_)
 go_simp
 have M' := (((M.put 0 rfl rfl 0 (.bool sZ)).put 0 rfl rfl 1 (.slice a LZ.length c)).put 0 rfl rfl 2 (.slice a' DZ.length c'))
 clear M f0_0 z0_0 f0_1 z0_1 f0_2 z0_2
 simp only [List.set_cons_zero, List.set_cons_succ] at M'
 have M := M'
 clear M'
 refine hK _ _ ⟨⟨M.box 2 rfl, M.box 1 rfl⟩, ?_⟩
 clear hK Ks4
 refine wdn ?_
 go_wp2
 refine ret_boxN rfl rfl (M.box 0 rfl) Tryz.underlying30 size_rat rfl ?_
 exact ⟨a, c, a', c', rfl, M.get 1 rfl, M.get 0 rfl, M.below⟩
theorem rr_add {w : World} {p1 o1 p2 o2 : Option Addr} {q1 r1 q2 r2 : Nat} {n1 n2 : Bool} {l1 d1 l2 d2 : List Nat} {X Y : Rat} {sZ : Bool} {LZ DZ : List Nat} {Z : Rat} (kZ : RCan sZ LZ DZ Z) (eZ : Z = X + Y) (hX : RIs n1 l1 d1 X) (hY : RIs n2 l2 d2 Y) (b1 : l1.length ≤ 9999) (b2 : d1.length ≤ 9999) (b3 : l2.length ≤ 9999) (b4 : d2.length ≤ 9999) (g1 : Reads w (.slice p1 l1.length q1) l1) (g2 : Reads w (.slice o1 d1.length r1) d1) (g3 : Reads w (.slice p2 l2.length q2) l2) (g4 : Reads w (.slice o2 d2.length r2) d2) :
  Calls Tryz.prog 48 #[.agg #[.bool n1, .slice p1 l1.length q1, .slice o1 d1.length r1], .agg #[.bool n2, .slice p2 l2.length q2, .slice o2 d2.length r2]] w fun e w' => ∃ a c a' c', e = .returned (.agg #[.bool sZ, .slice a LZ.length c, .slice a' DZ.length c']) ∧ Reads w' (.slice a LZ.length c) LZ ∧ Reads w' (.slice a' DZ.length c') DZ ∧ Below w.heap.size w w' := by
 obtain ⟨sX, LX, DX, kX⟩ := RCan.ex X
 have lX := hX.lens kX
 obtain ⟨sY, LY, DY, kY⟩ := RCan.ex Y
 have lY := hY.lens kY
 have KFX := Lib.hid (fun (W : World) (y1 : Reads W (.slice p1 l1.length q1) l1) (y2 : Reads W (.slice o1 d1.length r1) d1) => rr_fit hX kX (by omega) (by omega) y1 y2)
 have KFY := Lib.hid (fun (W : World) (y1 : Reads W (.slice p2 l2.length q2) l2) (y2 : Reads W (.slice o2 d2.length r2) d2) => rr_fit hY kY (by omega) (by omega) y1 y2)
 obtain ⟨B, hB⟩ : ∃ B, B = X.den * Y.den := ⟨_, rfl⟩
 obtain ⟨LB, hLB⟩ : ∃ L, L = digs B := ⟨_, rfl⟩
 have hB0 : B ≠ 0 := by rw [hB]; exact Nat.mul_ne_zero X.den_nz Y.den_nz
 have lB : LB.length ≤ 20000 := by
  have h6 := digs_mul_le X.den Y.den
  rw [← kX.2, ← kY.2] at h6
  rw [hLB, hB]
  omega
 have KB := Lib.hid (fun (W : World) {a b : Option Addr} {c d : Nat} (y1 : Reads W (.slice a DX.length c) DX) (y2 : Reads W (.slice b DY.length d) DY) => p_nmul (P := LB) kX.2 kY.2 (by rw [hLB, hB]) (by omega) (by omega) y1 y2)
 obtain ⟨sP, LP, cP⟩ := Can.ex (X.num * ((Y.den : Nat) : Int))
 obtain ⟨sQ, LQ, cQ⟩ := Can.ex (Y.num * ((X.den : Nat) : Int))
 obtain ⟨sS, LS, cS⟩ := Can.ex (X.num * ((Y.den : Nat) : Int) + Y.num * ((X.den : Nat) : Int))
 have lP : LP.length ≤ 19999 := by
  have h6 := digs_mul_le X.num.natAbs Y.den
  rw [← kX.1.2, ← kY.2] at h6
  rw [cP.2, Int.natAbs_mul, Int.natAbs_natCast]
  omega
 have lQ : LQ.length ≤ 19999 := by
  have h6 := digs_mul_le Y.num.natAbs X.den
  rw [← kY.1.2, ← kX.2] at h6
  rw [cQ.2, Int.natAbs_mul, Int.natAbs_natCast]
  omega
 have lS : LS.length ≤ 40000 := by
  have h6 := digs_mono (Int.natAbs_add_le (X.num * ((Y.den : Nat) : Int)) (Y.num * ((X.den : Nat) : Int)))
  have h7 := digs_add_le (X.num * ((Y.den : Nat) : Int)).natAbs (Y.num * ((X.den : Nat) : Int)).natAbs
  rw [← cP.2, ← cQ.2] at h7
  rw [cS.2]
  omega
 have KP := Lib.hid (fun (W : World) {a b : Option Addr} {c d : Nat} (y1 : Reads W (.slice a LX.length c) LX) (y2 : Reads W (.slice b DY.length d) DY) => rr_times kX.1 kY.2 cP rfl (by omega) (by omega) y1 y2)
 have KQ := Lib.hid (fun (W : World) {a b : Option Addr} {c d : Nat} (y1 : Reads W (.slice a LY.length c) LY) (y2 : Reads W (.slice b DX.length d) DX) => rr_times kY.1 kX.2 cQ rfl (by omega) (by omega) y1 y2)
 have KS := Lib.hid (fun (W : World) {a b : Option Addr} {c d : Nat} (y1 : Reads W (.slice a LP.length c) LP) (y2 : Reads W (.slice b LQ.length d) LQ) => p_add cP.is cQ.is cS rfl (by omega) (by omega) y1 y2)
 have KL := Lib.hid (fun (W : World) {a b : Option Addr} {c d : Nat} (y1 : Reads W (.slice a LS.length c) LS) (y2 : Reads W (.slice b LB.length d) LB) => rr_lowest cS hLB hB0 kZ (by rw [eZ, hB]; exact rr_sum_eq X Y) (by omega) (by omega) y1 y2)
 have M : Mem w [(w.heap.size + 1 + 1, 30, [.bool false, .slice none 0 0, .slice none 0 0]), (w.heap.size + 1, 30, [.bool n2, .slice p2 l2.length q2, .slice o2 d2.length r2]), (w.heap.size, 30, [.bool n1, .slice p1 l1.length q1, .slice o1 d1.length r1])] [(.slice o2 d2.length r2, d2), (.slice p2 l2.length q2, l2), (.slice o1 d1.length r1, d1), (.slice p1 l1.length q1, l1)] (((w.alloc (.cells #[.bool n1, .slice p1 l1.length q1, .slice o1 d1.length r1] 30)).alloc (.cells #[.bool n2, .slice p2 l2.length q2, .slice o2 d2.length r2] 30)).alloc (.cells #[.bool false, .slice none 0 0, .slice none 0 0] 30)) := by
  have M := ((((((((Mem.start w).add g1).add g2).add g3).add g4).new 30 [.bool n1, .slice p1 l1.length q1, .slice o1 d1.length r1]).new 30 [.bool n2, .slice p2 l2.length q2, .slice o2 d2.length r2]).new 30 [.bool false, .slice none 0 0, .slice none 0 0])
  simpa only [World.size_alloc] using M
 clear g1 g2 g3 g4 b1 b2 b3 b4 hX hY kX kY lX lY hB hLB hB0 lB cP lP cQ lQ cS lS kZ eZ
 go_enter Tryz.func48, Tryz.ntmps48
 have z0_0 := M.cell 0 rfl 0 rfl; have z0_1 := M.cell 0 rfl 1 rfl; have z0_2 := M.cell 0 rfl 2 rfl; have z1_0 := M.cell 1 rfl 0 rfl; have z1_1 := M.cell 1 rfl 1 rfl; have z1_2 := M.cell 1 rfl 2 rfl; have z2_0 := M.cell 2 rfl 0 rfl; have z2_1 := M.cell 2 rfl 1 rfl; have z2_2 := M.cell 2 rfl 2 rfl
 go_wp2_with fail
 clear z0_0 z0_1 z0_2 z1_0 z1_1 z1_2 z2_0 z2_1 z2_2
 refine (KFX.out _ (M.get 3 rfl) (M.get 2 rfl)).mono ?_
 rintro e w1 ⟨aX, cX, oX, rX, rfl, g, g', rr⟩
 have M' := ((M.up rr).add g).add g'; clear M rr g g'; have M := M'; clear M'
 have z0_0 := M.cell 0 rfl 0 rfl; have z0_1 := M.cell 0 rfl 1 rfl; have z0_2 := M.cell 0 rfl 2 rfl; have z1_0 := M.cell 1 rfl 0 rfl; have z1_1 := M.cell 1 rfl 1 rfl; have z1_2 := M.cell 1 rfl 2 rfl; have z2_0 := M.cell 2 rfl 0 rfl; have z2_1 := M.cell 2 rfl 1 rfl; have z2_2 := M.cell 2 rfl 2 rfl
 have f2_0 := M.fr 2 rfl 0; have f2_1 := M.fr 2 rfl 1; have f2_2 := M.fr 2 rfl 2
 go_wp2_with fail
 clear z0_0 z0_1 z0_2 z1_0 z1_1 z1_2 z2_0 z2_1 z2_2 f2_0 f2_1 f2_2
 have M' := (((M.put 2 rfl rfl 0 (.bool sX)).put 2 rfl rfl 1 (.slice aX LX.length cX)).put 2 rfl rfl 2 (.slice oX DX.length rX))
 clear M
 simp only [List.set_cons_zero, List.set_cons_succ] at M'
 have M := M'
 clear M'
 refine (KFY.out _ (M.get 3 rfl) (M.get 2 rfl)).mono ?_
 rintro e w2 ⟨aY, cY, oY, rY, rfl, g, g', rr⟩
 have M' := ((M.up rr).add g).add g'; clear M rr g g'; have M := M'; clear M'
 have z0_0 := M.cell 0 rfl 0 rfl; have z0_1 := M.cell 0 rfl 1 rfl; have z0_2 := M.cell 0 rfl 2 rfl; have z1_0 := M.cell 1 rfl 0 rfl; have z1_1 := M.cell 1 rfl 1 rfl; have z1_2 := M.cell 1 rfl 2 rfl; have z2_0 := M.cell 2 rfl 0 rfl; have z2_1 := M.cell 2 rfl 1 rfl; have z2_2 := M.cell 2 rfl 2 rfl
 have f1_0 := M.fr 1 rfl 0; have f1_1 := M.fr 1 rfl 1; have f1_2 := M.fr 1 rfl 2
 go_wp2_with fail
 clear z0_0 z0_1 z0_2 z1_0 z1_1 z1_2 z2_0 z2_1 z2_2 f1_0 f1_1 f1_2
 have M' := (((M.put 1 rfl rfl 0 (.bool sY)).put 1 rfl rfl 1 (.slice aY LY.length cY)).put 1 rfl rfl 2 (.slice oY DY.length rY))
 clear M
 simp only [List.set_cons_zero, List.set_cons_succ] at M'
 have M := M'
 clear M'
 refine region_mem (S := (fun W => BoxN W (w.heap.size) 30 #[.bool sX, .slice aX LX.length cX, .slice oX DX.length rX] ∧ BoxN W (w.heap.size + 1) 30 #[.bool sY, .slice aY LY.length cY, .slice oY DY.length rY])) M (by kernel_rfl) ?_
 intro V0 M
 have hS0 : (fun W => BoxN W (w.heap.size) 30 #[.bool sX, .slice aX LX.length cX, .slice oX DX.length rX] ∧ BoxN W (w.heap.size + 1) 30 #[.bool sY, .slice aY LY.length cY, .slice oY DY.length rY]) V0 := ⟨M.box 2 rfl, M.box 1 rfl⟩
 refine wtk 0 (.pointer (some ⟨w.heap.size, 0, none⟩)) rfl (fun _ _ _ h => h) (Or.inl ⟨by rfl, fun W3 hS => by go_simp⟩) hS0 ?_
 try simp only [Act.put, List.setIfInBounds_toArray, List.set_cons_zero, List.set_cons_succ]
 refine wtk 1 (.agg #[.bool sX, .slice aX LX.length cX]) rfl (fun _ _ _ h => h) (Or.inl ⟨by rfl, fun W3 hS => by obtain ⟨hS1, hS2⟩ := hS; have c1_0 := hS1.cell 0 _ rfl; have c1_1 := hS1.cell 1 _ rfl; have c1_2 := hS1.cell 2 _ rfl; go_simp⟩) hS0 ?_
 try simp only [Act.put, List.setIfInBounds_toArray, List.set_cons_zero, List.set_cons_succ]
 refine wtk 2 (.pointer (some ⟨w.heap.size + 1, 2, none⟩)) rfl (fun _ _ _ h => h) (Or.inl ⟨by rfl, fun W3 hS => by go_simp⟩) hS0 ?_
 try simp only [Act.put, List.setIfInBounds_toArray, List.set_cons_zero, List.set_cons_succ]
 refine wtk 3 (.slice oY DY.length rY) rfl (fun _ _ _ h => h) (Or.inl ⟨by rfl, fun W3 hS => by obtain ⟨hS1, hS2⟩ := hS; have c2_0 := hS2.cell 0 _ rfl; have c2_1 := hS2.cell 1 _ rfl; have c2_2 := hS2.cell 2 _ rfl; go_simp⟩) hS0 ?_
 try simp only [Act.put, List.setIfInBounds_toArray, List.set_cons_zero, List.set_cons_succ]
 refine wtk 5 (.pointer (some ⟨w.heap.size + 1, 0, none⟩)) rfl (fun _ _ _ h => h) (Or.inl ⟨by rfl, fun W3 hS => by go_simp⟩) hS0 ?_
 try simp only [Act.put, List.setIfInBounds_toArray, List.set_cons_zero, List.set_cons_succ]
 refine wtk 6 (.agg #[.bool sY, .slice aY LY.length cY]) rfl (fun _ _ _ h => h) (Or.inl ⟨by rfl, fun W3 hS => by obtain ⟨hS1, hS2⟩ := hS; have c2_0 := hS2.cell 0 _ rfl; have c2_1 := hS2.cell 1 _ rfl; have c2_2 := hS2.cell 2 _ rfl; go_simp⟩) hS0 ?_
 try simp only [Act.put, List.setIfInBounds_toArray, List.set_cons_zero, List.set_cons_succ]
 refine wtk 7 (.pointer (some ⟨w.heap.size, 2, none⟩)) rfl (fun _ _ _ h => h) (Or.inl ⟨by rfl, fun W3 hS => by go_simp⟩) hS0 ?_
 try simp only [Act.put, List.setIfInBounds_toArray, List.set_cons_zero, List.set_cons_succ]
 refine wtk 8 (.slice oX DX.length rX) rfl (fun _ _ _ h => h) (Or.inl ⟨by rfl, fun W3 hS => by obtain ⟨hS1, hS2⟩ := hS; have c1_0 := hS1.cell 0 _ rfl; have c1_1 := hS1.cell 1 _ rfl; have c1_2 := hS1.cell 2 _ rfl; go_simp⟩) hS0 ?_
 try simp only [Act.put, List.setIfInBounds_toArray, List.set_cons_zero, List.set_cons_succ]
 refine wtk 11 (.pointer (some ⟨w.heap.size, 2, none⟩)) rfl (fun _ _ _ h => h) (Or.inl ⟨by rfl, fun W3 hS => by go_simp⟩) hS0 ?_
 try simp only [Act.put, List.setIfInBounds_toArray, List.set_cons_zero, List.set_cons_succ]
 refine wtk 12 (.slice oX DX.length rX) rfl (fun _ _ _ h => h) (Or.inl ⟨by rfl, fun W3 hS => by obtain ⟨hS1, hS2⟩ := hS; have c1_0 := hS1.cell 0 _ rfl; have c1_1 := hS1.cell 1 _ rfl; have c1_2 := hS1.cell 2 _ rfl; go_simp⟩) hS0 ?_
 try simp only [Act.put, List.setIfInBounds_toArray, List.set_cons_zero, List.set_cons_succ]
 refine wtk 13 (.pointer (some ⟨w.heap.size + 1, 2, none⟩)) rfl (fun _ _ _ h => h) (Or.inl ⟨by rfl, fun W3 hS => by go_simp⟩) hS0 ?_
 try simp only [Act.put, List.setIfInBounds_toArray, List.set_cons_zero, List.set_cons_succ]
 refine wtk 14 (.slice oY DY.length rY) rfl (fun _ _ _ h => h) (Or.inl ⟨by rfl, fun W3 hS => by obtain ⟨hS1, hS2⟩ := hS; have c2_0 := hS2.cell 0 _ rfl; have c2_1 := hS2.cell 1 _ rfl; have c2_2 := hS2.cell 2 _ rfl; go_simp⟩) hS0 ?_
 try simp only [Act.put, List.setIfInBounds_toArray, List.set_cons_zero, List.set_cons_succ]
 clear hS0
 refine one_op 4 rfl (fun K1 hK => ?_)
 go_simp
 refine (KP.out _ (M.get 3 rfl) (M.get 0 rfl)).mono ?_
 rintro e V1_4 ⟨a1, c1, rfl, g, rr⟩
 have M' := (M.up rr).add g
 clear M rr g
 have M := M'; clear M'
 refine hK _ _ ⟨⟨M.box 2 rfl, M.box 1 rfl⟩, ?_⟩
 clear hK K1
 refine one_op 9 rfl (fun K2 hK => ?_)
 go_simp
 refine (KQ.out _ (M.get 2 rfl) (M.get 3 rfl)).mono ?_
 rintro e V2_9 ⟨a2, c2, rfl, g, rr⟩
 have M' := (M.up rr).add g
 clear M rr g
 have M := M'; clear M'
 refine hK _ _ ⟨⟨M.box 2 rfl, M.box 1 rfl⟩, ?_⟩
 clear hK K2
 refine one_op 10 rfl (fun K3 hK => ?_)
 go_simp
 refine (KS.out _ (M.get 1 rfl) (M.get 0 rfl)).mono ?_
 rintro e V3_10 ⟨a3, c3, rfl, g, rr⟩
 have M' := (M.up rr).add g
 clear M rr g
 have M := M'; clear M'
 refine hK _ _ ⟨⟨M.box 2 rfl, M.box 1 rfl⟩, ?_⟩
 clear hK K3
 refine one_op 15 rfl (fun K4 hK => ?_)
 go_simp
 refine (KB.out _ (M.get 5 rfl) (M.get 3 rfl)).mono ?_
 rintro e V4_15 ⟨a4, c4, rfl, g, rr⟩
 have M' := (M.up rr).add g
 clear M rr g
 have M := M'; clear M'
 refine hK _ _ ⟨⟨M.box 2 rfl, M.box 1 rfl⟩, ?_⟩
 clear hK K4
 refine one_op 16 rfl (fun K5 hK => ?_)
 go_simp
 refine (KL.out _ (M.get 1 rfl) (M.get 0 rfl)).mono ?_
 rintro e V5_16 ⟨a, c, a', c', rfl, g, g', rr⟩
 have M' := ((M.up rr).add g).add g'
 clear M rr g g'
 have M := M'; clear M'
 refine hK _ _ ⟨⟨M.box 2 rfl, M.box 1 rfl⟩, ?_⟩
 clear hK K5
 have f0_0 := M.fr 0 rfl 0; have f0_1 := M.fr 0 rfl 1; have f0_2 := M.fr 0 rfl 2
 have z0_0 := M.cell 0 rfl 0 rfl; have z0_1 := M.cell 0 rfl 1 rfl; have z0_2 := M.cell 0 rfl 2 rfl
 refine one_op 17 rfl (fun Ks6 hK => ?_)
 go_simp
 have M' := (((M.put 0 rfl rfl 0 (.bool sZ)).put 0 rfl rfl 1 (.slice a LZ.length c)).put 0 rfl rfl 2 (.slice a' DZ.length c'))
 clear M f0_0 z0_0 f0_1 z0_1 f0_2 z0_2
 simp only [List.set_cons_zero, List.set_cons_succ] at M'
 have M := M'
 clear M'
 refine hK _ _ ⟨⟨M.box 2 rfl, M.box 1 rfl⟩, ?_⟩
 clear hK Ks6
 refine wdn ?_
 go_wp2
 refine ret_boxN rfl rfl (M.box 0 rfl) Tryz.underlying30 size_rat rfl ?_
 exact ⟨a, c, a', c', rfl, M.get 1 rfl, M.get 0 rfl, M.below⟩
end Go.Proofs.YtdjfooflhpkcbaaGreatDoor
