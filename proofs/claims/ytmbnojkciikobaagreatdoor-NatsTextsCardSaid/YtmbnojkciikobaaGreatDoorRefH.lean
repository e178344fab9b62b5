/- The document's answer: a number divided by one part, by hand. -/
import Derived.Test.YtmbnojkciikobaaGreatDoorRefE
import Derived.Test.YtmbnojkciikobaaGreatDoorPart
namespace Go.Proofs.YtmbnojkciikobaaGreatDoor
open Go Go.Proofs Go.RowKit Go.Shelf Nu

attribute [local go_sem] Oper.semAt_some

theorem getD_of_take {l A : List Nat} {g p : Nat} (h : l.take g = A.take g) (hp : p < g) : l.getD p 0 = A.getD p 0 := by
  have e := congrArg (fun t => t.getD p 0) h
  simp only [List.getD_eq_getElem?_getD, List.getElem?_take] at e
  rw [if_pos hp, if_pos hp, ← List.getD_eq_getElem?_getD, ← List.getD_eq_getElem?_getD] at e
  exact e
theorem drop_at {l : List Nat} {p : Nat} (h : p < l.length) : l.drop p = l.getD p 0 :: l.drop (p + 1) := by
  rw [List.drop_eq_getElem_cons h, List.getD_eq_getElem?_getD, List.getElem?_eq_getElem h]; rfl
theorem small_step {A l : List Nat} {p t q x m' q' r' : Nat} (hA : p < A.length) (hl : p < l.length) (hx : x = A.getD p 0) (hv : val (A.drop (p + 1)) = t * val (l.drop (p + 1)) + q) (e1 : m' = q * 4294967296 + x) (e2 : m' = t * q' + r') :
    val (A.drop p) = t * val ((l.set p q').drop p) + r' := by
  rw [drop_at hA, ← hx, drop_at (l := l.set p q') (by simpa using hl), set_drop, val, val, hv]
  have : (l.set p q').getD p 0 = q' := by rw [List.getD_eq_getElem?_getD, List.getElem?_eq_getElem (by simpa using hl)]; simp
  rw [this]
  generalize val (l.drop (p + 1)) = Z
  grind
theorem small_take {A l : List Nat} {p q' : Nat} (h : l.take (p + 1) = A.take (p + 1)) : (l.set p q').take p = A.take p := by
  rw [List.take_set, List.set_eq_of_length_le (by rw [List.length_take]; omega)]
  have := congrArg (List.take p) h
  simpa [List.take_take] using this

set_option maxRecDepth 100000 in
set_option maxHeartbeats 4000000 in
theorem rsmall_any {w : World} {va : Value} {A : List Nat} {t : Nat} (hA : Reads w va A) (hlA : A.length ≤ 100000) (hSA : Sm A) (ht0 : 0 < t) (ht : t < 4294967296) :
    Calls Tryz.prog 119 #[va, .int .u32 t] w fun e w' => ∃ v, e = .returned (.tuple #[v, .int .u32 (val A % t : Nat)]) ∧ Reads w' v (digs (val A / t)) ∧ Below w.heap.size w w' := by
  have kT := rtwin_any hA hlA
  have SA := Lib.hid hSA
  obtain ⟨a1, c1, rfl⟩ := hA.form
  obtain ⟨m, hm⟩ : ∃ m, m = A.length := ⟨_, rfl⟩
  have HM := Lib.hid hm
  rw [← hm] at hlA kT
  rw [← hm]
  have u1 := w64_of t (by omega)
  have u4 : ¬ (t : Int) = 0 := by omega
  have u5 : ¬ t = 0 := by omega
  clear hA hSA hm
  go_enter Tryz.func119, Tryz.ntmps119
  go_wp2_with (go_at_call 118; refine kT.mono ?_; clear kT; rintro e w1 ⟨u, rfl, fu, hb1⟩; obtain ⟨au, cu, eu⟩ := fu.reads.form; rw [← HM.out] at eu; subst eu)
  go_loopg [7, 8] m (fun g sn si wr => ∃ (z : Int) (q : Nat) (l : List Nat), si = .int .i64 z ∧ z = (g : Int) - 1 ∧ g ≤ m ∧ sn = .int .u64 (q : Int) ∧ q < t ∧ l.length = m ∧ Hid (Fresh wr w.heap.size (.slice au m cu) l) ∧ Hid (Sm l ∧ l.take g = A.take g ∧ val (A.drop g) = t * val (l.drop g) + q) ∧ Hid (Below w.heap.size w wr))
  case atStart => exact ⟨_, 0, A, rfl, rfl, Nat.le_refl _, rfl, ht0, HM.out.symm, Lib.hid fu, Lib.hid ⟨SA.out, rfl, by rw [HM.out, List.drop_length]; simp [val]⟩, Lib.hid hb1⟩
  case round =>
    obtain ⟨z, q, l, rfl, hz, hg, rfl, hq, hl, HF, HV, HB⟩ := hrel
    have HL := Lib.hid hl
    by_cases hg0 : gk = 0
    · have hz1 : z = -1 := by omega
      subst hz1
      have hv : val A = t * val l + q := by
        have h := HV.out.2.2
        rw [hg0, List.drop_zero, List.drop_zero] at h
        exact h
      have e1 : val l = val A / t := by rw [hv, Nat.add_comm, Nat.add_mul_div_left _ _ ht0, Nat.div_eq_of_lt hq]; omega
      have e2 : q = val A % t := by rw [hv, Nat.add_comm, Nat.add_mul_mod_self_left, Nat.mod_eq_of_lt hq]
      have kt := rtrim_any HF.out.reads (by omega)
      rw [cut_eq HV.out.1, e1] at kt
      have KT := Lib.hid kt
      have E2 := Lib.hid e2
      have u2 := w32_of q (by omega)
      clear hz hv e1 e2 hl kt
      go_wp2_with fail
      go_at_call 75
      refine KT.out.mono ?_
      rintro e w' ⟨⟨u, rfl, hu⟩, rfl⟩
      have HU := Lib.hid hu
      clear hu
      go_wp2_with fail
      go_ret2
      rw [← E2.out]
      exact ⟨u, by simp, HU.out, HB.out⟩
    · obtain ⟨p, hp⟩ : ∃ p : Nat, z = (p : Int) := ⟨gk - 1, by omega⟩
      subst hp
      have hgp : gk = p + 1 := by omega
      have hpm : p < m := by omega
      obtain ⟨g, rfl⟩ : ∃ g, au = some ⟨g, 0, none⟩ := by
        rcases HF.out.form with ⟨e, _⟩ | ⟨g, c, e, _⟩
        · simp only [Value.slice.injEq] at e; omega
        · simp only [Value.slice.injEq] at e; exact ⟨g, e.1⟩
      have hF0 := HF.out
      have hfr : wr.frozen? ⟨g, p, none⟩ = false := by
        unfold Fresh at hF0
        rw [hl] at hF0
        exact World.ownsRow.frozenAt hF0 p
      obtain ⟨x, hx⟩ : ∃ x, x = A.getD p 0 := ⟨_, rfl⟩
      have hxb : x < 4294967296 := by rw [hx]; exact SA.out.getD p
      have hxl : l.getD p 0 = x := by rw [hx]; exact getD_of_take HV.out.2.1 (by omega)
      have hc : wr.cell? ⟨g, p, none⟩ = some (.int .u32 (x : Int)) := by
        rcases HF.out.form with ⟨e, _⟩ | ⟨g', c, e, _, _, hn', hcc⟩
        · cases e
        · simp only [Value.slice.injEq, Option.some.injEq, Addr.mk.injEq, and_true] at e
          obtain ⟨rfl, _⟩ := e
          have := hcc p (by omega)
          rwa [Nat.zero_add, hxl] at this
      obtain ⟨m', q', r', e1, e2, e3, hor, hdiv, hmod, hq', hr', hmq, hmb⟩ := part_facts hq ht hxb
      have hP := (HF.out.put hl.symm p q').1
      have hgw : w.heap.size ≤ g := (HF.out.lt' (g := g) rfl).1
      have hst := small_step (A := A) (l := l) (by rw [← HM.out]; exact hpm) (by omega) hx (by have h := HV.out.2.2; rw [hgp] at h; exact h) e1 hmq
      have htk := small_take (A := A) (l := l) (p := p) (q' := q') (by have h := HV.out.2.1; rw [hgp] at h; exact h)
      have fin : ∃ (z : Int) (q : Nat) (l : List Nat), Value.int .i64 ((p : Int) - 1) = .int .i64 z ∧ z = (p : Int) - 1 ∧ p ≤ m ∧ Value.int .u64 (r' : Int) = .int .u64 (q : Int) ∧ q < t ∧ l.length = m ∧ Hid (Fresh (wr.setCell ⟨g, p, none⟩ (.int .u32 (q' : Int))) w.heap.size (.slice (some ⟨g, 0, none⟩) m cu) l) ∧ Hid (Sm l ∧ l.take p = A.take p ∧ val (A.drop p) = t * val (l.drop p) + q) ∧ Hid (Below w.heap.size w (wr.setCell ⟨g, p, none⟩ (.int .u32 (q' : Int)))) :=
        ⟨_, r', l.set p q', rfl, rfl, by omega, rfl, hr', by rw [List.length_set, hl], Lib.hid hP, Lib.hid ⟨HV.out.1.set p _ hq', htk, hst⟩, Lib.hid (HB.out.setCell (p := ⟨g, p, none⟩) hgw _)⟩
      have FIN := Lib.hid fin
      have HG := Lib.hid hgp
      have u2 := w64_of q' (by omega)
      have u3 := w32_of q' hq'
      clear hF0 hx hxl hP hst htk fin e1 e2 e3 hmq hz hgp hg0 HB HF hl
      go_wp2
      go_roundg p
      case measure => have := HG.out; omega
      case rel => rw [hmod]; exact FIN.out

end Go.Proofs.YtmbnojkciikobaaGreatDoor
