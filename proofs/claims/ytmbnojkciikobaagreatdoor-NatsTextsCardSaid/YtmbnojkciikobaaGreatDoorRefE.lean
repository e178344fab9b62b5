/- The document's answer: the difference of two great numbers, by hand: the walk. -/
import Derived.Test.YtmbnojkciikobaaGreatDoorRefD
namespace Go.Proofs.YtmbnojkciikobaaGreatDoor
open Go Go.Proofs Go.RowKit Go.Shelf Nu

attribute [local go_sem] Oper.semAt_some

set_option maxRecDepth 100000 in
set_option maxHeartbeats 4000000 in
theorem rless_any {w : World} {va vb : Value} {A B : List Nat} (hA : Reads w va A) (hB : Reads w vb B) (hlA : A.length ≤ 100000) (hlB : B.length ≤ A.length) (hSA : Sm A) (hSB : Sm B) (hle : val B ≤ val A) :
    Calls Tryz.prog 70 #[va, vb] w fun e w' => ∃ v, e = .returned v ∧ Reads w' v (digs (val A - val B)) ∧ Below w.heap.size w w' := by
  have kT := rtwin_any hA hlA
  have RB := Lib.hid hB
  have SA := Lib.hid hSA
  have SB := Lib.hid hSB
  have HLE := Lib.hid hle
  obtain ⟨a1, c1, rfl⟩ := hA.form
  obtain ⟨b1, d1, rfl⟩ := hB.form
  obtain ⟨m, hm⟩ : ∃ m, m = A.length := ⟨_, rfl⟩
  obtain ⟨n, hn⟩ : ∃ n, n = B.length := ⟨_, rfl⟩
  have HM := Lib.hid hm
  have HN := Lib.hid hn
  rw [← hm] at hlA hlB kT
  rw [← hn] at hlB
  rw [← hm, ← hn]
  have hb0 : Below w.heap.size w w := Below.refl _ w
  clear hA hB hSA hSB hle hm hn
  go_enter Tryz.func70, Tryz.ntmps70
  go_wp2_with (go_at_call 118; refine kT.mono ?_; clear kT; rintro e w1 ⟨u, rfl, fu, hb1⟩)
  obtain ⟨au, cu, eu⟩ := fu.reads.form
  rw [← HM.out] at eu
  subst eu
  go_loopg [6, 7] m (fun g so si wr => ∃ (k o : Nat) (l : List Nat), k + g = m ∧ si = .int .i64 (k : Int) ∧ so = .int .u64 (o : Int) ∧ o ≤ 1 ∧ l.length = m ∧ Hid (Fresh wr w.heap.size (.slice au m cu) l) ∧ Hid (Sm l ∧ l.drop k = A.drop k ∧ (val (l.take k) : Int) - 4294967296 ^ k * o = val (A.take k) - val (B.take k)) ∧ Hid (Below w.heap.size w wr))
  case atStart => exact ⟨0, 0, A, by omega, rfl, rfl, by omega, HM.out.symm, Lib.hid fu, Lib.hid ⟨SA.out, rfl, by simp [val]⟩, Lib.hid hb1⟩
  case round =>
    obtain ⟨k, o, l, hk, rfl, rfl, ho, hl, HF, HV, HB⟩ := hrel
    have HL := Lib.hid hl
    by_cases hkm : k < m
    · obtain ⟨g, rfl⟩ : ∃ g, au = some ⟨g, 0, none⟩ := by
        rcases HF.out.form with ⟨e, _⟩ | ⟨g, c, e, _⟩
        · simp only [Value.slice.injEq] at e; omega
        · simp only [Value.slice.injEq] at e; exact ⟨g, e.1⟩
      have hF0 := HF.out
      have hfr : wr.frozen? ⟨g, k, none⟩ = false := by
        unfold Fresh at hF0
        rw [hl] at hF0
        exact World.ownsRow.frozenAt hF0 k
      obtain ⟨x, hx⟩ : ∃ x, x = A.getD k 0 := ⟨_, rfl⟩
      obtain ⟨y, hy⟩ : ∃ y, y = B.getD k 0 := ⟨_, rfl⟩
      have hxb : x < 4294967296 := by rw [hx]; exact SA.out.getD k
      have hyb : y < 4294967296 := by rw [hy]; exact SB.out.getD k
      have hxl : l.getD k 0 = x := by rw [hx]; exact getD_of_drop HV.out.2.1 k (Nat.le_refl _)
      have hc : wr.cell? ⟨g, k, none⟩ = some (.int .u32 (x : Int)) := by
        rcases HF.out.form with ⟨e, _⟩ | ⟨g', c, e, _, _, hn', hcc⟩
        · cases e
        · simp only [Value.slice.injEq, Option.some.injEq, Addr.mk.injEq, and_true] at e
          obtain ⟨rfl, _⟩ := e
          have := hcc k (by omega)
          rwa [Nat.zero_add, hxl] at this
      obtain ⟨d1', d, e1, e2, hd1, hd, e3, e4, e5⟩ := sub_two hxb hyb ho
      have hP := (HF.out.put hl.symm k (d % 4294967296)).1
      have hgw : w.heap.size ≤ g := (HF.out.lt' (g := g) rfl).1
      rw [show ((d % 4294967296 : Nat) : Int) = (d : Int) % 4294967296 by omega] at hP
      have HP := Lib.hid hP
      have HX := Lib.hid hx
      have HY := Lib.hid hy
      have E3 := Lib.hid e3
      have E4 := Lib.hid e4
      have fin : ∃ (k' o' : Nat) (l' : List Nat), k' + (m - (k + 1)) = m ∧ Value.int .i64 ((k : Int) + 1) = .int .i64 (k' : Int) ∧ Value.int .u64 ((d : Int) / 9223372036854775808) = .int .u64 (o' : Int) ∧ o' ≤ 1 ∧ l'.length = m ∧ Hid (Fresh (wr.setCell ⟨g, k, none⟩ (.int .u32 ((d : Int) % 4294967296))) w.heap.size (.slice (some ⟨g, 0, none⟩) m cu) l') ∧ Hid (Sm l' ∧ l'.drop k' = A.drop k' ∧ (val (l'.take k') : Int) - 4294967296 ^ k' * o' = val (A.take k') - val (B.take k')) ∧ Hid (Below w.heap.size w (wr.setCell ⟨g, k, none⟩ (.int .u32 ((d : Int) % 4294967296)))) := by
        refine ⟨k + 1, d / 9223372036854775808, l.set k (d % 4294967296), by omega, by simp, by congr 1, E4.out, by rw [List.length_set, hl], HP, Lib.hid ⟨HV.out.1.set k _ (by omega), ?_, ?_⟩, Lib.hid (HB.out.setCell (p := ⟨g, k, none⟩) hgw _)⟩
        · rw [set_drop]; exact drop_succ_of_drop HV.out.2.1
        · exact less_step (by omega) HV.out.2.2 hx hy e3
      have FIN := Lib.hid fin
      clear hF0 hx hy hxl hP e3 e4 fin
      by_cases hkn : k < n
      · obtain ⟨bb, ob, hbb, hcb⟩ := (RB.out.below HB.out).addr
        rw [← HN.out] at hbb hcb
        have r2 := hcb k hkn
        have eb := (hbb (by omega)).1
        subst eb
        rw [← HY.out] at r2
        clear hbb hcb e5 HB HF hl
        go_wp2
        go_roundg (m - (k + 1))
        case measure => omega
        case rel => exact FIN.out
      · have hy0 : y = 0 := by rw [HY.out]; exact getD_cut0 (by have := HN.out; omega)
        have e6 := e5 hy0
        subst e6
        clear e5 e2 hy0 HB HF hl
        go_wp2
        go_roundg (m - (k + 1))
        case measure => omega
        case rel => exact FIN.out
    · obtain rfl : k = m := by omega
      have hv : val l = val A - val B := by
        have h := HV.out.2.2
        rw [List.take_of_length_le (by omega), List.take_of_length_le (by have := HM.out; omega), List.take_of_length_le (by have := HN.out; omega)] at h
        exact less_end hl HV.out.1 ho HLE.out h
      have HVL := Lib.hid hv
      have kt := rtrim_any HF.out.reads (by omega)
      clear hv hl
      go_wp2_with (go_at_call 75; refine kt.mono ?_; clear kt; rintro e w' ⟨⟨u, rfl, hu⟩, rfl⟩)
      go_ret
      refine ⟨u, rfl, ?_, HB.out⟩
      rw [← HVL.out, ← cut_eq HV.out.1]
      exact hu

set_option maxHeartbeats 2000000 in
theorem rsub_any {w : World} {va vb : Value} {A B : List Nat} (hA : Reads w va A) (hB : Reads w vb B) (hlA : A.length ≤ 100000) (hlB : B.length ≤ 100000) (hSA : Sm A) (hSB : Sm B) :
    Calls Tryz.prog 13 #[va, vb] w fun e w' => ∃ v, e = .returned (.tuple #[v, .int .i64 (if chk A = true ∧ chk B = true ∧ val B ≤ val A then 0 else 1)]) ∧ Reads w' v (if chk A = true ∧ chk B = true ∧ val B ≤ val A then digs (val A - val B) else []) ∧ Below w.heap.size w w' := by
  have hb0 : Below w.heap.size w w := Below.refl _ w
  have cA := rcheck_any hA (by omega)
  have cB := rcheck_any hB (by omega)
  have kC := rcmp_any hA hB hlA hlB hSA hSB
  have RA := Lib.hid hA
  have RB := Lib.hid hB
  obtain ⟨a1, c1, rfl⟩ := hA.form
  obtain ⟨b1, d1, rfl⟩ := hB.form
  clear hA hB
  cases h1 : chk A with
  | false =>
    rw [h1] at cA
    simp only [Bool.false_eq_true, false_and, if_false]
    clear kC cB hSA hSB h1
    go_enter Tryz.func13, Tryz.ntmps13
    go_wp2_with (go_at_call 33; refine cA.mono ?_; clear cA; rintro e w' ⟨rfl, rfl⟩)
    go_ret2
    exact ⟨_, rfl, Reads.nil _, hb0⟩
  | true =>
    cases h2 : chk B with
    | false =>
      rw [h1] at cA
      rw [h2] at cB
      simp only [Bool.false_eq_true, false_and, and_false, if_false]
      clear kC hSA hSB h1 h2
      go_enter Tryz.func13, Tryz.ntmps13
      go_wp2_with (first
        | (go_at_call 33; refine cA.mono ?_; clear cA; rintro e w' ⟨rfl, rfl⟩)
        | (go_at_call 33; refine cB.mono ?_; clear cB; rintro e w' ⟨rfl, rfl⟩))
      go_ret2
      exact ⟨_, rfl, Reads.nil _, hb0⟩
    | true =>
      rw [h1] at cA
      rw [h2] at cB
      rw [nv_chk h1, nv_chk h2] at kC
      by_cases hle : val B ≤ val A
      · have hlen : B.length ≤ A.length := by
          rcases Nat.lt_or_ge A.length B.length with h | h
          · have := le_of_length_lt hSA hSB h2 h; omega
          · exact h
        have kL := fun W (h : Below w.heap.size w W) => rless_any (RA.out.below h) (RB.out.below h) hlA hlen hSA hSB hle
        simp only [hle, and_self, if_true]
        obtain ⟨z, hz⟩ : ∃ z, z = sgn (val A) (val B) := ⟨_, rfl⟩
        rw [← hz] at kC
        have hz0 : ¬ z < 0 := by rw [hz]; unfold sgn; split; omega; split <;> omega
        clear hSA hSB h1 h2 hle hz hlen
        go_enter Tryz.func13, Tryz.ntmps13
        go_wp2_with (first
          | (go_at_call 33; refine cA.mono ?_; clear cA; rintro e w' ⟨rfl, rfl⟩)
          | (go_at_call 33; refine cB.mono ?_; clear cB; rintro e w' ⟨rfl, rfl⟩)
          | (go_at_call 15; refine kC.mono ?_; clear kC; rintro e w1 ⟨rfl, q1⟩)
          | (go_at_call 70; refine (kL _ (by first | exact q1 | exact q1.drew)).mono ?_; clear kL; rintro e w2 ⟨u, rfl, q2, q3⟩))
        go_ret2
        exact ⟨u, rfl, q2, then_below q1 q3⟩
      · simp only [hle, and_false, if_false]
        obtain ⟨z, hz⟩ : ∃ z, z = sgn (val A) (val B) := ⟨_, rfl⟩
        rw [← hz] at kC
        have hz0 : z < 0 := by rw [hz]; unfold sgn; rw [if_pos (by omega)]; omega
        clear hSA hSB h1 h2 hle hz
        go_enter Tryz.func13, Tryz.ntmps13
        go_wp2_with (first
          | (go_at_call 33; refine cA.mono ?_; clear cA; rintro e w' ⟨rfl, rfl⟩)
          | (go_at_call 33; refine cB.mono ?_; clear cB; rintro e w' ⟨rfl, rfl⟩)
          | (go_at_call 15; refine kC.mono ?_; clear kC; rintro e w1 ⟨rfl, q1⟩))
        go_ret2
        exact ⟨_, rfl, Reads.nil _, q1⟩

end Go.Proofs.YtmbnojkciikobaaGreatDoor
