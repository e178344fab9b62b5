/- Rows of fractions: may all be, are they as many. -/
import Derived.Test.YtbndmpdaloadjaaGreatGVecR
import Derived.Deep.LoopGhost
set_option linter.unusedSimpArgs false
set_option linter.unusedVariables false
set_option maxRecDepth 100000
set_option maxHeartbeats 2000000
namespace Go.Proofs.YtbndmpdaloadjaaGreat
open Go Go.Proofs Go.RowKit Go.Shelf Nu

attribute [local go_sem] Oper.semAt_some

def qrows (qs : List Qr) : Prop := (∀ q ∈ qs, Fit q) ∧ qs.length ≤ 65536
theorem all_take_succ {qs : List Qr} {k : Nat} (hk : k < qs.length) (h : (qs.take k).all qok = true) (hq : qok (qs.getD k default) = true) : (qs.take (k + 1)).all qok = true := by
 have e : qs.take (k + 1) = qs.take k ++ [qs.getD k default] := by
  rw [List.take_add_one, qs_at hk]; rfl
 rw [e, List.all_append, h]
 show (true && (qok (qs.getD k default) && true)) = true
 rw [hq]; rfl

theorem v_check {w : World} {a : Option Addr} {n cap : Nat} {qs : List Qr} (R : Bool) (hR : R = qs.all qok) (h : VReads w (.slice a n cap) qs) (hq : qrows qs) :
  Calls Tryz.prog 41 #[.slice a n cap] w fun e w' => e = .returned (.bool R) ∧ Below w.heap.size w w' := by
 obtain ⟨hn, hcap, b, off, ha, hc⟩ := h.addr
 have HN := Lib.hid hn
 have HR := Lib.hid hR
 have HQ := Lib.hid hq
 have HC := Lib.hid hc
 have HA := Lib.hid ha
 have hn1 : n ≤ 65536 := hn ▸ hq.2
 clear hn hR hq hc h hcap ha
 go_enter Tryz.func41, Tryz.ntmps41
 go_wp2
 go_loopw [7] (fun i wr => ∃ k : Nat, k ≤ n ∧ i = .int .i64 k ∧ Below w.heap.size w wr ∧ Hid ((qs.take k).all qok = true)) (fun i _ => n - (intOf i).toNat)
 case atStart => exact ⟨0, Nat.zero_le _, rfl, Below.refl _ _, Lib.hid (by simp)⟩
 case round =>
  obtain ⟨k, hk, rfl, hb, hs⟩ := hrel
  have HB := Lib.hid hb
  clear hb
  by_cases hlt : k < n
  · obtain ⟨rfl, hbl⟩ := HA.out (by omega)
    have hk2 : k < qs.length := by have := HN.out; omega
    have hqat := (HC.out k _ (qs_at hk2)).below hbl HB.out
    have hfit := HQ.out.1 _ (qs_mem hk2)
    have hstep := fun h => all_take_succ hk2 hs.out h
    have hall : qok (qs.getD k default) = false → qs.all qok = false := fun h => by
     rw [List.all_eq_false]; exact ⟨_, qs_mem hk2, by rw [h]; exact Bool.false_ne_true⟩
    generalize qs.getD k default = q at *
    obtain ⟨s, l, d⟩ := q
    obtain ⟨p, c, p', c', h0, h1, h2, g1, g2⟩ := hqat
    have kc := fun (W : World) (r : Below wr.heap.size wr W) => rcheck_any (n := s) (g1.below r) (g2.below r) hfit.1.1 hfit.1.2 (by have := hfit.2.1; omega) (by have := hfit.2.2; omega)
    have HS := Lib.hid hstep
    have HL := Lib.hid hall
    clear g1 g2 hfit hk2 hstep hall
    dsimp only at h0 h1 h2
    clear HA HC
    go_wp2_with fail
    have al : Below wr.heap.size wr (wr.alloc (.cells #[.bool s, .slice p l.length c, .slice p' d.length c'] 32)) := (Below.refl _ _).alloc (Nat.le_refl _) _
    refine (kc _ al).mono ?_
    rintro e w1 ⟨rfl, rr⟩
    have hb1 := then_below HB.out (then_below al rr)
    have HB1 := Lib.hid hb1
    clear rr hb1 al kc h0 h1 h2
    have hB : rchk s l d = qok (s, l, d) := rfl
    rw [hB]
    clear hB
    cases hB : qok (s, l, d) with
    | false =>
     have h3 := HL.out hB
     have h0 : R = false := HR.out.trans h3
     clear hB h3
     go_wp2
     go_ret
     exact ⟨ret_bool h0.symm, HB1.out⟩
    | true =>
     have H3 := Lib.hid (HS.out hB)
     clear hB
     go_wp2
     go_roundw
     case rel => exact ⟨k + 1, by omega, by simp, HB1.out, H3⟩
     case measure => simp [intOf]; omega
  · have h0 : R = true := by
     rw [HR.out]
     have := hs.out
     rwa [List.take_of_length_le (by have := HN.out; omega)] at this
    clear HA HC
    go_wp2
    go_ret
    exact ⟨ret_bool h0.symm, HB.out⟩

theorem v_match {w : World} {a1 a2 : Option Addr} {n1 n2 c1 c2 : Nat} {q1 q2 : List Qr} (R : Bool) (hR : R = (decide (n1 = n2) && (q1.all qok && q2.all qok))) (h1 : VReads w (.slice a1 n1 c1) q1) (h2 : VReads w (.slice a2 n2 c2) q2) (f1 : qrows q1) (f2 : qrows q2) :
   Calls Tryz.prog 68 #[.slice a1 n1 c1, .slice a2 n2 c2] w fun e w' => e = .returned (.bool R) ∧ Below w.heap.size w w' := by
 obtain ⟨B1, e1⟩ : ∃ B, B = q1.all qok := ⟨_, rfl⟩
 obtain ⟨B2, e2⟩ : ∃ B, B = q2.all qok := ⟨_, rfl⟩
 have k1 := fun (W : World) (r : Below w.heap.size w W) => v_check B1 e1 (h1.below r) f1
 have k2 := fun (W : World) (r : Below w.heap.size w W) => v_check B2 e2 (h2.below r) f2
 have hn1 : n1 ≤ 65536 := h1.addr.1 ▸ f1.2
 have hn2 : n2 ≤ 65536 := h2.addr.1 ▸ f2.2
 rw [← e1, ← e2] at hR
 clear h1 h2 f1 f2 e1 e2
 by_cases e : n1 = n2
 · subst e
   have ht : ((n1 : Int) == (n1 : Int)) = true := by simp
   cases B1 with
   | false =>
    obtain rfl : R = false := by simpa using hR
    clear hR
    go_enter Tryz.func68, Tryz.ntmps68
    go_wp2_with fail
    refine (k1 _ (Below.refl _ _)).mono ?_
    rintro e w1 ⟨rfl, rr⟩
    have RR := Lib.hid rr
    clear rr
    go_wp2_with fail
    go_ret
    exact ⟨rfl, RR.out⟩
   | true =>
    obtain rfl : R = B2 := by simpa using hR
    clear hR
    go_enter Tryz.func68, Tryz.ntmps68
    go_wp2_with fail
    refine (k1 _ (Below.refl _ _)).mono ?_
    rintro e w1 ⟨rfl, rr⟩
    have RR := Lib.hid rr
    clear rr
    go_wp2_with fail
    refine (k2 _ RR.out).mono ?_
    rintro e w2 ⟨rfl, rr⟩
    have RR2 := Lib.hid (then_below RR.out rr)
    clear rr
    go_wp2_with fail
    go_ret
    exact ⟨rfl, RR2.out⟩
 · have ht : ((n1 : Int) == (n2 : Int)) = false := by simp; omega
   obtain rfl : R = false := by simpa [e] using hR
   clear hR e
   go_enter Tryz.func68, Tryz.ntmps68
   go_wp2_with fail
   go_ret
   exact ⟨rfl, Below.refl _ _⟩
end Go.Proofs.YtbndmpdaloadjaaGreat
