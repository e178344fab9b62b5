/- NatsNone: its walks. -/
import Derived.Test.YtogpdkdkmgjdpaaTwin
import Derived.Test.YtogpdkdkmgjdpaaDec
import Derived.Test.YtogpdkdkmgjdpaaRing
namespace Go.Proofs.Ytogpdkdkmgjdpaa
open Go Go.Proofs Go.RowKit Go.Shelf Nu

theorem chk_set_last {l : List Nat} {n : Nat} (h0 : l.length ≠ 0) (hn : n = l.length) : chk (l.set (n - 1) 0) = false := by
  cases hc : chk (l.set (n - 1) 0) with
  | false => rfl
  | true =>
    rcases (chk_iff _).1 hc with h | h
    · have := congrArg List.length h
      rw [List.length_set, List.length_nil] at this
      exact absurd this h0
    · rw [List.length_set, hn] at h
      simp [List.getD_eq_getElem?_getD, show l.length - 1 < l.length by omega] at h
theorem Calls.eqBelow {P : Program} {f : FuncId} {args : Array Value} {w : World} {v : Ending} (h : Calls P f args w fun e w' => e = v ∧ w' = w) : Calls P f args w fun e w' => e = v ∧ Below w.heap.size w w' := h.mono fun _ _ ⟨h1, h2⟩ => ⟨h1, h2 ▸ Below.refl _ _⟩
theorem Calls.eqBelow' {P : Program} {f : FuncId} {args : Array Value} {w : World} {v : Ending} (h : Calls P f args w fun e w' => e = v ∧ w = w') : Calls P f args w fun e w' => e = v ∧ Below w.heap.size w w' := h.mono fun _ _ ⟨h1, h2⟩ => ⟨h1, h2 ▸ Below.refl _ _⟩

set_option maxRecDepth 100000 in
set_option maxHeartbeats 2000000 in
theorem none_far {w : World} {a1 b1 : Option Addr} {na nb ca cb : Nat} (h : 60 < na ∨ (¬ 60 < na ∧ 60 < nb) ∨ (¬ 60 < na ∧ ¬ 60 < nb ∧ na = 0)) :
    Calls Try.prog 9 #[.slice a1 na ca, .slice b1 nb cb] w fun e w' => e = .returned (.bool true) ∧ Below w.heap.size w w' := by

  have hc : (60 < (na : Int)) ∨ (¬ 60 < (na : Int) ∧ 60 < (nb : Int)) ∨ (¬ 60 < (na : Int) ∧ ¬ 60 < (nb : Int) ∧ (na : Int) = 0) := by omega
  clear h
  rcases hc with h1 | ⟨h1, h2⟩ | ⟨h1, h2, h3⟩
  all_goals
    have r0 := Below.refl w.heap.size w
    go_enter Try.func9, Try.ntmps9
    go_wp2_with (first
      | (go_at_call 11; with_reducible refine (alive_any w).mono ?_; rintro e w1 ⟨rfl, r1⟩; replace r0 := then_below r0 r1)
      | (go_at_call 11; with_reducible refine (alive_any w1).mono ?_; rintro e w2 ⟨rfl, r2⟩; replace r0 := then_below r0 r2))
    go_ret
    exact ⟨rfl, r0⟩

set_option maxRecDepth 100000 in
set_option maxHeartbeats 4000000 in
theorem none_near {w : World} {a1 b1 : Option Addr} {ca cb : Nat} {la lb : List Nat} (ga : Reads w (.slice a1 la.length ca) la) (gb : Reads w (.slice b1 lb.length cb) lb) (LA : la.length ≤ 60) (LB : lb.length ≤ 60) (hn : la.length ≠ 0) (hsa : Sm la) (hsb : Sm lb) :
    Calls Try.prog 9 #[.slice a1 la.length ca, .slice b1 lb.length cb] w fun e w' => e = .returned (.bool true) ∧ Below w.heap.size w w' := by
  obtain ⟨B, hB⟩ : ∃ B, B = nv lb := ⟨_, rfl⟩
  have lB : (digs B).length ≤ 60 := by rw [hB]; exact Nat.le_trans (digs_nv_le hsb) LB
  obtain ⟨n, hn1⟩ : ∃ n, n = la.length := ⟨_, rfl⟩
  obtain ⟨od, hod⟩ : ∃ od, od = la.set (n - 1) 0 := ⟨_, rfl⟩
  have hol : od.length = n := by rw [hod, List.length_set, hn1]
  have hos : Sm od := by rw [hod]; exact hsa.set _ _ (by decide)
  have hoc : chk od = false := by rw [hod]; exact chk_set_last hn hn1
  have hov : nv od = 0 := by simp [nv, hoc]
  have kt := fun (W : World) (g : Reads W (.slice a1 la.length ca) la) => twin_any g (by omega)
  have kck := fun (W : World) {g cap : Nat} (h1 : Reads W (.slice (some ⟨g, 0, none⟩) n cap) od) => Calls.eqBelow' (check_any (h1) (by omega))
  rw [hoc] at kck
  have kbk := fun (W : World) {g cap : Nat} (h1 : Reads W (.slice (some ⟨g, 0, none⟩) n cap) od) => back_any' (h1) (by omega) hos
  rw [show backV od = .tuple #[.int .u64 0, .int .i64 1] by simp [backV, hoc]] at kbk
  have ksb := fun (W : World) {g cap : Nat} (h1 : Reads W (.slice (some ⟨g, 0, none⟩) n cap) od) (h2 : Reads W (.slice b1 lb.length cb) lb) => sub_bad h1 h2 (by omega) (by omega) hos hsb (.inl hoc)
  have kdv := fun (W : World) {g cap : Nat} (h1 : Reads W (.slice (some ⟨g, 0, none⟩) n cap) od) (h2 : Reads W (.slice b1 lb.length cb) lb) => Calls.eqBelow (div_bad h2 h1 (by omega) (by omega) (.inr hoc))
  have ktx := fun (W : World) {g cap : Nat} (h1 : Reads W (.slice (some ⟨g, 0, none⟩) n cap) od) => text_gen h1 hos (by omega) ⟨#[48]⟩ (by rw [hov]; exact txt_zero.symm)
  have kc1 := fun (W : World) {g cap : Nat} (h1 : Reads W (.slice (some ⟨g, 0, none⟩) n cap) od) (h2 : Reads W (.slice b1 lb.length cb) lb) => cmp_any h1 h2 (by omega) (by omega) hos hsb
  have kc2 := fun (W : World) (h2 : Reads W (.slice b1 lb.length cb) lb) => cmp_any (Reads.nil W) h2 (by simp) (by omega) Sm.nil hsb
  rw [hov, ← hB] at kc1
  rw [show nv [] = 0 by simp [nv, val], ← hB] at kc2
  simp only [subNo] at ksb
  simp only [divNo] at kdv
  obtain ⟨z, hz⟩ : ∃ z, z = sgn 0 B := ⟨_, rfl⟩
  rw [← hz] at kc1 kc2
  have ka1 := fun (W : World) {g cap : Nat} (h1 : Reads W (.slice (some ⟨g, 0, none⟩) n cap) od) (h2 : Reads W (.slice b1 lb.length cb) lb) => add_form h1 h2 (by omega) (by omega) hos hsb B (by rw [hov, hB, Nat.zero_add])
  have ka2 := fun (W : World) (h2 : Reads W (.slice b1 lb.length cb) lb) => add_form (Reads.nil W) h2 (by simp) (by omega) Sm.nil hsb B (by rw [hB]; simp [nv, val])
  have km := fun (W : World) {g cap : Nat} (h1 : Reads W (.slice (some ⟨g, 0, none⟩) n cap) od) (h2 : Reads W (.slice b1 lb.length cb) lb) => mul_form h1 h2 (by omega) (by omega) hos hsb 0 (by rw [hov, Nat.zero_mul])
  rw [digs_zero, List.length_nil] at km
  have kg1 := fun (W : World) {g cap : Nat} (h1 : Reads W (.slice (some ⟨g, 0, none⟩) n cap) od) (h2 : Reads W (.slice b1 lb.length cb) lb) => gcd_zero h1 h2 (by omega) (by omega) hos hsb hov
  have kg2 := fun (W : World) (h2 : Reads W (.slice b1 lb.length cb) lb) => gcd_zero (Reads.nil W) h2 (by simp) (by omega) Sm.nil hsb (by simp [nv, val])
  rw [← hB] at kg1 kg2
  have ks := fun (W : World) {p1 p2 : Option Addr} {q1 q2 : Nat} (h1 : Reads W (.slice p1 (digs B).length q1) (digs B)) (h2 : Reads W (.slice p2 (digs B).length q2) (digs B)) => d_same true h1 h2 (by omega) (by omega) (by simp)
  have i1 : ¬ 60 < (n : Int) := by omega
  have i2 : ¬ 60 < (lb.length : Int) := by omega
  have i3 : ((n : Int) == 0) = false := beq_eq_false_iff_ne.2 (by omega)
  have i4 : (n : Int) - 1 = ((n - 1 : Nat) : Int) := by omega
  obtain ⟨m, hm⟩ : ∃ m, m = n - 1 := ⟨_, rfl⟩
  have i5 : m < n := by omega
  rw [← hm] at i4
  have HOD := Lib.hid hod
  have HOL := Lib.hid hol
  have HM := Lib.hid hm
  have HN := Lib.hid hn1
  rw [← hn1] at ga kt ⊢

  clear LA LB hn hsa hsb hB lB hod hol hos hoc hov hz hm hn1
  go_enter Try.func9, Try.ntmps9
  go_wp2_with (first
    | (go_at_call 11; go_loud (with_reducible refine (alive_any w).mono ?_; rintro e w1 ⟨rfl, r1⟩; have r0 := r1; replace ga := ga.below r1))
    | (go_at_call 26; go_loud (with_reducible refine (kt w1 ga).mono ?_; rintro e w2 ⟨g, cap, post, rfl, gk, hwg, hcap, r2⟩; have hwg2 : w.heap.size ≤ g := Nat.le_trans r0.size hwg; have e1 := gk.frozen m; have e2 := gk.cell (o := 0) rfl m (by have := HN.out; omega); rw [Nat.zero_add] at e2; have gs := gk.set (o := 0) rfl m 0 (by have := HN.out; omega); rw [Nat.zero_add, show ((0 : Nat) : Int) = 0 from rfl] at gs; have r3 := (then_below r0 r2).setCell (p := ⟨g, m, none⟩) hwg2 (.int .u32 0); have go := gs.reads (o := 0) (cap := cap) rfl (by rw [List.length_set, ← HN.out]; exact hcap); rw [List.length_set, ← HN.out, HM.out, ← HOD.out] at go; rw [HM.out] at r3; rw [← HM.out] at go r3; have gc := gb.below r3; clear gs gk hwg hwg2 hcap r2 r0; have HGo := Lib.hid go; have HGc := Lib.hid gc; have HR3 := Lib.hid r3; clear go gc r3; obtain ⟨xx, hxx⟩ : ∃ xx, xx = la.getD m 0 := ⟨_, rfl⟩; rw [← hxx] at e2; clear hxx))
    | (go_at_call 25; have go := HGo.out; have gc := HGc.out; have r0 := HR3.out; with_reducible refine (kbk _ go).mono ?_; rintro e w3 ⟨rfl, r3⟩; replace r0 := then_below r0 r3; replace go := go.below r3; replace gc := gc.below r3)
    | (go_at_call 19; with_reducible refine (ksb w3 go gc).mono ?_; rintro e w4 ⟨rfl, r4⟩; replace r0 := then_below r0 r4; replace go := go.below r4; replace gc := gc.below r4)
    | (go_at_call 16; with_reducible refine (kdv w4 go gc).mono ?_; rintro e w5 ⟨rfl, r5⟩; replace r0 := then_below r0 r5; replace go := go.below r5; replace gc := gc.below r5)
    | (go_at_call 14; with_reducible refine (kck w5 go).mono ?_; rintro e w6 ⟨rfl, r6⟩; replace r0 := then_below r0 r6; replace go := go.below r6; replace gc := gc.below r6)
    | (go_at_call 22; with_reducible refine (ktx w6 go).mono ?_; rintro e w7 ⟨rfl, r7⟩; replace r0 := then_below r0 r7; replace go := go.below r7; replace gc := gc.below r7)
    | (go_at_call 17; with_reducible refine (kc1 w7 go gc).mono ?_; rintro e w8 ⟨rfl, r8⟩; replace r0 := then_below r0 r8; replace go := go.below r8; replace gc := gc.below r8)
    | (go_at_call 17; with_reducible refine (kc2 w8 gc).mono ?_; rintro e w9 ⟨rfl, r9⟩; replace r0 := then_below r0 r9; replace go := go.below r9; replace gc := gc.below r9)
    | (go_at_call 12; with_reducible refine (ka1 w9 go gc).mono ?_; rintro e w10 ⟨x10, y10, rfl, gA, r10⟩; replace r0 := then_below r0 r10; replace go := go.below r10; replace gc := gc.below r10)
    | (go_at_call 12; with_reducible refine (ka2 w10 gc).mono ?_; rintro e w11 ⟨x11, y11, rfl, gB, r11⟩; replace r0 := then_below r0 r11; replace go := go.below r11; replace gc := gc.below r11; replace gA := gA.below r11)
    | (go_at_call 15; with_reducible refine (ks w11 gA gB).mono ?_; rintro e w12 ⟨rfl, r12⟩; replace r0 := then_below r0 r12; replace go := go.below r12; replace gc := gc.below r12)
    | (go_at_call 13; with_reducible refine (km w12 go gc).mono ?_; rintro e w13 ⟨x13, y13, rfl, gM, r13⟩; replace r0 := then_below r0 r13; replace go := go.below r13; replace gc := gc.below r13)
    | (go_at_call 20; with_reducible refine (kg1 w13 go gc).mono ?_; rintro e w14 ⟨x14, y14, rfl, gC, r14⟩; replace r0 := then_below r0 r14; replace go := go.below r14; replace gc := gc.below r14)
    | (go_at_call 20; with_reducible refine (kg2 w14 gc).mono ?_; rintro e w15 ⟨x15, y15, rfl, gD, r15⟩; replace r0 := then_below r0 r15; replace go := go.below r15; replace gc := gc.below r15; replace gC := gC.below r15)
    | (go_at_call 15; with_reducible refine (ks w15 gC gD).mono ?_; rintro e w16 ⟨rfl, r16⟩; replace r0 := then_below r0 r16; replace go := go.below r16; replace gc := gc.below r16))
  go_ret
  exact ⟨rfl, r0⟩

end Go.Proofs.Ytogpdkdkmgjdpaa
