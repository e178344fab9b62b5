/- NatsRing, where each has 100 parts at most. -/
import Derived.Test.YtogpdkdkmgjdpaaRing
namespace Go.Proofs.Ytogpdkdkmgjdpaa
open Go Go.Proofs Go.RowKit Go.Shelf Nu

theorem mul_none {w : World} {a1 : Option Addr} {n1 c1 : Nat} {la : List Nat} (ha : Reads w (.slice a1 n1 c1) la) (hla : la.length ≤ 100000) (hsa : Sm la) :
    Calls Try.prog 13 #[.slice a1 n1 c1, .slice none 0 0] w fun e w' => ∃ a c, e = .returned (.slice a 0 c) ∧ Below w.heap.size w w' := by
  have k := mul_form (lb := []) ha (.inl ⟨rfl, rfl⟩) hla (by simp) hsa Sm.nil 0 (by simp [nv, val])
  rw [digs_zero] at k
  exact k.mono fun e w' ⟨a, c, h1, _, h3⟩ => ⟨a, c, h1, h3⟩

set_option maxRecDepth 100000 in
set_option maxHeartbeats 2000000 in
theorem ring_near {w : World} {a1 b1 d1 : Option Addr} {ca cb cc : Nat} {la lb lc : List Nat} (ha : Reads w (.slice a1 la.length ca) la) (hb : Reads w (.slice b1 lb.length cb) lb) (hc : Reads w (.slice d1 lc.length cc) lc)
    (hla : la.length ≤ 100) (hlb : lb.length ≤ 100) (hlc : lc.length ≤ 100) (hsa : Sm la) (hsb : Sm lb) (hsc : Sm lc) :
    Calls Try.prog 3 #[.slice a1 la.length ca, .slice b1 lb.length cb, .slice d1 lc.length cc] w fun e w' => e = .returned (.bool true) ∧ Below w.heap.size w w' := by
  have hA := digs_nv_le hsa
  have hB := digs_nv_le hsb
  have hC := digs_nv_le hsc
  obtain ⟨S, hS⟩ : ∃ S, S = nv la + nv lb := ⟨_, rfl⟩
  have LS : (digs S).length ≤ 201 := by rw [hS]; have := digs_add_le (nv la) (nv lb); omega
  obtain ⟨P, hP⟩ : ∃ P, P = nv la * nv lb := ⟨_, rfl⟩
  have LP : (digs P).length ≤ 200 := by rw [hP]; have := digs_mul_le (nv la) (nv lb); omega
  obtain ⟨X, hX⟩ : ∃ X, X = nv la * nv lc := ⟨_, rfl⟩
  have LX : (digs X).length ≤ 200 := by rw [hX]; have := digs_mul_le (nv la) (nv lc); omega
  obtain ⟨Y, hY⟩ : ∃ Y, Y = nv lb * nv lc := ⟨_, rfl⟩
  have LY : (digs Y).length ≤ 200 := by rw [hY]; have := digs_mul_le (nv lb) (nv lc); omega
  obtain ⟨Z, hZ⟩ : ∃ Z, Z = X + Y := ⟨_, rfl⟩
  have LZ : (digs Z).length ≤ 401 := by rw [hZ]; have := digs_add_le X Y; omega
  obtain ⟨U, hU⟩ : ∃ U, U = nv lb + nv lc := ⟨_, rfl⟩
  have LU : (digs U).length ≤ 201 := by rw [hU]; have := digs_add_le (nv lb) (nv lc); omega
  obtain ⟨T, hT⟩ : ∃ T, T = S + nv lc := ⟨_, rfl⟩
  have LT : (digs T).length ≤ 302 := by rw [hT]; have := digs_add_le S (nv lc); omega
  obtain ⟨Q, hQ⟩ : ∃ Q, Q = P * nv lc := ⟨_, rfl⟩
  have LQ : (digs Q).length ≤ 300 := by rw [hQ]; have := digs_mul_le P (nv lc); omega
  have kAB := fun (W : World) (h1 : Reads W (.slice a1 la.length ca) la) (h2 : Reads W (.slice b1 lb.length cb) lb) => add_form h1 h2 (by omega) (by omega) hsa hsb S (hS)
  have mAB := fun (W : World) (h1 : Reads W (.slice a1 la.length ca) la) (h2 : Reads W (.slice b1 lb.length cb) lb) => mul_form h1 h2 (by omega) (by omega) hsa hsb P (hP)
  have mAC := fun (W : World) (h1 : Reads W (.slice a1 la.length ca) la) (h2 : Reads W (.slice d1 lc.length cc) lc) => mul_form h1 h2 (by omega) (by omega) hsa hsc X (hX)
  have mBC := fun (W : World) (h1 : Reads W (.slice b1 lb.length cb) lb) (h2 : Reads W (.slice d1 lc.length cc) lc) => mul_form h1 h2 (by omega) (by omega) hsb hsc Y (hY)
  have kXY := fun (W : World) {p1 : Option Addr} {q1 : Nat} {p2 : Option Addr} {q2 : Nat} (h1 : Reads W (.slice p1 (digs X).length q1) (digs X)) (h2 : Reads W (.slice p2 (digs Y).length q2) (digs Y)) => add_form h1 h2 (Nat.le_trans LX (by decide)) (Nat.le_trans LY (by decide)) (sm_digs _) (sm_digs _) Z (by rw [nv_digs, nv_digs, hZ])
  have kBA := fun (W : World) (h1 : Reads W (.slice b1 lb.length cb) lb) (h2 : Reads W (.slice a1 la.length ca) la) => add_form h1 h2 (by omega) (by omega) hsb hsa S (by rw [hS, Nat.add_comm])
  have mBA := fun (W : World) (h1 : Reads W (.slice b1 lb.length cb) lb) (h2 : Reads W (.slice a1 la.length ca) la) => mul_form h1 h2 (by omega) (by omega) hsb hsa P (by rw [hP, Nat.mul_comm])
  have kSC := fun (W : World) {p1 : Option Addr} {q1 : Nat} (h1 : Reads W (.slice p1 (digs S).length q1) (digs S)) (h2 : Reads W (.slice d1 lc.length cc) lc) => add_form h1 h2 (Nat.le_trans LS (by decide)) (by omega) (sm_digs _) hsc T (by rw [nv_digs, hT])
  have kBC := fun (W : World) (h1 : Reads W (.slice b1 lb.length cb) lb) (h2 : Reads W (.slice d1 lc.length cc) lc) => add_form h1 h2 (by omega) (by omega) hsb hsc U (hU)
  have kAU := fun (W : World) {p2 : Option Addr} {q2 : Nat} (h1 : Reads W (.slice a1 la.length ca) la) (h2 : Reads W (.slice p2 (digs U).length q2) (digs U)) => add_form h1 h2 (by omega) (Nat.le_trans LU (by decide)) hsa (sm_digs _) T (by rw [nv_digs, hT, hU, hS, Nat.add_assoc])
  have mPC := fun (W : World) {p1 : Option Addr} {q1 : Nat} (h1 : Reads W (.slice p1 (digs P).length q1) (digs P)) (h2 : Reads W (.slice d1 lc.length cc) lc) => mul_form h1 h2 (Nat.le_trans LP (by decide)) (by omega) (sm_digs _) hsc Q (by rw [nv_digs, hQ])
  have mAY := fun (W : World) {p2 : Option Addr} {q2 : Nat} (h1 : Reads W (.slice a1 la.length ca) la) (h2 : Reads W (.slice p2 (digs Y).length q2) (digs Y)) => mul_form h1 h2 (by omega) (Nat.le_trans LY (by decide)) hsa (sm_digs _) Q (by rw [nv_digs, hQ, hY, hP, Nat.mul_assoc])
  have mSC := fun (W : World) {p1 : Option Addr} {q1 : Nat} (h1 : Reads W (.slice p1 (digs S).length q1) (digs S)) (h2 : Reads W (.slice d1 lc.length cc) lc) => mul_form h1 h2 (Nat.le_trans LS (by decide)) (by omega) (sm_digs _) hsc Z (by rw [nv_digs, hZ, hX, hY, hS, Nat.add_mul])
  have sS := fun (W : World) {p1 p2 : Option Addr} {q1 q2 : Nat} (h1 : Reads W (.slice p1 (digs S).length q1) (digs S)) (h2 : Reads W (.slice p2 (digs S).length q2) (digs S)) => same_form h1 h2 (Nat.le_trans LS (by decide)) rfl
  have sP := fun (W : World) {p1 p2 : Option Addr} {q1 q2 : Nat} (h1 : Reads W (.slice p1 (digs P).length q1) (digs P)) (h2 : Reads W (.slice p2 (digs P).length q2) (digs P)) => same_form h1 h2 (Nat.le_trans LP (by decide)) rfl
  have sT := fun (W : World) {p1 p2 : Option Addr} {q1 q2 : Nat} (h1 : Reads W (.slice p1 (digs T).length q1) (digs T)) (h2 : Reads W (.slice p2 (digs T).length q2) (digs T)) => same_form h1 h2 (Nat.le_trans LT (by decide)) rfl
  have sQ := fun (W : World) {p1 p2 : Option Addr} {q1 q2 : Nat} (h1 : Reads W (.slice p1 (digs Q).length q1) (digs Q)) (h2 : Reads W (.slice p2 (digs Q).length q2) (digs Q)) => same_form h1 h2 (Nat.le_trans LQ (by decide)) rfl
  have sZ := fun (W : World) {p1 p2 : Option Addr} {q1 q2 : Nat} (h1 : Reads W (.slice p1 (digs Z).length q1) (digs Z)) (h2 : Reads W (.slice p2 (digs Z).length q2) (digs Z)) => same_form h1 h2 (Nat.le_trans LZ (by decide)) rfl
  have cS := fun (W : World) {p1 : Option Addr} {q1 : Nat} (h1 : Reads W (.slice p1 (digs S).length q1) (digs S)) => check_form h1 (Nat.le_trans LS (by decide)) (chk_digs _)
  have cP := fun (W : World) {p1 : Option Addr} {q1 : Nat} (h1 : Reads W (.slice p1 (digs P).length q1) (digs P)) => check_form h1 (Nat.le_trans LP (by decide)) (chk_digs _)
  have mA0 := fun (W : World) (h1 : Reads W (.slice a1 la.length ca) la) => mul_none h1 (by omega) hsa
  have h1 : ¬ 100 < (la.length : Int) := by omega
  have h2 : ¬ 100 < (lb.length : Int) := by omega
  have h3 : ¬ 100 < (lc.length : Int) := by omega
  clear hS hP hX hY hZ hU hT hQ LS LP LX LY LZ LU LT LQ hA hB hC hla hlb hlc hsa hsb hsc
  go_enter Try.func3, Try.ntmps3
  go_wp2_with (first
    | (go_at_call 11; with_reducible refine (alive_any w).mono ?_; rintro e w1 ⟨rfl, r1⟩)
    | (go_at_call 12; with_reducible refine (kAB w1 (ha.below r1) (hb.below r1)).mono ?_; rintro e w2 ⟨x2, y2, rfl, gS, r2⟩)
    | (go_at_call 13; with_reducible refine (mAB w2 (ha.below (then_below r1 r2)) (hb.below (then_below r1 r2))).mono ?_; rintro e w3 ⟨x3, y3, rfl, gP, r3⟩)
    | (go_at_call 13; with_reducible refine (mAC w3 (ha.below (then_below (then_below r1 r2) r3)) (hc.below (then_below (then_below r1 r2) r3))).mono ?_; rintro e w4 ⟨x4, y4, rfl, gX, r4⟩)
    | (go_at_call 13; with_reducible refine (mBC w4 (hb.below (then_below (then_below (then_below r1 r2) r3) r4)) (hc.below (then_below (then_below (then_below r1 r2) r3) r4))).mono ?_; rintro e w5 ⟨x5, y5, rfl, gY, r5⟩)
    | (go_at_call 12; with_reducible refine (kXY w5 (gX.below r5) gY).mono ?_; rintro e w6 ⟨x6, y6, rfl, gZ, r6⟩)
    | (go_at_call 14; with_reducible refine (cS w6 (gS.below (then_below (then_below (then_below r3 r4) r5) r6))).mono ?_; clear cS; rintro e w' ⟨rfl, rfl⟩)
    | (go_at_call 14; with_reducible refine (cP w6 (gP.below (then_below (then_below r4 r5) r6))).mono ?_; clear cP; rintro e w' ⟨rfl, rfl⟩)
    | (go_at_call 12; with_reducible refine (kBA w6 (hb.below (then_below (then_below (then_below (then_below (then_below r1 r2) r3) r4) r5) r6)) (ha.below (then_below (then_below (then_below (then_below (then_below r1 r2) r3) r4) r5) r6))).mono ?_; rintro e w7 ⟨x7, y7, rfl, gS2, r7⟩)
    | (go_at_call 15; with_reducible refine (sS w7 (gS.below (then_below (then_below (then_below (then_below r3 r4) r5) r6) r7)) gS2).mono ?_; rintro e w8 ⟨rfl, r8⟩)
    | (go_at_call 13; with_reducible refine (mBA w8 (hb.below (then_below (then_below (then_below (then_below (then_below (then_below (then_below r1 r2) r3) r4) r5) r6) r7) r8)) (ha.below (then_below (then_below (then_below (then_below (then_below (then_below (then_below r1 r2) r3) r4) r5) r6) r7) r8))).mono ?_; rintro e w9 ⟨x9, y9, rfl, gP2, r9⟩)
    | (go_at_call 15; with_reducible refine (sP w9 (gP.below (then_below (then_below (then_below (then_below (then_below r4 r5) r6) r7) r8) r9)) gP2).mono ?_; rintro e w10 ⟨rfl, r10⟩)
    | (go_at_call 12; with_reducible refine (kSC w10 (gS.below (then_below (then_below (then_below (then_below (then_below (then_below (then_below r3 r4) r5) r6) r7) r8) r9) r10)) (hc.below (then_below (then_below (then_below (then_below (then_below (then_below (then_below (then_below (then_below r1 r2) r3) r4) r5) r6) r7) r8) r9) r10))).mono ?_; rintro e w11 ⟨x11, y11, rfl, gT, r11⟩)
    | (go_at_call 12; with_reducible refine (kBC w11 (hb.below (then_below (then_below (then_below (then_below (then_below (then_below (then_below (then_below (then_below (then_below r1 r2) r3) r4) r5) r6) r7) r8) r9) r10) r11)) (hc.below (then_below (then_below (then_below (then_below (then_below (then_below (then_below (then_below (then_below (then_below r1 r2) r3) r4) r5) r6) r7) r8) r9) r10) r11))).mono ?_; rintro e w12 ⟨x12, y12, rfl, gU, r12⟩)
    | (go_at_call 12; with_reducible refine (kAU w12 (ha.below (then_below (then_below (then_below (then_below (then_below (then_below (then_below (then_below (then_below (then_below (then_below r1 r2) r3) r4) r5) r6) r7) r8) r9) r10) r11) r12)) gU).mono ?_; rintro e w13 ⟨x13, y13, rfl, gT2, r13⟩)
    | (go_at_call 15; with_reducible refine (sT w13 (gT.below (then_below r12 r13)) gT2).mono ?_; rintro e w14 ⟨rfl, r14⟩)
    | (go_at_call 13; with_reducible refine (mPC w14 (gP.below (then_below (then_below (then_below (then_below (then_below (then_below (then_below (then_below (then_below (then_below r4 r5) r6) r7) r8) r9) r10) r11) r12) r13) r14)) (hc.below (then_below (then_below (then_below (then_below (then_below (then_below (then_below (then_below (then_below (then_below (then_below (then_below (then_below r1 r2) r3) r4) r5) r6) r7) r8) r9) r10) r11) r12) r13) r14))).mono ?_; rintro e w15 ⟨x15, y15, rfl, gQ, r15⟩)
    | (go_at_call 13; with_reducible refine (mBC w15 (hb.below (then_below (then_below (then_below (then_below (then_below (then_below (then_below (then_below (then_below (then_below (then_below (then_below (then_below (then_below r1 r2) r3) r4) r5) r6) r7) r8) r9) r10) r11) r12) r13) r14) r15)) (hc.below (then_below (then_below (then_below (then_below (then_below (then_below (then_below (then_below (then_below (then_below (then_below (then_below (then_below (then_below r1 r2) r3) r4) r5) r6) r7) r8) r9) r10) r11) r12) r13) r14) r15))).mono ?_; rintro e w16 ⟨x16, y16, rfl, gY2, r16⟩)
    | (go_at_call 13; with_reducible refine (mAY w16 (ha.below (then_below (then_below (then_below (then_below (then_below (then_below (then_below (then_below (then_below (then_below (then_below (then_below (then_below (then_below (then_below r1 r2) r3) r4) r5) r6) r7) r8) r9) r10) r11) r12) r13) r14) r15) r16)) gY2).mono ?_; rintro e w17 ⟨x17, y17, rfl, gQ2, r17⟩)
    | (go_at_call 15; with_reducible refine (sQ w17 (gQ.below (then_below r16 r17)) gQ2).mono ?_; rintro e w18 ⟨rfl, r18⟩)
    | (go_at_call 13; with_reducible refine (mSC w18 (gS.below (then_below (then_below (then_below (then_below (then_below (then_below (then_below (then_below (then_below (then_below (then_below (then_below (then_below (then_below (then_below r3 r4) r5) r6) r7) r8) r9) r10) r11) r12) r13) r14) r15) r16) r17) r18)) (hc.below (then_below (then_below (then_below (then_below (then_below (then_below (then_below (then_below (then_below (then_below (then_below (then_below (then_below (then_below (then_below (then_below (then_below r1 r2) r3) r4) r5) r6) r7) r8) r9) r10) r11) r12) r13) r14) r15) r16) r17) r18))).mono ?_; rintro e w19 ⟨x19, y19, rfl, gZ2, r19⟩)
    | (go_at_call 15; with_reducible refine (sZ w19 gZ2 (gZ.below (then_below (then_below (then_below (then_below (then_below (then_below (then_below (then_below (then_below (then_below (then_below (then_below r7 r8) r9) r10) r11) r12) r13) r14) r15) r16) r17) r18) r19))).mono ?_; rintro e w20 ⟨rfl, r20⟩)
    | (go_at_call 13; with_reducible refine (mA0 w20 (ha.below (then_below (then_below (then_below (then_below (then_below (then_below (then_below (then_below (then_below (then_below (then_below (then_below (then_below (then_below (then_below (then_below (then_below (then_below (then_below r1 r2) r3) r4) r5) r6) r7) r8) r9) r10) r11) r12) r13) r14) r15) r16) r17) r18) r19) r20))).mono ?_; rintro e w21 ⟨x21, y21, rfl, r21⟩))
  go_ret
  exact ⟨rfl, (then_below (then_below (then_below (then_below (then_below (then_below (then_below (then_below (then_below (then_below (then_below (then_below (then_below (then_below (then_below (then_below (then_below (then_below (then_below (then_below r1 r2) r3) r4) r5) r6) r7) r8) r9) r10) r11) r12) r13) r14) r15) r16) r17) r18) r19) r20) r21)⟩

end Go.Proofs.Ytogpdkdkmgjdpaa
