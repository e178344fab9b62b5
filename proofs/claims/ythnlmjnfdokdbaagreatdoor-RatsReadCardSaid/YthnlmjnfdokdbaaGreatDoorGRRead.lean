/- RatsRead: its walks. -/
import Derived.Test.YthnlmjnfdokdbaaGreatDoorGRatPo
import Derived.Test.YthnlmjnfdokdbaaGreatDoorGRatAlive
import Derived.Test.YthnlmjnfdokdbaaGreatDoorGRatCmp
import Derived.Test.YthnlmjnfdokdbaaGreatDoorGRatLaw
set_option linter.unusedSimpArgs false
set_option linter.unusedVariables false
namespace Go.Proofs.YthnlmjnfdokdbaaGreatDoor
open Go Go.Proofs Go.RowKit Go.Shelf Nu

attribute [local go_sem] Oper.semAt_some

theorem rtxt_zero : rtxt 0 = ⟨#[48]⟩ := by
  have : rtxt ((0 : Int) : Rat) = itxt 0 := by unfold rtxt; rw [if_pos (by rfl)]; rfl
  rw [show (0 : Rat) = ((0 : Int) : Rat) from rfl, this]
  unfold itxt
  rw [if_neg (by omega)]
  exact txt_nought
theorem rtxt_size {s : Bool} {L D : List Nat} {X : Rat} (h : RCan s L D X) : (rtxt X).size ≤ 10 * (L.length + D.length) + 5 := by
  have h1 := itxt_size h.1
  have h2 := low_len_val (sm_digs X.den)
  rw [val_digs, ← h.2] at h2
  unfold rtxt
  split
  · omega
  · rw [ByteArray.size_append, ByteArray.size_append, txt_size, show (⟨#[47]⟩ : ByteArray).size = 1 from rfl]; omega
theorem rlit_len {Z : Rat} (h1 : (txt Z.num.natAbs).size ≤ 200) (h2 : (txt Z.den).size ≤ 200) : (rtxt Z).size ≤ 402 ∧ rl Z ≤ 400 := by
  have k1 : (digs Z.num.natAbs).length ≤ 200 := by
    have := numv_len (txt Z.num.natAbs) (txt Z.num.natAbs).size (fun j hj => ((txt_num _).1 j hj).2)
    rw [txt_numv] at this; omega
  have k2 : (digs Z.den).length ≤ 200 := by
    have := numv_len (txt Z.den) (txt Z.den).size (fun j hj => ((txt_num _).1 j hj).2)
    rw [txt_numv] at this; omega
  have hb : (⟨#[45]⟩ : ByteArray).size = 1 := rfl
  have hc : (⟨#[47]⟩ : ByteArray).size = 1 := rfl
  have k3 : (itxt Z.num).size ≤ 201 := by
    unfold itxt
    split
    · rw [ByteArray.size_append, hb]; omega
    · omega
  refine ⟨?_, by unfold rl; omega⟩
  unfold rtxt
  split
  · omega
  · rw [ByteArray.size_append, ByteArray.size_append, hc]; omega
theorem txt_le_rtxt (X : Rat) : (txt X.num.natAbs).size ≤ (rtxt X).size ∧ (X.den ≠ 1 → (txt X.den).size ≤ (rtxt X).size) := by
  have h1 : (txt X.num.natAbs).size ≤ (itxt X.num).size := by
    unfold itxt
    split
    · rw [ByteArray.size_append]; omega
    · omega
  unfold rtxt
  split
  · exact ⟨h1, fun h => absurd ‹_› h⟩
  · rw [ByteArray.size_append, ByteArray.size_append]; exact ⟨by omega, fun _ => by omega⟩
theorem pout_short {X : Rat} (h : (rtxt X).size ≤ 200) : pout (rtxt X) = (0, X) := by
  obtain ⟨h1, h2⟩ := txt_le_rtxt X
  refine pout_rtxt (by omega) ?_
  by_cases hd : X.den = 1
  · rw [hd, txt_one]; decide
  · have := h2 hd; omega
theorem rcheck_can {w : World} {p1 p2 : Option Addr} {q1 q2 : Nat} {n : Bool} {l d : List Nat} {X : Rat} (h : RCan n l d X) (l1 : l.length ≤ 80000) (l2 : d.length ≤ 80000) (h1 : Reads w (.slice p1 l.length q1) l) (h2 : Reads w (.slice p2 d.length q2) d) :
    Calls Tryz.prog 36 #[.agg #[.bool n, .slice p1 l.length q1, .slice p2 d.length q2]] w fun e w' => e = .returned (.bool true) ∧ Below w.heap.size w w' := by
  have k := rcheck_any (n := n) h1 h2 h.sm.1 h.sm.2 l1 l2
  rwa [h.chk] at k
/-- Parse, of any text: something -/
theorem parse_some (s : ByteArray) (hs : s.size ≤ 200000) : ∃ E : Int, ∀ w, Calls Tryz.prog 34 #[.string s] w fun e w' => ∃ b a n c a' n' c', e = .returned (.tuple #[.agg #[.bool b, .slice a n c, .slice a' n' c'], .int .i64 E]) ∧ Below w.heap.size w w' := by
  rcases hp : pout s with ⟨E, Z⟩
  by_cases h : E = 0
  · subst h
    refine ⟨0, fun w => ?_⟩
    obtain ⟨sZ, LZ, DZ, kZ⟩ := RCan.ex Z
    refine (parse_val s hs hp kZ w).mono ?_
    rintro e w' ⟨a, c, a', c', rfl, _, _, hb⟩
    exact ⟨_, a, _, c, a', _, c', rfl, hb⟩
  · refine ⟨E, fun w => (parse_err s hs hp h w).mono ?_⟩
    rintro e w' ⟨rfl, hb⟩
    exact ⟨_, none, 0, 0, none, 0, 0, rfl, hb⟩

set_option maxRecDepth 100000 in
set_option maxHeartbeats 8000000 in
theorem rread_A3 {w : World} {n1 : Bool} {p1 o1 : Option Addr} {q1 r1 : Nat} {l1 d1 : List Nat} {X1 : Rat} {s : ByteArray} (c1 : RIs n1 l1 d1 X1) (m1 : l1.length + d1.length ≤ 60) (hs : s.size ≤ 2000) (g1 : Reads w (.slice p1 l1.length q1) l1) (h1 : Reads w (.slice o1 d1.length r1) d1) (hc : rchk n1 l1 d1 = false) {Z : Rat} (hp : pout s = (3, Z)) :
    Calls Tryz.prog 6 #[.agg #[.bool n1, .slice p1 l1.length q1, .slice o1 d1.length r1], .string s] w fun e w' => e = .returned (.bool true) ∧ Below w.heap.size w w' := by
  have kc := fun (W : World) (g1 : Reads W (.slice p1 l1.length q1) l1) (h1 : Reads W (.slice o1 d1.length r1) d1) => rcheck_any (n := n1) g1 h1 c1.1 c1.2.1 (by omega) (by omega)
  rw [hc] at kc
  have KC := Lib.hid kc
  obtain rfl := c1.zero hc
  obtain ⟨sX, LX, DX, cX⟩ := RCan.ex 0
  have lX := c1.lens cX
  have zT := rtxt_size cX
  obtain ⟨T, hT⟩ : ∃ T, T = rtxt 0 := ⟨_, rfl⟩
  have KT := Lib.hid (fun (W : World) (g1 : Reads W (.slice p1 l1.length q1) l1) (h1 : Reads W (.slice o1 d1.length r1) d1) => r_text T c1 hT (by omega) (by omega) g1 h1)
  rw [← hT] at zT
  obtain rfl : T = ⟨#[48]⟩ := by rw [hT, rtxt_zero]
  obtain ⟨E1, kp⟩ := parse_some ⟨#[48]⟩ (by decide)
  have KP := Lib.hid kp
  clear kp
  have hls : ∀ W : World, (Builtin.len_ #[9] 3 #[.string s]).run Tryz.prog W = .ok (.int .i64 (s.size : Int)) W := fun W => by rw [run_len_string W _ _ s (by kernel_rfl)]; rfl
  have hs1 : ¬ (2000 : Int) < (s.size : Int) := by omega
  have KQ := Lib.hid (fun (W : World) => parse_err s (by omega) hp (by decide) W)
  have hG : Hid (false = List.any [(n1, (p1, l1.length, q1), (o1, d1.length, r1))] fun t : Q7 => decide (60 < t.2.1.2.1 + t.2.2.2.1)) := Lib.hid (by simp; omega)
  have hZ : Hid (∀ t ∈ ([(n1, (p1, l1.length, q1), (o1, d1.length, r1))] : List Q7), t.2.1.2.1 ≤ 70368744177664 ∧ t.2.2.2.1 ≤ 70368744177664) := Lib.hid (by simp; omega)
  have M : Mem w [(w.heap.size, 27, [.bool n1, .slice p1 l1.length q1, .slice o1 d1.length r1])] [(.slice o1 d1.length r1, d1), (.slice p1 l1.length q1, l1)] (w.alloc (.cells #[.bool n1, .slice p1 l1.length q1, .slice o1 d1.length r1] 27)) := by
    have M := ((((Mem.start w).add g1).add h1).new 27 [.bool n1, .slice p1 l1.length q1, .slice o1 d1.length r1])
    simpa only [World.size_alloc] using M
  clear kc c1 m1 hs g1 h1 hc hp cX lX zT hT
  go_enter Tryz.func6, Tryz.ntmps6
  go_wp2_with fail
  refine (r_alive _).mono ?_
  rintro e w1 ⟨rfl, rr⟩
  have M' := M.up rr; clear M rr; have M := M'; clear M'
  have z_a_0 := M.cell 0 rfl 0 rfl; have z_a_1 := M.cell 0 rfl 1 rfl; have z_a_2 := M.cell 0 rfl 2 rfl
  go_wp2_with fail
  clear z_a_0 z_a_1 z_a_2
  have kg := rgreat_lit w1 60 [(n1, (p1, l1.length, q1), (o1, d1.length, r1))] (vs := #[.bool n1, .slice p1 l1.length q1, .slice o1 d1.length r1]) (by simp [q7v]) (m := 1) rfl (by simp) (by decide) hZ.out false hG.out; rw [show ((60 : Nat) : Int) = 60 from rfl] at kg
  refine (kg).mono ?_
  rintro e w2 ⟨rfl, rr⟩
  have M' := M.up rr; clear M rr; have M := M'; clear M'
  clear kg
  have z_a_0 := M.cell 0 rfl 0 rfl; have z_a_1 := M.cell 0 rfl 1 rfl; have z_a_2 := M.cell 0 rfl 2 rfl
  go_wp2_with fail
  clear z_a_0 z_a_1 z_a_2
  refine (KT.out _ (M.get 1 rfl) (M.get 0 rfl)).mono ?_
  rintro e w3 ⟨rfl, rr⟩
  have M' := M.up rr; clear M rr; have M := M'; clear M'
  go_wp2_with fail
  refine (KP.out _).mono ?_
  rintro e w4 ⟨b5, a2, n2, c2, b2, m2, e2, rfl, rr⟩
  have M' := (M.up rr).new 27 [.bool b5, .slice a2 n2 c2, .slice b2 m2 e2]; clear M rr; have M := M'; clear M'
  have z_a_0 := M.cell 1 rfl 0 rfl; have z_a_1 := M.cell 1 rfl 1 rfl; have z_a_2 := M.cell 1 rfl 2 rfl
  go_wp2_with fail
  clear z_a_0 z_a_1 z_a_2
  refine (KC.out _ (M.get 1 rfl) (M.get 0 rfl)).mono ?_
  rintro e w5 ⟨rfl, rr⟩
  have M' := M.up rr; clear M rr; have M := M'; clear M'
  have z_a_0 := M.cell 1 rfl 0 rfl; have z_a_1 := M.cell 1 rfl 1 rfl; have z_a_2 := M.cell 1 rfl 2 rfl
  go_wp2_with fail
  clear z_a_0 z_a_1 z_a_2
  refine (KC.out _ (M.get 1 rfl) (M.get 0 rfl)).mono ?_
  rintro e w6 ⟨rfl, rr⟩
  have M' := M.up rr; clear M rr; have M := M'; clear M'
  go_wp2_with fail
  refine (KQ.out _).mono ?_
  rintro e w7 ⟨rfl, rr⟩
  have M' := (M.up rr).new 27 [.bool false, .slice none 0 0, .slice none 0 0]; clear M rr; have M := M'; clear M'
  have z_c_0 := M.cell 0 rfl 0 rfl; have z_c_1 := M.cell 0 rfl 1 rfl; have z_c_2 := M.cell 0 rfl 2 rfl
  go_wp2_with fail
  clear z_c_0 z_c_1 z_c_2
  go_ret
  exact ⟨rfl, M.below⟩
set_option maxRecDepth 100000 in
set_option maxHeartbeats 8000000 in
theorem rread_A4 {w : World} {n1 : Bool} {p1 o1 : Option Addr} {q1 r1 : Nat} {l1 d1 : List Nat} {X1 : Rat} {s : ByteArray} (c1 : RIs n1 l1 d1 X1) (m1 : l1.length + d1.length ≤ 60) (hs : s.size ≤ 2000) (g1 : Reads w (.slice p1 l1.length q1) l1) (h1 : Reads w (.slice o1 d1.length r1) d1) (hc : rchk n1 l1 d1 = false) {Z : Rat} (hp : pout s = (4, Z)) :
    Calls Tryz.prog 6 #[.agg #[.bool n1, .slice p1 l1.length q1, .slice o1 d1.length r1], .string s] w fun e w' => e = .returned (.bool true) ∧ Below w.heap.size w w' := by
  have kc := fun (W : World) (g1 : Reads W (.slice p1 l1.length q1) l1) (h1 : Reads W (.slice o1 d1.length r1) d1) => rcheck_any (n := n1) g1 h1 c1.1 c1.2.1 (by omega) (by omega)
  rw [hc] at kc
  have KC := Lib.hid kc
  obtain rfl := c1.zero hc
  obtain ⟨sX, LX, DX, cX⟩ := RCan.ex 0
  have lX := c1.lens cX
  have zT := rtxt_size cX
  obtain ⟨T, hT⟩ : ∃ T, T = rtxt 0 := ⟨_, rfl⟩
  have KT := Lib.hid (fun (W : World) (g1 : Reads W (.slice p1 l1.length q1) l1) (h1 : Reads W (.slice o1 d1.length r1) d1) => r_text T c1 hT (by omega) (by omega) g1 h1)
  rw [← hT] at zT
  obtain rfl : T = ⟨#[48]⟩ := by rw [hT, rtxt_zero]
  obtain ⟨E1, kp⟩ := parse_some ⟨#[48]⟩ (by decide)
  have KP := Lib.hid kp
  clear kp
  have hls : ∀ W : World, (Builtin.len_ #[9] 3 #[.string s]).run Tryz.prog W = .ok (.int .i64 (s.size : Int)) W := fun W => by rw [run_len_string W _ _ s (by kernel_rfl)]; rfl
  have hs1 : ¬ (2000 : Int) < (s.size : Int) := by omega
  have KQ := Lib.hid (fun (W : World) => parse_err s (by omega) hp (by decide) W)
  have hG : Hid (false = List.any [(n1, (p1, l1.length, q1), (o1, d1.length, r1))] fun t : Q7 => decide (60 < t.2.1.2.1 + t.2.2.2.1)) := Lib.hid (by simp; omega)
  have hZ : Hid (∀ t ∈ ([(n1, (p1, l1.length, q1), (o1, d1.length, r1))] : List Q7), t.2.1.2.1 ≤ 70368744177664 ∧ t.2.2.2.1 ≤ 70368744177664) := Lib.hid (by simp; omega)
  have M : Mem w [(w.heap.size, 27, [.bool n1, .slice p1 l1.length q1, .slice o1 d1.length r1])] [(.slice o1 d1.length r1, d1), (.slice p1 l1.length q1, l1)] (w.alloc (.cells #[.bool n1, .slice p1 l1.length q1, .slice o1 d1.length r1] 27)) := by
    have M := ((((Mem.start w).add g1).add h1).new 27 [.bool n1, .slice p1 l1.length q1, .slice o1 d1.length r1])
    simpa only [World.size_alloc] using M
  clear kc c1 m1 hs g1 h1 hc hp cX lX zT hT
  go_enter Tryz.func6, Tryz.ntmps6
  go_wp2_with fail
  refine (r_alive _).mono ?_
  rintro e w1 ⟨rfl, rr⟩
  have M' := M.up rr; clear M rr; have M := M'; clear M'
  have z_a_0 := M.cell 0 rfl 0 rfl; have z_a_1 := M.cell 0 rfl 1 rfl; have z_a_2 := M.cell 0 rfl 2 rfl
  go_wp2_with fail
  clear z_a_0 z_a_1 z_a_2
  have kg := rgreat_lit w1 60 [(n1, (p1, l1.length, q1), (o1, d1.length, r1))] (vs := #[.bool n1, .slice p1 l1.length q1, .slice o1 d1.length r1]) (by simp [q7v]) (m := 1) rfl (by simp) (by decide) hZ.out false hG.out; rw [show ((60 : Nat) : Int) = 60 from rfl] at kg
  refine (kg).mono ?_
  rintro e w2 ⟨rfl, rr⟩
  have M' := M.up rr; clear M rr; have M := M'; clear M'
  clear kg
  have z_a_0 := M.cell 0 rfl 0 rfl; have z_a_1 := M.cell 0 rfl 1 rfl; have z_a_2 := M.cell 0 rfl 2 rfl
  go_wp2_with fail
  clear z_a_0 z_a_1 z_a_2
  refine (KT.out _ (M.get 1 rfl) (M.get 0 rfl)).mono ?_
  rintro e w3 ⟨rfl, rr⟩
  have M' := M.up rr; clear M rr; have M := M'; clear M'
  go_wp2_with fail
  refine (KP.out _).mono ?_
  rintro e w4 ⟨b5, a2, n2, c2, b2, m2, e2, rfl, rr⟩
  have M' := (M.up rr).new 27 [.bool b5, .slice a2 n2 c2, .slice b2 m2 e2]; clear M rr; have M := M'; clear M'
  have z_a_0 := M.cell 1 rfl 0 rfl; have z_a_1 := M.cell 1 rfl 1 rfl; have z_a_2 := M.cell 1 rfl 2 rfl
  go_wp2_with fail
  clear z_a_0 z_a_1 z_a_2
  refine (KC.out _ (M.get 1 rfl) (M.get 0 rfl)).mono ?_
  rintro e w5 ⟨rfl, rr⟩
  have M' := M.up rr; clear M rr; have M := M'; clear M'
  have z_a_0 := M.cell 1 rfl 0 rfl; have z_a_1 := M.cell 1 rfl 1 rfl; have z_a_2 := M.cell 1 rfl 2 rfl
  go_wp2_with fail
  clear z_a_0 z_a_1 z_a_2
  refine (KC.out _ (M.get 1 rfl) (M.get 0 rfl)).mono ?_
  rintro e w6 ⟨rfl, rr⟩
  have M' := M.up rr; clear M rr; have M := M'; clear M'
  go_wp2_with fail
  refine (KQ.out _).mono ?_
  rintro e w7 ⟨rfl, rr⟩
  have M' := (M.up rr).new 27 [.bool false, .slice none 0 0, .slice none 0 0]; clear M rr; have M := M'; clear M'
  have z_c_0 := M.cell 0 rfl 0 rfl; have z_c_1 := M.cell 0 rfl 1 rfl; have z_c_2 := M.cell 0 rfl 2 rfl
  go_wp2_with fail
  clear z_c_0 z_c_1 z_c_2
  go_ret
  exact ⟨rfl, M.below⟩
set_option maxRecDepth 100000 in
set_option maxHeartbeats 8000000 in
theorem rread_AV {w : World} {n1 : Bool} {p1 o1 : Option Addr} {q1 r1 : Nat} {l1 d1 : List Nat} {X1 : Rat} {s : ByteArray} (c1 : RIs n1 l1 d1 X1) (m1 : l1.length + d1.length ≤ 60) (hs : s.size ≤ 2000) (g1 : Reads w (.slice p1 l1.length q1) l1) (h1 : Reads w (.slice o1 d1.length r1) d1) (hc : rchk n1 l1 d1 = false) {Z : Rat} (hp : pout s = (0, Z)) :
    Calls Tryz.prog 6 #[.agg #[.bool n1, .slice p1 l1.length q1, .slice o1 d1.length r1], .string s] w fun e w' => e = .returned (.bool true) ∧ Below w.heap.size w w' := by
  have kc := fun (W : World) (g1 : Reads W (.slice p1 l1.length q1) l1) (h1 : Reads W (.slice o1 d1.length r1) d1) => rcheck_any (n := n1) g1 h1 c1.1 c1.2.1 (by omega) (by omega)
  rw [hc] at kc
  have KC := Lib.hid kc
  obtain rfl := c1.zero hc
  obtain ⟨sX, LX, DX, cX⟩ := RCan.ex 0
  have lX := c1.lens cX
  have zT := rtxt_size cX
  obtain ⟨T, hT⟩ : ∃ T, T = rtxt 0 := ⟨_, rfl⟩
  have KT := Lib.hid (fun (W : World) (g1 : Reads W (.slice p1 l1.length q1) l1) (h1 : Reads W (.slice o1 d1.length r1) d1) => r_text T c1 hT (by omega) (by omega) g1 h1)
  rw [← hT] at zT
  obtain rfl : T = ⟨#[48]⟩ := by rw [hT, rtxt_zero]
  obtain ⟨E1, kp⟩ := parse_some ⟨#[48]⟩ (by decide)
  have KP := Lib.hid kp
  clear kp
  have hls : ∀ W : World, (Builtin.len_ #[9] 3 #[.string s]).run Tryz.prog W = .ok (.int .i64 (s.size : Int)) W := fun W => by rw [run_len_string W _ _ s (by kernel_rfl)]; rfl
  have hs1 : ¬ (2000 : Int) < (s.size : Int) := by omega
  obtain ⟨sZ, LZ, DZ, cZ⟩ := RCan.ex Z
  obtain ⟨t1, t2⟩ := pout_small (s := s) (by rw [hp])
  rw [hp] at t1 t2
  simp only at t1 t2
  obtain ⟨u1, u2⟩ := rlit_len t1 t2
  have lZ := cZ.len
  have KQ := Lib.hid (fun (W : World) => parse_val s (by omega) hp cZ W)
  obtain ⟨U, hU⟩ : ∃ U, U = rtxt Z := ⟨_, rfl⟩
  rw [← hU] at u1
  have KU := Lib.hid (fun (W : World) {a b : Option Addr} {c d : Nat} (y1 : Reads W (.slice a LZ.length c) LZ) (y2 : Reads W (.slice b DZ.length d) DZ) => r_text U cZ.is hU (by omega) (by omega) y1 y2)
  have KR := Lib.hid (fun (W : World) => parse_val U (by omega) (by rw [hU]; exact pout_rtxt t1 t2) cZ W)
  have KV := Lib.hid (fun (W : World) {a b : Option Addr} {c d : Nat} (y1 : Reads W (.slice a LZ.length c) LZ) (y2 : Reads W (.slice b DZ.length d) DZ) => rcheck_can cZ (by omega) (by omega) y1 y2)
  have KM := Lib.hid (fun (W : World) {a b : Option Addr} {c d : Nat} {a' b' : Option Addr} {c' d' : Nat} (y1 : Reads W (.slice a LZ.length c) LZ) (y2 : Reads W (.slice b DZ.length d) DZ) (y3 : Reads W (.slice a' LZ.length c') LZ) (y4 : Reads W (.slice b' DZ.length d') DZ) => r_same true cZ cZ (by simp) (by omega) (by omega) (by omega) (by omega) y1 y2 y3 y4)
  clear hU u1 u2 lZ t1 t2 cZ
  have hG : Hid (false = List.any [(n1, (p1, l1.length, q1), (o1, d1.length, r1))] fun t : Q7 => decide (60 < t.2.1.2.1 + t.2.2.2.1)) := Lib.hid (by simp; omega)
  have hZ : Hid (∀ t ∈ ([(n1, (p1, l1.length, q1), (o1, d1.length, r1))] : List Q7), t.2.1.2.1 ≤ 70368744177664 ∧ t.2.2.2.1 ≤ 70368744177664) := Lib.hid (by simp; omega)
  have M : Mem w [(w.heap.size, 27, [.bool n1, .slice p1 l1.length q1, .slice o1 d1.length r1])] [(.slice o1 d1.length r1, d1), (.slice p1 l1.length q1, l1)] (w.alloc (.cells #[.bool n1, .slice p1 l1.length q1, .slice o1 d1.length r1] 27)) := by
    have M := ((((Mem.start w).add g1).add h1).new 27 [.bool n1, .slice p1 l1.length q1, .slice o1 d1.length r1])
    simpa only [World.size_alloc] using M
  clear kc c1 m1 hs g1 h1 hc hp cX lX zT hT
  go_enter Tryz.func6, Tryz.ntmps6
  go_wp2_with fail
  refine (r_alive _).mono ?_
  rintro e w1 ⟨rfl, rr⟩
  have M' := M.up rr; clear M rr; have M := M'; clear M'
  have z_a_0 := M.cell 0 rfl 0 rfl; have z_a_1 := M.cell 0 rfl 1 rfl; have z_a_2 := M.cell 0 rfl 2 rfl
  go_wp2_with fail
  clear z_a_0 z_a_1 z_a_2
  have kg := rgreat_lit w1 60 [(n1, (p1, l1.length, q1), (o1, d1.length, r1))] (vs := #[.bool n1, .slice p1 l1.length q1, .slice o1 d1.length r1]) (by simp [q7v]) (m := 1) rfl (by simp) (by decide) hZ.out false hG.out; rw [show ((60 : Nat) : Int) = 60 from rfl] at kg
  refine (kg).mono ?_
  rintro e w2 ⟨rfl, rr⟩
  have M' := M.up rr; clear M rr; have M := M'; clear M'
  clear kg
  have z_a_0 := M.cell 0 rfl 0 rfl; have z_a_1 := M.cell 0 rfl 1 rfl; have z_a_2 := M.cell 0 rfl 2 rfl
  go_wp2_with fail
  clear z_a_0 z_a_1 z_a_2
  refine (KT.out _ (M.get 1 rfl) (M.get 0 rfl)).mono ?_
  rintro e w3 ⟨rfl, rr⟩
  have M' := M.up rr; clear M rr; have M := M'; clear M'
  go_wp2_with fail
  refine (KP.out _).mono ?_
  rintro e w4 ⟨b5, a2, n2, c2, b2, m2, e2, rfl, rr⟩
  have M' := (M.up rr).new 27 [.bool b5, .slice a2 n2 c2, .slice b2 m2 e2]; clear M rr; have M := M'; clear M'
  have z_a_0 := M.cell 1 rfl 0 rfl; have z_a_1 := M.cell 1 rfl 1 rfl; have z_a_2 := M.cell 1 rfl 2 rfl
  go_wp2_with fail
  clear z_a_0 z_a_1 z_a_2
  refine (KC.out _ (M.get 1 rfl) (M.get 0 rfl)).mono ?_
  rintro e w5 ⟨rfl, rr⟩
  have M' := M.up rr; clear M rr; have M := M'; clear M'
  have z_a_0 := M.cell 1 rfl 0 rfl; have z_a_1 := M.cell 1 rfl 1 rfl; have z_a_2 := M.cell 1 rfl 2 rfl
  go_wp2_with fail
  clear z_a_0 z_a_1 z_a_2
  refine (KC.out _ (M.get 1 rfl) (M.get 0 rfl)).mono ?_
  rintro e w6 ⟨rfl, rr⟩
  have M' := M.up rr; clear M rr; have M := M'; clear M'
  go_wp2_with fail
  refine (KQ.out _).mono ?_
  rintro e w7 ⟨a3, c3, b3, e3, rfl, g, g', rr⟩
  have M' := (((M.up rr).add g).add g').new 27 [.bool sZ, .slice a3 LZ.length c3, .slice b3 DZ.length e3]; clear M rr g g'; have M := M'; clear M'
  have z_c_0 := M.cell 0 rfl 0 rfl; have z_c_1 := M.cell 0 rfl 1 rfl; have z_c_2 := M.cell 0 rfl 2 rfl
  go_wp2_with fail
  clear z_c_0 z_c_1 z_c_2
  refine (KU.out _ (M.get 1 rfl) (M.get 0 rfl)).mono ?_
  rintro e w8 ⟨rfl, rr⟩
  have M' := M.up rr; clear M rr; have M := M'; clear M'
  go_wp2_with fail
  refine (KR.out _).mono ?_
  rintro e w9 ⟨a4, c4, b4, e4, rfl, g, g', rr⟩
  have M' := (((M.up rr).add g).add g').new 27 [.bool sZ, .slice a4 LZ.length c4, .slice b4 DZ.length e4]; clear M rr g g'; have M := M'; clear M'
  have z_c_0 := M.cell 1 rfl 0 rfl; have z_c_1 := M.cell 1 rfl 1 rfl; have z_c_2 := M.cell 1 rfl 2 rfl
  go_wp2_with fail
  clear z_c_0 z_c_1 z_c_2
  refine (KV.out _ (M.get 3 rfl) (M.get 2 rfl)).mono ?_
  rintro e w10 ⟨rfl, rr⟩
  have M' := M.up rr; clear M rr; have M := M'; clear M'
  have z_c_0 := M.cell 1 rfl 0 rfl; have z_c_1 := M.cell 1 rfl 1 rfl; have z_c_2 := M.cell 1 rfl 2 rfl
  have z_d_0 := M.cell 0 rfl 0 rfl; have z_d_1 := M.cell 0 rfl 1 rfl; have z_d_2 := M.cell 0 rfl 2 rfl
  go_wp2_with fail
  clear z_c_0 z_c_1 z_c_2 z_d_0 z_d_1 z_d_2
  refine (KM.out _ (M.get 3 rfl) (M.get 2 rfl) (M.get 1 rfl) (M.get 0 rfl)).mono ?_
  rintro e w11 ⟨rfl, rr⟩
  have M' := M.up rr; clear M rr; have M := M'; clear M'
  have z_d_0 := M.cell 0 rfl 0 rfl; have z_d_1 := M.cell 0 rfl 1 rfl; have z_d_2 := M.cell 0 rfl 2 rfl
  go_wp2_with fail
  clear z_d_0 z_d_1 z_d_2
  refine (KU.out _ (M.get 1 rfl) (M.get 0 rfl)).mono ?_
  rintro e w12 ⟨rfl, rr⟩
  have M' := M.up rr; clear M rr; have M := M'; clear M'
  go_wp2_with fail
  go_ret
  exact ⟨rfl, M.below⟩
set_option maxRecDepth 100000 in
set_option maxHeartbeats 8000000 in
theorem rread_B3 {w : World} {n1 : Bool} {p1 o1 : Option Addr} {q1 r1 : Nat} {l1 d1 : List Nat} {X1 : Rat} {s : ByteArray} (c1 : RIs n1 l1 d1 X1) (m1 : l1.length + d1.length ≤ 60) (hs : s.size ≤ 2000) (g1 : Reads w (.slice p1 l1.length q1) l1) (h1 : Reads w (.slice o1 d1.length r1) d1) (hc : rchk n1 l1 d1 = true) (ht : (rtxt X1).size ≤ 200) {Z : Rat} (hp : pout s = (3, Z)) :
    Calls Tryz.prog 6 #[.agg #[.bool n1, .slice p1 l1.length q1, .slice o1 d1.length r1], .string s] w fun e w' => e = .returned (.bool true) ∧ Below w.heap.size w w' := by
  have kc := fun (W : World) (g1 : Reads W (.slice p1 l1.length q1) l1) (h1 : Reads W (.slice o1 d1.length r1) d1) => rcheck_any (n := n1) g1 h1 c1.1 c1.2.1 (by omega) (by omega)
  rw [hc] at kc
  have KC := Lib.hid kc
  have kX := c1.can hc
  obtain ⟨sX, LX, DX, cX⟩ := RCan.ex X1
  have lX := c1.lens cX
  have zT := rtxt_size cX
  obtain ⟨T, hT⟩ : ∃ T, T = rtxt X1 := ⟨_, rfl⟩
  have KT := Lib.hid (fun (W : World) (g1 : Reads W (.slice p1 l1.length q1) l1) (h1 : Reads W (.slice o1 d1.length r1) d1) => r_text T c1 hT (by omega) (by omega) g1 h1)
  rw [← hT] at zT
  rw [← hT] at ht
  have hl : (T.size : Int) ≤ 200 := by omega
  have hl2 : ¬ (200 : Int) < (T.size : Int) := by omega
  have hlen : ∀ W : World, (Builtin.len_ #[9] 3 #[.string T]).run Tryz.prog W = .ok (.int .i64 (T.size : Int)) W := fun W => by rw [run_len_string W _ _ T (by kernel_rfl)]; rfl
  obtain ⟨N, hN⟩ : ∃ N : Nat, N = T.size := ⟨_, rfl⟩
  rw [← hN] at hlen hl hl2
  have KP := Lib.hid (fun (W : World) => parse_val T (by omega) (by rw [hT]; exact pout_short (by rw [← hT]; exact ht)) cX W)
  obtain ⟨rfl, rfl, rfl⟩ := kX.uniq cX
  have KS := Lib.hid (fun (W : World) {a b : Option Addr} {c d : Nat} (y1 : Reads W (.slice a l1.length c) l1) (y2 : Reads W (.slice b d1.length d) d1) (g1 : Reads W (.slice p1 l1.length q1) l1) (h1 : Reads W (.slice o1 d1.length r1) d1) => r_same true kX kX (by simp) (by omega) (by omega) (by omega) (by omega) y1 y2 g1 h1)
  have hls : ∀ W : World, (Builtin.len_ #[9] 3 #[.string s]).run Tryz.prog W = .ok (.int .i64 (s.size : Int)) W := fun W => by rw [run_len_string W _ _ s (by kernel_rfl)]; rfl
  have hs1 : ¬ (2000 : Int) < (s.size : Int) := by omega
  have KQ := Lib.hid (fun (W : World) => parse_err s (by omega) hp (by decide) W)
  have hG : Hid (false = List.any [(n1, (p1, l1.length, q1), (o1, d1.length, r1))] fun t : Q7 => decide (60 < t.2.1.2.1 + t.2.2.2.1)) := Lib.hid (by simp; omega)
  have hZ : Hid (∀ t ∈ ([(n1, (p1, l1.length, q1), (o1, d1.length, r1))] : List Q7), t.2.1.2.1 ≤ 70368744177664 ∧ t.2.2.2.1 ≤ 70368744177664) := Lib.hid (by simp; omega)
  have M : Mem w [(w.heap.size, 27, [.bool n1, .slice p1 l1.length q1, .slice o1 d1.length r1])] [(.slice o1 d1.length r1, d1), (.slice p1 l1.length q1, l1)] (w.alloc (.cells #[.bool n1, .slice p1 l1.length q1, .slice o1 d1.length r1] 27)) := by
    have M := ((((Mem.start w).add g1).add h1).new 27 [.bool n1, .slice p1 l1.length q1, .slice o1 d1.length r1])
    simpa only [World.size_alloc] using M
  clear kc c1 m1 hs g1 h1 hc hp cX lX zT ht hT hN kX
  go_enter Tryz.func6, Tryz.ntmps6
  go_wp2_with fail
  refine (r_alive _).mono ?_
  rintro e w1 ⟨rfl, rr⟩
  have M' := M.up rr; clear M rr; have M := M'; clear M'
  have z_a_0 := M.cell 0 rfl 0 rfl; have z_a_1 := M.cell 0 rfl 1 rfl; have z_a_2 := M.cell 0 rfl 2 rfl
  go_wp2_with fail
  clear z_a_0 z_a_1 z_a_2
  have kg := rgreat_lit w1 60 [(n1, (p1, l1.length, q1), (o1, d1.length, r1))] (vs := #[.bool n1, .slice p1 l1.length q1, .slice o1 d1.length r1]) (by simp [q7v]) (m := 1) rfl (by simp) (by decide) hZ.out false hG.out; rw [show ((60 : Nat) : Int) = 60 from rfl] at kg
  refine (kg).mono ?_
  rintro e w2 ⟨rfl, rr⟩
  have M' := M.up rr; clear M rr; have M := M'; clear M'
  clear kg
  have z_a_0 := M.cell 0 rfl 0 rfl; have z_a_1 := M.cell 0 rfl 1 rfl; have z_a_2 := M.cell 0 rfl 2 rfl
  go_wp2_with fail
  clear z_a_0 z_a_1 z_a_2
  refine (KT.out _ (M.get 1 rfl) (M.get 0 rfl)).mono ?_
  rintro e w3 ⟨rfl, rr⟩
  have M' := M.up rr; clear M rr; have M := M'; clear M'
  go_wp2_with fail
  refine (KP.out _).mono ?_
  rintro e w4 ⟨a2, c2, b2, e2, rfl, g, g', rr⟩
  have M' := (((M.up rr).add g).add g').new 27 [.bool n1, .slice a2 l1.length c2, .slice b2 d1.length e2]; clear M rr g g'; have M := M'; clear M'
  have z_a_0 := M.cell 1 rfl 0 rfl; have z_a_1 := M.cell 1 rfl 1 rfl; have z_a_2 := M.cell 1 rfl 2 rfl
  go_wp2_with fail
  clear z_a_0 z_a_1 z_a_2
  refine (KC.out _ (M.get 3 rfl) (M.get 2 rfl)).mono ?_
  rintro e w5 ⟨rfl, rr⟩
  have M' := M.up rr; clear M rr; have M := M'; clear M'
  have z_a_0 := M.cell 1 rfl 0 rfl; have z_a_1 := M.cell 1 rfl 1 rfl; have z_a_2 := M.cell 1 rfl 2 rfl
  go_wp2_with fail
  clear z_a_0 z_a_1 z_a_2
  refine (KC.out _ (M.get 3 rfl) (M.get 2 rfl)).mono ?_
  rintro e w6 ⟨rfl, rr⟩
  have M' := M.up rr; clear M rr; have M := M'; clear M'
  have z_a_0 := M.cell 1 rfl 0 rfl; have z_a_1 := M.cell 1 rfl 1 rfl; have z_a_2 := M.cell 1 rfl 2 rfl
  have z_b_0 := M.cell 0 rfl 0 rfl; have z_b_1 := M.cell 0 rfl 1 rfl; have z_b_2 := M.cell 0 rfl 2 rfl
  go_wp2_with fail
  clear z_a_0 z_a_1 z_a_2 z_b_0 z_b_1 z_b_2
  refine (KS.out _ (M.get 1 rfl) (M.get 0 rfl) (M.get 3 rfl) (M.get 2 rfl)).mono ?_
  rintro e w7 ⟨rfl, rr⟩
  have M' := M.up rr; clear M rr; have M := M'; clear M'
  go_wp2_with fail
  refine (KQ.out _).mono ?_
  rintro e w8 ⟨rfl, rr⟩
  have M' := (M.up rr).new 27 [.bool false, .slice none 0 0, .slice none 0 0]; clear M rr; have M := M'; clear M'
  have z_c_0 := M.cell 0 rfl 0 rfl; have z_c_1 := M.cell 0 rfl 1 rfl; have z_c_2 := M.cell 0 rfl 2 rfl
  go_wp2_with fail
  clear z_c_0 z_c_1 z_c_2
  go_ret
  exact ⟨rfl, M.below⟩
set_option maxRecDepth 100000 in
set_option maxHeartbeats 8000000 in
theorem rread_B4 {w : World} {n1 : Bool} {p1 o1 : Option Addr} {q1 r1 : Nat} {l1 d1 : List Nat} {X1 : Rat} {s : ByteArray} (c1 : RIs n1 l1 d1 X1) (m1 : l1.length + d1.length ≤ 60) (hs : s.size ≤ 2000) (g1 : Reads w (.slice p1 l1.length q1) l1) (h1 : Reads w (.slice o1 d1.length r1) d1) (hc : rchk n1 l1 d1 = true) (ht : (rtxt X1).size ≤ 200) {Z : Rat} (hp : pout s = (4, Z)) :
    Calls Tryz.prog 6 #[.agg #[.bool n1, .slice p1 l1.length q1, .slice o1 d1.length r1], .string s] w fun e w' => e = .returned (.bool true) ∧ Below w.heap.size w w' := by
  have kc := fun (W : World) (g1 : Reads W (.slice p1 l1.length q1) l1) (h1 : Reads W (.slice o1 d1.length r1) d1) => rcheck_any (n := n1) g1 h1 c1.1 c1.2.1 (by omega) (by omega)
  rw [hc] at kc
  have KC := Lib.hid kc
  have kX := c1.can hc
  obtain ⟨sX, LX, DX, cX⟩ := RCan.ex X1
  have lX := c1.lens cX
  have zT := rtxt_size cX
  obtain ⟨T, hT⟩ : ∃ T, T = rtxt X1 := ⟨_, rfl⟩
  have KT := Lib.hid (fun (W : World) (g1 : Reads W (.slice p1 l1.length q1) l1) (h1 : Reads W (.slice o1 d1.length r1) d1) => r_text T c1 hT (by omega) (by omega) g1 h1)
  rw [← hT] at zT
  rw [← hT] at ht
  have hl : (T.size : Int) ≤ 200 := by omega
  have hl2 : ¬ (200 : Int) < (T.size : Int) := by omega
  have hlen : ∀ W : World, (Builtin.len_ #[9] 3 #[.string T]).run Tryz.prog W = .ok (.int .i64 (T.size : Int)) W := fun W => by rw [run_len_string W _ _ T (by kernel_rfl)]; rfl
  obtain ⟨N, hN⟩ : ∃ N : Nat, N = T.size := ⟨_, rfl⟩
  rw [← hN] at hlen hl hl2
  have KP := Lib.hid (fun (W : World) => parse_val T (by omega) (by rw [hT]; exact pout_short (by rw [← hT]; exact ht)) cX W)
  obtain ⟨rfl, rfl, rfl⟩ := kX.uniq cX
  have KS := Lib.hid (fun (W : World) {a b : Option Addr} {c d : Nat} (y1 : Reads W (.slice a l1.length c) l1) (y2 : Reads W (.slice b d1.length d) d1) (g1 : Reads W (.slice p1 l1.length q1) l1) (h1 : Reads W (.slice o1 d1.length r1) d1) => r_same true kX kX (by simp) (by omega) (by omega) (by omega) (by omega) y1 y2 g1 h1)
  have hls : ∀ W : World, (Builtin.len_ #[9] 3 #[.string s]).run Tryz.prog W = .ok (.int .i64 (s.size : Int)) W := fun W => by rw [run_len_string W _ _ s (by kernel_rfl)]; rfl
  have hs1 : ¬ (2000 : Int) < (s.size : Int) := by omega
  have KQ := Lib.hid (fun (W : World) => parse_err s (by omega) hp (by decide) W)
  have hG : Hid (false = List.any [(n1, (p1, l1.length, q1), (o1, d1.length, r1))] fun t : Q7 => decide (60 < t.2.1.2.1 + t.2.2.2.1)) := Lib.hid (by simp; omega)
  have hZ : Hid (∀ t ∈ ([(n1, (p1, l1.length, q1), (o1, d1.length, r1))] : List Q7), t.2.1.2.1 ≤ 70368744177664 ∧ t.2.2.2.1 ≤ 70368744177664) := Lib.hid (by simp; omega)
  have M : Mem w [(w.heap.size, 27, [.bool n1, .slice p1 l1.length q1, .slice o1 d1.length r1])] [(.slice o1 d1.length r1, d1), (.slice p1 l1.length q1, l1)] (w.alloc (.cells #[.bool n1, .slice p1 l1.length q1, .slice o1 d1.length r1] 27)) := by
    have M := ((((Mem.start w).add g1).add h1).new 27 [.bool n1, .slice p1 l1.length q1, .slice o1 d1.length r1])
    simpa only [World.size_alloc] using M
  clear kc c1 m1 hs g1 h1 hc hp cX lX zT ht hT hN kX
  go_enter Tryz.func6, Tryz.ntmps6
  go_wp2_with fail
  refine (r_alive _).mono ?_
  rintro e w1 ⟨rfl, rr⟩
  have M' := M.up rr; clear M rr; have M := M'; clear M'
  have z_a_0 := M.cell 0 rfl 0 rfl; have z_a_1 := M.cell 0 rfl 1 rfl; have z_a_2 := M.cell 0 rfl 2 rfl
  go_wp2_with fail
  clear z_a_0 z_a_1 z_a_2
  have kg := rgreat_lit w1 60 [(n1, (p1, l1.length, q1), (o1, d1.length, r1))] (vs := #[.bool n1, .slice p1 l1.length q1, .slice o1 d1.length r1]) (by simp [q7v]) (m := 1) rfl (by simp) (by decide) hZ.out false hG.out; rw [show ((60 : Nat) : Int) = 60 from rfl] at kg
  refine (kg).mono ?_
  rintro e w2 ⟨rfl, rr⟩
  have M' := M.up rr; clear M rr; have M := M'; clear M'
  clear kg
  have z_a_0 := M.cell 0 rfl 0 rfl; have z_a_1 := M.cell 0 rfl 1 rfl; have z_a_2 := M.cell 0 rfl 2 rfl
  go_wp2_with fail
  clear z_a_0 z_a_1 z_a_2
  refine (KT.out _ (M.get 1 rfl) (M.get 0 rfl)).mono ?_
  rintro e w3 ⟨rfl, rr⟩
  have M' := M.up rr; clear M rr; have M := M'; clear M'
  go_wp2_with fail
  refine (KP.out _).mono ?_
  rintro e w4 ⟨a2, c2, b2, e2, rfl, g, g', rr⟩
  have M' := (((M.up rr).add g).add g').new 27 [.bool n1, .slice a2 l1.length c2, .slice b2 d1.length e2]; clear M rr g g'; have M := M'; clear M'
  have z_a_0 := M.cell 1 rfl 0 rfl; have z_a_1 := M.cell 1 rfl 1 rfl; have z_a_2 := M.cell 1 rfl 2 rfl
  go_wp2_with fail
  clear z_a_0 z_a_1 z_a_2
  refine (KC.out _ (M.get 3 rfl) (M.get 2 rfl)).mono ?_
  rintro e w5 ⟨rfl, rr⟩
  have M' := M.up rr; clear M rr; have M := M'; clear M'
  have z_a_0 := M.cell 1 rfl 0 rfl; have z_a_1 := M.cell 1 rfl 1 rfl; have z_a_2 := M.cell 1 rfl 2 rfl
  go_wp2_with fail
  clear z_a_0 z_a_1 z_a_2
  refine (KC.out _ (M.get 3 rfl) (M.get 2 rfl)).mono ?_
  rintro e w6 ⟨rfl, rr⟩
  have M' := M.up rr; clear M rr; have M := M'; clear M'
  have z_a_0 := M.cell 1 rfl 0 rfl; have z_a_1 := M.cell 1 rfl 1 rfl; have z_a_2 := M.cell 1 rfl 2 rfl
  have z_b_0 := M.cell 0 rfl 0 rfl; have z_b_1 := M.cell 0 rfl 1 rfl; have z_b_2 := M.cell 0 rfl 2 rfl
  go_wp2_with fail
  clear z_a_0 z_a_1 z_a_2 z_b_0 z_b_1 z_b_2
  refine (KS.out _ (M.get 1 rfl) (M.get 0 rfl) (M.get 3 rfl) (M.get 2 rfl)).mono ?_
  rintro e w7 ⟨rfl, rr⟩
  have M' := M.up rr; clear M rr; have M := M'; clear M'
  go_wp2_with fail
  refine (KQ.out _).mono ?_
  rintro e w8 ⟨rfl, rr⟩
  have M' := (M.up rr).new 27 [.bool false, .slice none 0 0, .slice none 0 0]; clear M rr; have M := M'; clear M'
  have z_c_0 := M.cell 0 rfl 0 rfl; have z_c_1 := M.cell 0 rfl 1 rfl; have z_c_2 := M.cell 0 rfl 2 rfl
  go_wp2_with fail
  clear z_c_0 z_c_1 z_c_2
  go_ret
  exact ⟨rfl, M.below⟩
set_option maxRecDepth 100000 in
set_option maxHeartbeats 8000000 in
theorem rread_BV {w : World} {n1 : Bool} {p1 o1 : Option Addr} {q1 r1 : Nat} {l1 d1 : List Nat} {X1 : Rat} {s : ByteArray} (c1 : RIs n1 l1 d1 X1) (m1 : l1.length + d1.length ≤ 60) (hs : s.size ≤ 2000) (g1 : Reads w (.slice p1 l1.length q1) l1) (h1 : Reads w (.slice o1 d1.length r1) d1) (hc : rchk n1 l1 d1 = true) (ht : (rtxt X1).size ≤ 200) {Z : Rat} (hp : pout s = (0, Z)) :
    Calls Tryz.prog 6 #[.agg #[.bool n1, .slice p1 l1.length q1, .slice o1 d1.length r1], .string s] w fun e w' => e = .returned (.bool true) ∧ Below w.heap.size w w' := by
  have kc := fun (W : World) (g1 : Reads W (.slice p1 l1.length q1) l1) (h1 : Reads W (.slice o1 d1.length r1) d1) => rcheck_any (n := n1) g1 h1 c1.1 c1.2.1 (by omega) (by omega)
  rw [hc] at kc
  have KC := Lib.hid kc
  have kX := c1.can hc
  obtain ⟨sX, LX, DX, cX⟩ := RCan.ex X1
  have lX := c1.lens cX
  have zT := rtxt_size cX
  obtain ⟨T, hT⟩ : ∃ T, T = rtxt X1 := ⟨_, rfl⟩
  have KT := Lib.hid (fun (W : World) (g1 : Reads W (.slice p1 l1.length q1) l1) (h1 : Reads W (.slice o1 d1.length r1) d1) => r_text T c1 hT (by omega) (by omega) g1 h1)
  rw [← hT] at zT
  rw [← hT] at ht
  have hl : (T.size : Int) ≤ 200 := by omega
  have hl2 : ¬ (200 : Int) < (T.size : Int) := by omega
  have hlen : ∀ W : World, (Builtin.len_ #[9] 3 #[.string T]).run Tryz.prog W = .ok (.int .i64 (T.size : Int)) W := fun W => by rw [run_len_string W _ _ T (by kernel_rfl)]; rfl
  obtain ⟨N, hN⟩ : ∃ N : Nat, N = T.size := ⟨_, rfl⟩
  rw [← hN] at hlen hl hl2
  have KP := Lib.hid (fun (W : World) => parse_val T (by omega) (by rw [hT]; exact pout_short (by rw [← hT]; exact ht)) cX W)
  obtain ⟨rfl, rfl, rfl⟩ := kX.uniq cX
  have KS := Lib.hid (fun (W : World) {a b : Option Addr} {c d : Nat} (y1 : Reads W (.slice a l1.length c) l1) (y2 : Reads W (.slice b d1.length d) d1) (g1 : Reads W (.slice p1 l1.length q1) l1) (h1 : Reads W (.slice o1 d1.length r1) d1) => r_same true kX kX (by simp) (by omega) (by omega) (by omega) (by omega) y1 y2 g1 h1)
  have hls : ∀ W : World, (Builtin.len_ #[9] 3 #[.string s]).run Tryz.prog W = .ok (.int .i64 (s.size : Int)) W := fun W => by rw [run_len_string W _ _ s (by kernel_rfl)]; rfl
  have hs1 : ¬ (2000 : Int) < (s.size : Int) := by omega
  obtain ⟨sZ, LZ, DZ, cZ⟩ := RCan.ex Z
  obtain ⟨t1, t2⟩ := pout_small (s := s) (by rw [hp])
  rw [hp] at t1 t2
  simp only at t1 t2
  obtain ⟨u1, u2⟩ := rlit_len t1 t2
  have lZ := cZ.len
  have KQ := Lib.hid (fun (W : World) => parse_val s (by omega) hp cZ W)
  obtain ⟨U, hU⟩ : ∃ U, U = rtxt Z := ⟨_, rfl⟩
  rw [← hU] at u1
  have KU := Lib.hid (fun (W : World) {a b : Option Addr} {c d : Nat} (y1 : Reads W (.slice a LZ.length c) LZ) (y2 : Reads W (.slice b DZ.length d) DZ) => r_text U cZ.is hU (by omega) (by omega) y1 y2)
  have KR := Lib.hid (fun (W : World) => parse_val U (by omega) (by rw [hU]; exact pout_rtxt t1 t2) cZ W)
  have KV := Lib.hid (fun (W : World) {a b : Option Addr} {c d : Nat} (y1 : Reads W (.slice a LZ.length c) LZ) (y2 : Reads W (.slice b DZ.length d) DZ) => rcheck_can cZ (by omega) (by omega) y1 y2)
  have KM := Lib.hid (fun (W : World) {a b : Option Addr} {c d : Nat} {a' b' : Option Addr} {c' d' : Nat} (y1 : Reads W (.slice a LZ.length c) LZ) (y2 : Reads W (.slice b DZ.length d) DZ) (y3 : Reads W (.slice a' LZ.length c') LZ) (y4 : Reads W (.slice b' DZ.length d') DZ) => r_same true cZ cZ (by simp) (by omega) (by omega) (by omega) (by omega) y1 y2 y3 y4)
  clear hU u1 u2 lZ t1 t2 cZ
  have hG : Hid (false = List.any [(n1, (p1, l1.length, q1), (o1, d1.length, r1))] fun t : Q7 => decide (60 < t.2.1.2.1 + t.2.2.2.1)) := Lib.hid (by simp; omega)
  have hZ : Hid (∀ t ∈ ([(n1, (p1, l1.length, q1), (o1, d1.length, r1))] : List Q7), t.2.1.2.1 ≤ 70368744177664 ∧ t.2.2.2.1 ≤ 70368744177664) := Lib.hid (by simp; omega)
  have M : Mem w [(w.heap.size, 27, [.bool n1, .slice p1 l1.length q1, .slice o1 d1.length r1])] [(.slice o1 d1.length r1, d1), (.slice p1 l1.length q1, l1)] (w.alloc (.cells #[.bool n1, .slice p1 l1.length q1, .slice o1 d1.length r1] 27)) := by
    have M := ((((Mem.start w).add g1).add h1).new 27 [.bool n1, .slice p1 l1.length q1, .slice o1 d1.length r1])
    simpa only [World.size_alloc] using M
  clear kc c1 m1 hs g1 h1 hc hp cX lX zT ht hT hN kX
  go_enter Tryz.func6, Tryz.ntmps6
  go_wp2_with fail
  refine (r_alive _).mono ?_
  rintro e w1 ⟨rfl, rr⟩
  have M' := M.up rr; clear M rr; have M := M'; clear M'
  have z_a_0 := M.cell 0 rfl 0 rfl; have z_a_1 := M.cell 0 rfl 1 rfl; have z_a_2 := M.cell 0 rfl 2 rfl
  go_wp2_with fail
  clear z_a_0 z_a_1 z_a_2
  have kg := rgreat_lit w1 60 [(n1, (p1, l1.length, q1), (o1, d1.length, r1))] (vs := #[.bool n1, .slice p1 l1.length q1, .slice o1 d1.length r1]) (by simp [q7v]) (m := 1) rfl (by simp) (by decide) hZ.out false hG.out; rw [show ((60 : Nat) : Int) = 60 from rfl] at kg
  refine (kg).mono ?_
  rintro e w2 ⟨rfl, rr⟩
  have M' := M.up rr; clear M rr; have M := M'; clear M'
  clear kg
  have z_a_0 := M.cell 0 rfl 0 rfl; have z_a_1 := M.cell 0 rfl 1 rfl; have z_a_2 := M.cell 0 rfl 2 rfl
  go_wp2_with fail
  clear z_a_0 z_a_1 z_a_2
  refine (KT.out _ (M.get 1 rfl) (M.get 0 rfl)).mono ?_
  rintro e w3 ⟨rfl, rr⟩
  have M' := M.up rr; clear M rr; have M := M'; clear M'
  go_wp2_with fail
  refine (KP.out _).mono ?_
  rintro e w4 ⟨a2, c2, b2, e2, rfl, g, g', rr⟩
  have M' := (((M.up rr).add g).add g').new 27 [.bool n1, .slice a2 l1.length c2, .slice b2 d1.length e2]; clear M rr g g'; have M := M'; clear M'
  have z_a_0 := M.cell 1 rfl 0 rfl; have z_a_1 := M.cell 1 rfl 1 rfl; have z_a_2 := M.cell 1 rfl 2 rfl
  go_wp2_with fail
  clear z_a_0 z_a_1 z_a_2
  refine (KC.out _ (M.get 3 rfl) (M.get 2 rfl)).mono ?_
  rintro e w5 ⟨rfl, rr⟩
  have M' := M.up rr; clear M rr; have M := M'; clear M'
  have z_a_0 := M.cell 1 rfl 0 rfl; have z_a_1 := M.cell 1 rfl 1 rfl; have z_a_2 := M.cell 1 rfl 2 rfl
  go_wp2_with fail
  clear z_a_0 z_a_1 z_a_2
  refine (KC.out _ (M.get 3 rfl) (M.get 2 rfl)).mono ?_
  rintro e w6 ⟨rfl, rr⟩
  have M' := M.up rr; clear M rr; have M := M'; clear M'
  have z_a_0 := M.cell 1 rfl 0 rfl; have z_a_1 := M.cell 1 rfl 1 rfl; have z_a_2 := M.cell 1 rfl 2 rfl
  have z_b_0 := M.cell 0 rfl 0 rfl; have z_b_1 := M.cell 0 rfl 1 rfl; have z_b_2 := M.cell 0 rfl 2 rfl
  go_wp2_with fail
  clear z_a_0 z_a_1 z_a_2 z_b_0 z_b_1 z_b_2
  refine (KS.out _ (M.get 1 rfl) (M.get 0 rfl) (M.get 3 rfl) (M.get 2 rfl)).mono ?_
  rintro e w7 ⟨rfl, rr⟩
  have M' := M.up rr; clear M rr; have M := M'; clear M'
  go_wp2_with fail
  refine (KQ.out _).mono ?_
  rintro e w8 ⟨a3, c3, b3, e3, rfl, g, g', rr⟩
  have M' := (((M.up rr).add g).add g').new 27 [.bool sZ, .slice a3 LZ.length c3, .slice b3 DZ.length e3]; clear M rr g g'; have M := M'; clear M'
  have z_c_0 := M.cell 0 rfl 0 rfl; have z_c_1 := M.cell 0 rfl 1 rfl; have z_c_2 := M.cell 0 rfl 2 rfl
  go_wp2_with fail
  clear z_c_0 z_c_1 z_c_2
  refine (KU.out _ (M.get 1 rfl) (M.get 0 rfl)).mono ?_
  rintro e w9 ⟨rfl, rr⟩
  have M' := M.up rr; clear M rr; have M := M'; clear M'
  go_wp2_with fail
  refine (KR.out _).mono ?_
  rintro e w10 ⟨a4, c4, b4, e4, rfl, g, g', rr⟩
  have M' := (((M.up rr).add g).add g').new 27 [.bool sZ, .slice a4 LZ.length c4, .slice b4 DZ.length e4]; clear M rr g g'; have M := M'; clear M'
  have z_c_0 := M.cell 1 rfl 0 rfl; have z_c_1 := M.cell 1 rfl 1 rfl; have z_c_2 := M.cell 1 rfl 2 rfl
  go_wp2_with fail
  clear z_c_0 z_c_1 z_c_2
  refine (KV.out _ (M.get 3 rfl) (M.get 2 rfl)).mono ?_
  rintro e w11 ⟨rfl, rr⟩
  have M' := M.up rr; clear M rr; have M := M'; clear M'
  have z_c_0 := M.cell 1 rfl 0 rfl; have z_c_1 := M.cell 1 rfl 1 rfl; have z_c_2 := M.cell 1 rfl 2 rfl
  have z_d_0 := M.cell 0 rfl 0 rfl; have z_d_1 := M.cell 0 rfl 1 rfl; have z_d_2 := M.cell 0 rfl 2 rfl
  go_wp2_with fail
  clear z_c_0 z_c_1 z_c_2 z_d_0 z_d_1 z_d_2
  refine (KM.out _ (M.get 3 rfl) (M.get 2 rfl) (M.get 1 rfl) (M.get 0 rfl)).mono ?_
  rintro e w12 ⟨rfl, rr⟩
  have M' := M.up rr; clear M rr; have M := M'; clear M'
  have z_d_0 := M.cell 0 rfl 0 rfl; have z_d_1 := M.cell 0 rfl 1 rfl; have z_d_2 := M.cell 0 rfl 2 rfl
  go_wp2_with fail
  clear z_d_0 z_d_1 z_d_2
  refine (KU.out _ (M.get 1 rfl) (M.get 0 rfl)).mono ?_
  rintro e w13 ⟨rfl, rr⟩
  have M' := M.up rr; clear M rr; have M := M'; clear M'
  go_wp2_with fail
  go_ret
  exact ⟨rfl, M.below⟩
set_option maxRecDepth 100000 in
set_option maxHeartbeats 8000000 in
theorem rread_C3 {w : World} {n1 : Bool} {p1 o1 : Option Addr} {q1 r1 : Nat} {l1 d1 : List Nat} {X1 : Rat} {s : ByteArray} (c1 : RIs n1 l1 d1 X1) (m1 : l1.length + d1.length ≤ 60) (hs : s.size ≤ 2000) (g1 : Reads w (.slice p1 l1.length q1) l1) (h1 : Reads w (.slice o1 d1.length r1) d1) (hc : rchk n1 l1 d1 = true) (ht : 200 < (rtxt X1).size) {Z : Rat} (hp : pout s = (3, Z)) :
    Calls Tryz.prog 6 #[.agg #[.bool n1, .slice p1 l1.length q1, .slice o1 d1.length r1], .string s] w fun e w' => e = .returned (.bool true) ∧ Below w.heap.size w w' := by
  have kc := fun (W : World) (g1 : Reads W (.slice p1 l1.length q1) l1) (h1 : Reads W (.slice o1 d1.length r1) d1) => rcheck_any (n := n1) g1 h1 c1.1 c1.2.1 (by omega) (by omega)
  rw [hc] at kc
  have KC := Lib.hid kc
  have kX := c1.can hc
  obtain ⟨sX, LX, DX, cX⟩ := RCan.ex X1
  have lX := c1.lens cX
  have zT := rtxt_size cX
  obtain ⟨T, hT⟩ : ∃ T, T = rtxt X1 := ⟨_, rfl⟩
  have KT := Lib.hid (fun (W : World) (g1 : Reads W (.slice p1 l1.length q1) l1) (h1 : Reads W (.slice o1 d1.length r1) d1) => r_text T c1 hT (by omega) (by omega) g1 h1)
  rw [← hT] at zT
  rw [← hT] at ht
  have hl : ¬ (T.size : Int) ≤ 200 := by omega
  have hl2 : (200 : Int) < (T.size : Int) := by omega
  have hlen : ∀ W : World, (Builtin.len_ #[9] 3 #[.string T]).run Tryz.prog W = .ok (.int .i64 (T.size : Int)) W := fun W => by rw [run_len_string W _ _ T (by kernel_rfl)]; rfl
  obtain ⟨N, hN⟩ : ∃ N : Nat, N = T.size := ⟨_, rfl⟩
  rw [← hN] at hlen hl hl2
  obtain ⟨E1, kp⟩ := parse_some T (by omega)
  have KP := Lib.hid kp
  clear kp
  have hls : ∀ W : World, (Builtin.len_ #[9] 3 #[.string s]).run Tryz.prog W = .ok (.int .i64 (s.size : Int)) W := fun W => by rw [run_len_string W _ _ s (by kernel_rfl)]; rfl
  have hs1 : ¬ (2000 : Int) < (s.size : Int) := by omega
  have KQ := Lib.hid (fun (W : World) => parse_err s (by omega) hp (by decide) W)
  have hG : Hid (false = List.any [(n1, (p1, l1.length, q1), (o1, d1.length, r1))] fun t : Q7 => decide (60 < t.2.1.2.1 + t.2.2.2.1)) := Lib.hid (by simp; omega)
  have hZ : Hid (∀ t ∈ ([(n1, (p1, l1.length, q1), (o1, d1.length, r1))] : List Q7), t.2.1.2.1 ≤ 70368744177664 ∧ t.2.2.2.1 ≤ 70368744177664) := Lib.hid (by simp; omega)
  have M : Mem w [(w.heap.size, 27, [.bool n1, .slice p1 l1.length q1, .slice o1 d1.length r1])] [(.slice o1 d1.length r1, d1), (.slice p1 l1.length q1, l1)] (w.alloc (.cells #[.bool n1, .slice p1 l1.length q1, .slice o1 d1.length r1] 27)) := by
    have M := ((((Mem.start w).add g1).add h1).new 27 [.bool n1, .slice p1 l1.length q1, .slice o1 d1.length r1])
    simpa only [World.size_alloc] using M
  clear kc c1 m1 hs g1 h1 hc hp cX lX zT ht hT hN kX
  go_enter Tryz.func6, Tryz.ntmps6
  go_wp2_with fail
  refine (r_alive _).mono ?_
  rintro e w1 ⟨rfl, rr⟩
  have M' := M.up rr; clear M rr; have M := M'; clear M'
  have z_a_0 := M.cell 0 rfl 0 rfl; have z_a_1 := M.cell 0 rfl 1 rfl; have z_a_2 := M.cell 0 rfl 2 rfl
  go_wp2_with fail
  clear z_a_0 z_a_1 z_a_2
  have kg := rgreat_lit w1 60 [(n1, (p1, l1.length, q1), (o1, d1.length, r1))] (vs := #[.bool n1, .slice p1 l1.length q1, .slice o1 d1.length r1]) (by simp [q7v]) (m := 1) rfl (by simp) (by decide) hZ.out false hG.out; rw [show ((60 : Nat) : Int) = 60 from rfl] at kg
  refine (kg).mono ?_
  rintro e w2 ⟨rfl, rr⟩
  have M' := M.up rr; clear M rr; have M := M'; clear M'
  clear kg
  have z_a_0 := M.cell 0 rfl 0 rfl; have z_a_1 := M.cell 0 rfl 1 rfl; have z_a_2 := M.cell 0 rfl 2 rfl
  go_wp2_with fail
  clear z_a_0 z_a_1 z_a_2
  refine (KT.out _ (M.get 1 rfl) (M.get 0 rfl)).mono ?_
  rintro e w3 ⟨rfl, rr⟩
  have M' := M.up rr; clear M rr; have M := M'; clear M'
  go_wp2_with fail
  refine (KP.out _).mono ?_
  rintro e w4 ⟨b5, a2, n2, c2, b2, m2, e2, rfl, rr⟩
  have M' := (M.up rr).new 27 [.bool b5, .slice a2 n2 c2, .slice b2 m2 e2]; clear M rr; have M := M'; clear M'
  have z_a_0 := M.cell 1 rfl 0 rfl; have z_a_1 := M.cell 1 rfl 1 rfl; have z_a_2 := M.cell 1 rfl 2 rfl
  go_wp2_with fail
  clear z_a_0 z_a_1 z_a_2
  refine (KC.out _ (M.get 1 rfl) (M.get 0 rfl)).mono ?_
  rintro e w5 ⟨rfl, rr⟩
  have M' := M.up rr; clear M rr; have M := M'; clear M'
  have z_a_0 := M.cell 1 rfl 0 rfl; have z_a_1 := M.cell 1 rfl 1 rfl; have z_a_2 := M.cell 1 rfl 2 rfl
  go_wp2_with fail
  clear z_a_0 z_a_1 z_a_2
  refine (KC.out _ (M.get 1 rfl) (M.get 0 rfl)).mono ?_
  rintro e w6 ⟨rfl, rr⟩
  have M' := M.up rr; clear M rr; have M := M'; clear M'
  go_wp2_with fail
  refine (KQ.out _).mono ?_
  rintro e w7 ⟨rfl, rr⟩
  have M' := (M.up rr).new 27 [.bool false, .slice none 0 0, .slice none 0 0]; clear M rr; have M := M'; clear M'
  have z_c_0 := M.cell 0 rfl 0 rfl; have z_c_1 := M.cell 0 rfl 1 rfl; have z_c_2 := M.cell 0 rfl 2 rfl
  go_wp2_with fail
  clear z_c_0 z_c_1 z_c_2
  go_ret
  exact ⟨rfl, M.below⟩
set_option maxRecDepth 100000 in
set_option maxHeartbeats 8000000 in
theorem rread_C4 {w : World} {n1 : Bool} {p1 o1 : Option Addr} {q1 r1 : Nat} {l1 d1 : List Nat} {X1 : Rat} {s : ByteArray} (c1 : RIs n1 l1 d1 X1) (m1 : l1.length + d1.length ≤ 60) (hs : s.size ≤ 2000) (g1 : Reads w (.slice p1 l1.length q1) l1) (h1 : Reads w (.slice o1 d1.length r1) d1) (hc : rchk n1 l1 d1 = true) (ht : 200 < (rtxt X1).size) {Z : Rat} (hp : pout s = (4, Z)) :
    Calls Tryz.prog 6 #[.agg #[.bool n1, .slice p1 l1.length q1, .slice o1 d1.length r1], .string s] w fun e w' => e = .returned (.bool true) ∧ Below w.heap.size w w' := by
  have kc := fun (W : World) (g1 : Reads W (.slice p1 l1.length q1) l1) (h1 : Reads W (.slice o1 d1.length r1) d1) => rcheck_any (n := n1) g1 h1 c1.1 c1.2.1 (by omega) (by omega)
  rw [hc] at kc
  have KC := Lib.hid kc
  have kX := c1.can hc
  obtain ⟨sX, LX, DX, cX⟩ := RCan.ex X1
  have lX := c1.lens cX
  have zT := rtxt_size cX
  obtain ⟨T, hT⟩ : ∃ T, T = rtxt X1 := ⟨_, rfl⟩
  have KT := Lib.hid (fun (W : World) (g1 : Reads W (.slice p1 l1.length q1) l1) (h1 : Reads W (.slice o1 d1.length r1) d1) => r_text T c1 hT (by omega) (by omega) g1 h1)
  rw [← hT] at zT
  rw [← hT] at ht
  have hl : ¬ (T.size : Int) ≤ 200 := by omega
  have hl2 : (200 : Int) < (T.size : Int) := by omega
  have hlen : ∀ W : World, (Builtin.len_ #[9] 3 #[.string T]).run Tryz.prog W = .ok (.int .i64 (T.size : Int)) W := fun W => by rw [run_len_string W _ _ T (by kernel_rfl)]; rfl
  obtain ⟨N, hN⟩ : ∃ N : Nat, N = T.size := ⟨_, rfl⟩
  rw [← hN] at hlen hl hl2
  obtain ⟨E1, kp⟩ := parse_some T (by omega)
  have KP := Lib.hid kp
  clear kp
  have hls : ∀ W : World, (Builtin.len_ #[9] 3 #[.string s]).run Tryz.prog W = .ok (.int .i64 (s.size : Int)) W := fun W => by rw [run_len_string W _ _ s (by kernel_rfl)]; rfl
  have hs1 : ¬ (2000 : Int) < (s.size : Int) := by omega
  have KQ := Lib.hid (fun (W : World) => parse_err s (by omega) hp (by decide) W)
  have hG : Hid (false = List.any [(n1, (p1, l1.length, q1), (o1, d1.length, r1))] fun t : Q7 => decide (60 < t.2.1.2.1 + t.2.2.2.1)) := Lib.hid (by simp; omega)
  have hZ : Hid (∀ t ∈ ([(n1, (p1, l1.length, q1), (o1, d1.length, r1))] : List Q7), t.2.1.2.1 ≤ 70368744177664 ∧ t.2.2.2.1 ≤ 70368744177664) := Lib.hid (by simp; omega)
  have M : Mem w [(w.heap.size, 27, [.bool n1, .slice p1 l1.length q1, .slice o1 d1.length r1])] [(.slice o1 d1.length r1, d1), (.slice p1 l1.length q1, l1)] (w.alloc (.cells #[.bool n1, .slice p1 l1.length q1, .slice o1 d1.length r1] 27)) := by
    have M := ((((Mem.start w).add g1).add h1).new 27 [.bool n1, .slice p1 l1.length q1, .slice o1 d1.length r1])
    simpa only [World.size_alloc] using M
  clear kc c1 m1 hs g1 h1 hc hp cX lX zT ht hT hN kX
  go_enter Tryz.func6, Tryz.ntmps6
  go_wp2_with fail
  refine (r_alive _).mono ?_
  rintro e w1 ⟨rfl, rr⟩
  have M' := M.up rr; clear M rr; have M := M'; clear M'
  have z_a_0 := M.cell 0 rfl 0 rfl; have z_a_1 := M.cell 0 rfl 1 rfl; have z_a_2 := M.cell 0 rfl 2 rfl
  go_wp2_with fail
  clear z_a_0 z_a_1 z_a_2
  have kg := rgreat_lit w1 60 [(n1, (p1, l1.length, q1), (o1, d1.length, r1))] (vs := #[.bool n1, .slice p1 l1.length q1, .slice o1 d1.length r1]) (by simp [q7v]) (m := 1) rfl (by simp) (by decide) hZ.out false hG.out; rw [show ((60 : Nat) : Int) = 60 from rfl] at kg
  refine (kg).mono ?_
  rintro e w2 ⟨rfl, rr⟩
  have M' := M.up rr; clear M rr; have M := M'; clear M'
  clear kg
  have z_a_0 := M.cell 0 rfl 0 rfl; have z_a_1 := M.cell 0 rfl 1 rfl; have z_a_2 := M.cell 0 rfl 2 rfl
  go_wp2_with fail
  clear z_a_0 z_a_1 z_a_2
  refine (KT.out _ (M.get 1 rfl) (M.get 0 rfl)).mono ?_
  rintro e w3 ⟨rfl, rr⟩
  have M' := M.up rr; clear M rr; have M := M'; clear M'
  go_wp2_with fail
  refine (KP.out _).mono ?_
  rintro e w4 ⟨b5, a2, n2, c2, b2, m2, e2, rfl, rr⟩
  have M' := (M.up rr).new 27 [.bool b5, .slice a2 n2 c2, .slice b2 m2 e2]; clear M rr; have M := M'; clear M'
  have z_a_0 := M.cell 1 rfl 0 rfl; have z_a_1 := M.cell 1 rfl 1 rfl; have z_a_2 := M.cell 1 rfl 2 rfl
  go_wp2_with fail
  clear z_a_0 z_a_1 z_a_2
  refine (KC.out _ (M.get 1 rfl) (M.get 0 rfl)).mono ?_
  rintro e w5 ⟨rfl, rr⟩
  have M' := M.up rr; clear M rr; have M := M'; clear M'
  have z_a_0 := M.cell 1 rfl 0 rfl; have z_a_1 := M.cell 1 rfl 1 rfl; have z_a_2 := M.cell 1 rfl 2 rfl
  go_wp2_with fail
  clear z_a_0 z_a_1 z_a_2
  refine (KC.out _ (M.get 1 rfl) (M.get 0 rfl)).mono ?_
  rintro e w6 ⟨rfl, rr⟩
  have M' := M.up rr; clear M rr; have M := M'; clear M'
  go_wp2_with fail
  refine (KQ.out _).mono ?_
  rintro e w7 ⟨rfl, rr⟩
  have M' := (M.up rr).new 27 [.bool false, .slice none 0 0, .slice none 0 0]; clear M rr; have M := M'; clear M'
  have z_c_0 := M.cell 0 rfl 0 rfl; have z_c_1 := M.cell 0 rfl 1 rfl; have z_c_2 := M.cell 0 rfl 2 rfl
  go_wp2_with fail
  clear z_c_0 z_c_1 z_c_2
  go_ret
  exact ⟨rfl, M.below⟩
set_option maxRecDepth 100000 in
set_option maxHeartbeats 8000000 in
theorem rread_CV {w : World} {n1 : Bool} {p1 o1 : Option Addr} {q1 r1 : Nat} {l1 d1 : List Nat} {X1 : Rat} {s : ByteArray} (c1 : RIs n1 l1 d1 X1) (m1 : l1.length + d1.length ≤ 60) (hs : s.size ≤ 2000) (g1 : Reads w (.slice p1 l1.length q1) l1) (h1 : Reads w (.slice o1 d1.length r1) d1) (hc : rchk n1 l1 d1 = true) (ht : 200 < (rtxt X1).size) {Z : Rat} (hp : pout s = (0, Z)) :
    Calls Tryz.prog 6 #[.agg #[.bool n1, .slice p1 l1.length q1, .slice o1 d1.length r1], .string s] w fun e w' => e = .returned (.bool true) ∧ Below w.heap.size w w' := by
  have kc := fun (W : World) (g1 : Reads W (.slice p1 l1.length q1) l1) (h1 : Reads W (.slice o1 d1.length r1) d1) => rcheck_any (n := n1) g1 h1 c1.1 c1.2.1 (by omega) (by omega)
  rw [hc] at kc
  have KC := Lib.hid kc
  have kX := c1.can hc
  obtain ⟨sX, LX, DX, cX⟩ := RCan.ex X1
  have lX := c1.lens cX
  have zT := rtxt_size cX
  obtain ⟨T, hT⟩ : ∃ T, T = rtxt X1 := ⟨_, rfl⟩
  have KT := Lib.hid (fun (W : World) (g1 : Reads W (.slice p1 l1.length q1) l1) (h1 : Reads W (.slice o1 d1.length r1) d1) => r_text T c1 hT (by omega) (by omega) g1 h1)
  rw [← hT] at zT
  rw [← hT] at ht
  have hl : ¬ (T.size : Int) ≤ 200 := by omega
  have hl2 : (200 : Int) < (T.size : Int) := by omega
  have hlen : ∀ W : World, (Builtin.len_ #[9] 3 #[.string T]).run Tryz.prog W = .ok (.int .i64 (T.size : Int)) W := fun W => by rw [run_len_string W _ _ T (by kernel_rfl)]; rfl
  obtain ⟨N, hN⟩ : ∃ N : Nat, N = T.size := ⟨_, rfl⟩
  rw [← hN] at hlen hl hl2
  obtain ⟨E1, kp⟩ := parse_some T (by omega)
  have KP := Lib.hid kp
  clear kp
  have hls : ∀ W : World, (Builtin.len_ #[9] 3 #[.string s]).run Tryz.prog W = .ok (.int .i64 (s.size : Int)) W := fun W => by rw [run_len_string W _ _ s (by kernel_rfl)]; rfl
  have hs1 : ¬ (2000 : Int) < (s.size : Int) := by omega
  obtain ⟨sZ, LZ, DZ, cZ⟩ := RCan.ex Z
  obtain ⟨t1, t2⟩ := pout_small (s := s) (by rw [hp])
  rw [hp] at t1 t2
  simp only at t1 t2
  obtain ⟨u1, u2⟩ := rlit_len t1 t2
  have lZ := cZ.len
  have KQ := Lib.hid (fun (W : World) => parse_val s (by omega) hp cZ W)
  obtain ⟨U, hU⟩ : ∃ U, U = rtxt Z := ⟨_, rfl⟩
  rw [← hU] at u1
  have KU := Lib.hid (fun (W : World) {a b : Option Addr} {c d : Nat} (y1 : Reads W (.slice a LZ.length c) LZ) (y2 : Reads W (.slice b DZ.length d) DZ) => r_text U cZ.is hU (by omega) (by omega) y1 y2)
  have KR := Lib.hid (fun (W : World) => parse_val U (by omega) (by rw [hU]; exact pout_rtxt t1 t2) cZ W)
  have KV := Lib.hid (fun (W : World) {a b : Option Addr} {c d : Nat} (y1 : Reads W (.slice a LZ.length c) LZ) (y2 : Reads W (.slice b DZ.length d) DZ) => rcheck_can cZ (by omega) (by omega) y1 y2)
  have KM := Lib.hid (fun (W : World) {a b : Option Addr} {c d : Nat} {a' b' : Option Addr} {c' d' : Nat} (y1 : Reads W (.slice a LZ.length c) LZ) (y2 : Reads W (.slice b DZ.length d) DZ) (y3 : Reads W (.slice a' LZ.length c') LZ) (y4 : Reads W (.slice b' DZ.length d') DZ) => r_same true cZ cZ (by simp) (by omega) (by omega) (by omega) (by omega) y1 y2 y3 y4)
  clear hU u1 u2 lZ t1 t2 cZ
  have hG : Hid (false = List.any [(n1, (p1, l1.length, q1), (o1, d1.length, r1))] fun t : Q7 => decide (60 < t.2.1.2.1 + t.2.2.2.1)) := Lib.hid (by simp; omega)
  have hZ : Hid (∀ t ∈ ([(n1, (p1, l1.length, q1), (o1, d1.length, r1))] : List Q7), t.2.1.2.1 ≤ 70368744177664 ∧ t.2.2.2.1 ≤ 70368744177664) := Lib.hid (by simp; omega)
  have M : Mem w [(w.heap.size, 27, [.bool n1, .slice p1 l1.length q1, .slice o1 d1.length r1])] [(.slice o1 d1.length r1, d1), (.slice p1 l1.length q1, l1)] (w.alloc (.cells #[.bool n1, .slice p1 l1.length q1, .slice o1 d1.length r1] 27)) := by
    have M := ((((Mem.start w).add g1).add h1).new 27 [.bool n1, .slice p1 l1.length q1, .slice o1 d1.length r1])
    simpa only [World.size_alloc] using M
  clear kc c1 m1 hs g1 h1 hc hp cX lX zT ht hT hN kX
  go_enter Tryz.func6, Tryz.ntmps6
  go_wp2_with fail
  refine (r_alive _).mono ?_
  rintro e w1 ⟨rfl, rr⟩
  have M' := M.up rr; clear M rr; have M := M'; clear M'
  have z_a_0 := M.cell 0 rfl 0 rfl; have z_a_1 := M.cell 0 rfl 1 rfl; have z_a_2 := M.cell 0 rfl 2 rfl
  go_wp2_with fail
  clear z_a_0 z_a_1 z_a_2
  have kg := rgreat_lit w1 60 [(n1, (p1, l1.length, q1), (o1, d1.length, r1))] (vs := #[.bool n1, .slice p1 l1.length q1, .slice o1 d1.length r1]) (by simp [q7v]) (m := 1) rfl (by simp) (by decide) hZ.out false hG.out; rw [show ((60 : Nat) : Int) = 60 from rfl] at kg
  refine (kg).mono ?_
  rintro e w2 ⟨rfl, rr⟩
  have M' := M.up rr; clear M rr; have M := M'; clear M'
  clear kg
  have z_a_0 := M.cell 0 rfl 0 rfl; have z_a_1 := M.cell 0 rfl 1 rfl; have z_a_2 := M.cell 0 rfl 2 rfl
  go_wp2_with fail
  clear z_a_0 z_a_1 z_a_2
  refine (KT.out _ (M.get 1 rfl) (M.get 0 rfl)).mono ?_
  rintro e w3 ⟨rfl, rr⟩
  have M' := M.up rr; clear M rr; have M := M'; clear M'
  go_wp2_with fail
  refine (KP.out _).mono ?_
  rintro e w4 ⟨b5, a2, n2, c2, b2, m2, e2, rfl, rr⟩
  have M' := (M.up rr).new 27 [.bool b5, .slice a2 n2 c2, .slice b2 m2 e2]; clear M rr; have M := M'; clear M'
  have z_a_0 := M.cell 1 rfl 0 rfl; have z_a_1 := M.cell 1 rfl 1 rfl; have z_a_2 := M.cell 1 rfl 2 rfl
  go_wp2_with fail
  clear z_a_0 z_a_1 z_a_2
  refine (KC.out _ (M.get 1 rfl) (M.get 0 rfl)).mono ?_
  rintro e w5 ⟨rfl, rr⟩
  have M' := M.up rr; clear M rr; have M := M'; clear M'
  have z_a_0 := M.cell 1 rfl 0 rfl; have z_a_1 := M.cell 1 rfl 1 rfl; have z_a_2 := M.cell 1 rfl 2 rfl
  go_wp2_with fail
  clear z_a_0 z_a_1 z_a_2
  refine (KC.out _ (M.get 1 rfl) (M.get 0 rfl)).mono ?_
  rintro e w6 ⟨rfl, rr⟩
  have M' := M.up rr; clear M rr; have M := M'; clear M'
  go_wp2_with fail
  refine (KQ.out _).mono ?_
  rintro e w7 ⟨a3, c3, b3, e3, rfl, g, g', rr⟩
  have M' := (((M.up rr).add g).add g').new 27 [.bool sZ, .slice a3 LZ.length c3, .slice b3 DZ.length e3]; clear M rr g g'; have M := M'; clear M'
  have z_c_0 := M.cell 0 rfl 0 rfl; have z_c_1 := M.cell 0 rfl 1 rfl; have z_c_2 := M.cell 0 rfl 2 rfl
  go_wp2_with fail
  clear z_c_0 z_c_1 z_c_2
  refine (KU.out _ (M.get 1 rfl) (M.get 0 rfl)).mono ?_
  rintro e w8 ⟨rfl, rr⟩
  have M' := M.up rr; clear M rr; have M := M'; clear M'
  go_wp2_with fail
  refine (KR.out _).mono ?_
  rintro e w9 ⟨a4, c4, b4, e4, rfl, g, g', rr⟩
  have M' := (((M.up rr).add g).add g').new 27 [.bool sZ, .slice a4 LZ.length c4, .slice b4 DZ.length e4]; clear M rr g g'; have M := M'; clear M'
  have z_c_0 := M.cell 1 rfl 0 rfl; have z_c_1 := M.cell 1 rfl 1 rfl; have z_c_2 := M.cell 1 rfl 2 rfl
  go_wp2_with fail
  clear z_c_0 z_c_1 z_c_2
  refine (KV.out _ (M.get 3 rfl) (M.get 2 rfl)).mono ?_
  rintro e w10 ⟨rfl, rr⟩
  have M' := M.up rr; clear M rr; have M := M'; clear M'
  have z_c_0 := M.cell 1 rfl 0 rfl; have z_c_1 := M.cell 1 rfl 1 rfl; have z_c_2 := M.cell 1 rfl 2 rfl
  have z_d_0 := M.cell 0 rfl 0 rfl; have z_d_1 := M.cell 0 rfl 1 rfl; have z_d_2 := M.cell 0 rfl 2 rfl
  go_wp2_with fail
  clear z_c_0 z_c_1 z_c_2 z_d_0 z_d_1 z_d_2
  refine (KM.out _ (M.get 3 rfl) (M.get 2 rfl) (M.get 1 rfl) (M.get 0 rfl)).mono ?_
  rintro e w11 ⟨rfl, rr⟩
  have M' := M.up rr; clear M rr; have M := M'; clear M'
  have z_d_0 := M.cell 0 rfl 0 rfl; have z_d_1 := M.cell 0 rfl 1 rfl; have z_d_2 := M.cell 0 rfl 2 rfl
  go_wp2_with fail
  clear z_d_0 z_d_1 z_d_2
  refine (KU.out _ (M.get 1 rfl) (M.get 0 rfl)).mono ?_
  rintro e w12 ⟨rfl, rr⟩
  have M' := M.up rr; clear M rr; have M := M'; clear M'
  go_wp2_with fail
  go_ret
  exact ⟨rfl, M.below⟩

end Go.Proofs.YthnlmjnfdokdbaaGreatDoor
