/- NatsRead: its walks. -/
import Derived.Test.YtogpdkdkmgjdpaaDec
namespace Go.Proofs.Ytogpdkdkmgjdpaa
open Go Go.Proofs Go.RowKit Go.Shelf Nu

set_option maxRecDepth 100000 in
set_option maxHeartbeats 2000000 in
theorem read_great {w : World} {a1 : Option Addr} {na ca : Nat} {s : ByteArray} (h : 300 < na) :
    Calls Try.prog 7 #[.slice a1 na ca, .string s] w fun e w' => e = .returned (.bool true) ∧ Below w.heap.size w w' := by
  have hG : Hid (true = [(a1, na, ca)].any (fun t => decide (300 < t.2.1))) := Lib.hid (by simpa using h)

  clear h
  have r0 := Below.refl w.heap.size w
  go_enter Try.func7, Try.ntmps7
  go_wp2_with (first
    | (go_at_call 11; with_reducible refine (alive_any w).mono ?_; rintro e w1 ⟨rfl, r1⟩; replace r0 := then_below r0 r1)
    | (go_at_call 18; have kg := great_lit w1 [(a1, na, ca)] (vs := #[.slice a1 na ca]) rfl (m := 1) rfl (by simp) true hG.out; with_reducible refine kg.mono ?_; clear kg; rintro e w2 ⟨rfl, r2⟩; replace r0 := then_below r0 r2)
    | (go_at_call 11; with_reducible refine (alive_any w2).mono ?_; rintro e w3 ⟨rfl, r3⟩; replace r0 := then_below r0 r3))
  go_ret
  exact ⟨rfl, r0⟩

set_option maxRecDepth 100000 in
set_option maxHeartbeats 2000000 in
theorem read_long {w : World} {a1 : Option Addr} {na ca : Nat} {s : ByteArray} (h : na ≤ 300) (hs : s.size < 9223372036854775808) (h2 : 1048576 < s.size) :
    Calls Try.prog 7 #[.slice a1 na ca, .string s] w fun e w' => e = .returned (.bool true) ∧ Below w.heap.size w w' := by
  have hG : Hid (false = [(a1, na, ca)].any (fun t => decide (300 < t.2.1))) := Lib.hid (by simpa using h)
  have hB : Hid (true = decide (1048576 < s.size)) := Lib.hid (by simp; omega)

  clear h h2
  have r0 := Below.refl w.heap.size w
  go_enter Try.func7, Try.ntmps7
  go_wp2_with (first
    | (go_at_call 11; with_reducible refine (alive_any w).mono ?_; rintro e w1 ⟨rfl, r1⟩; replace r0 := then_below r0 r1)
    | (go_at_call 18; have kg := great_lit w1 [(a1, na, ca)] (vs := #[.slice a1 na ca]) rfl (m := 1) rfl (by simp) false hG.out; with_reducible refine kg.mono ?_; clear kg; rintro e w2 ⟨rfl, r2⟩; replace r0 := then_below r0 r2)
    | (go_at_call 21; have kb := beyond_one w2 s.size hs true hB.out; with_reducible refine kb.mono ?_; clear kb; rintro e w3 ⟨rfl, r3⟩; replace r0 := then_below r0 r3)
    | (go_at_call 11; with_reducible refine (alive_any w3).mono ?_; rintro e w4 ⟨rfl, r4⟩; replace r0 := then_below r0 r4))
  go_ret
  exact ⟨rfl, r0⟩

set_option maxRecDepth 100000 in
set_option maxHeartbeats 2000000 in
theorem read_short_form {w : World} {a1 : Option Addr} {ca : Nat} {s : ByteArray} (hs : s.size ≤ 1048576) {A : Nat} (ga : Reads w (.slice a1 (digs A).length ca) (digs A)) (LA : (digs A).length ≤ 300) (hl : (txt A).size ≤ 200) (hf : ¬ isNum s) :
    Calls Try.prog 7 #[.slice a1 (digs A).length ca, .string s] w fun e w' => e = .returned (.bool true) ∧ Below w.heap.size w w' := by
  have hG : Hid (false = [(a1, (digs A).length, ca)].any (fun t => decide (300 < t.2.1))) := Lib.hid (by simpa using LA)
  have hB : Hid (false = decide (1048576 < s.size)) := Lib.hid (by simp; omega)
  have hs9 : s.size < 9223372036854775808 := by omega
  obtain ⟨T, hT⟩ : ∃ T, T = txt A := ⟨_, rfl⟩
  have nT := txt_num A
  have vT := txt_numv A
  rw [← hT] at nT vT hl
  have t1 := fun (W : World) (g : Reads W (.slice a1 (digs A).length ca) (digs A)) => text_any g (sm_digs _) (chk_digs _) (by omega) T (by rw [val_digs]; exact hT)
  have p1 := fun (W : World) => parse_ok T W nT hl
  rw [vT] at p1
  have hl1 : (T.size : Int) ≤ 200 := by omega
  have hl2 : ¬ (200 : Int) < (T.size : Int) := by omega
  have p2 := fun (W : World) => parse_form s W (by omega) hf
  have k1 := fun (W : World) {p1 : Option Addr} {q1 : Nat} (h1 : Reads W (.slice p1 (digs A).length q1) (digs A)) => d_check  h1 (by omega)
  have k2 := fun (W : World) {p1 : Option Addr} {q1 : Nat} {p2 : Option Addr} {q2 : Nat} (h1 : Reads W (.slice p1 (digs A).length q1) (digs A)) (h2 : Reads W (.slice p2 (digs A).length q2) (digs A)) => d_same true h1 h2 (by omega) (by omega) (by simp)
  have k3 := fun (W : World) {p1 : Option Addr} {q1 : Nat} (h1 : Reads W (.slice p1 (digs A).length q1) (digs A)) => d_check  h1 (by omega)
  clear LA hl hT nT vT hs hf
  have r0 := Below.refl w.heap.size w
  go_enter Try.func7, Try.ntmps7
  go_wp2_with (first
    | (go_at_call 11; with_reducible refine (alive_any w).mono ?_; rintro e w1 ⟨rfl, r1⟩; replace r0 := then_below r0 r1; replace ga := ga.below r1)
    | (go_at_call 18; have kg := great_lit w1 [(a1, (digs A).length, ca)] (vs := #[.slice a1 (digs A).length ca]) rfl (m := 1) rfl (by simp) false hG.out; with_reducible refine kg.mono ?_; clear kg; rintro e w2 ⟨rfl, r2⟩; replace r0 := then_below r0 r2; replace ga := ga.below r2)
    | (go_at_call 21; have kb := beyond_one w2 s.size hs9 false hB.out; with_reducible refine kb.mono ?_; clear kb; rintro e w3 ⟨rfl, r3⟩; replace r0 := then_below r0 r3; replace ga := ga.below r3)
    | (go_at_call 22; with_reducible refine (t1 w3 ga).mono ?_; rintro e w4 ⟨rfl, r4⟩; replace r0 := then_below r0 r4; replace ga := ga.below r4)
    | (go_at_call 23; with_reducible refine (p1 w4).mono ?_; rintro e w5 ⟨v5, rfl, f5, r5⟩; have gb := f5.reads; obtain ⟨ap, cp, rfl⟩ := gb.form; clear f5; replace r0 := then_below r0 r5; replace ga := ga.below r5)
    | (go_at_call 14; with_reducible refine (k1 w5 ga).mono ?_; rintro e w6 ⟨rfl, r6⟩; replace r0 := then_below r0 r6; replace ga := ga.below r6; replace gb := gb.below r6)
    | (go_at_call 15; with_reducible refine (k2 w6 gb ga).mono ?_; rintro e w7 ⟨rfl, r7⟩; replace r0 := then_below r0 r7; replace ga := ga.below r7)
    | (go_at_call 14; with_reducible refine (k3 w7 ga).mono ?_; rintro e w8 ⟨rfl, r8⟩; replace r0 := then_below r0 r8)
    | (go_at_call 23; with_reducible refine (p2 w8).mono ?_; rintro e w9 ⟨rfl, r9⟩; replace r0 := then_below r0 r9))
  go_ret
  exact ⟨rfl, r0⟩

set_option maxRecDepth 100000 in
set_option maxHeartbeats 2000000 in
theorem read_short_limit {w : World} {a1 : Option Addr} {ca : Nat} {s : ByteArray} (hs : s.size ≤ 1048576) {A : Nat} (ga : Reads w (.slice a1 (digs A).length ca) (digs A)) (LA : (digs A).length ≤ 300) (hl : (txt A).size ≤ 200) (hf : isNum s) (hf2 : 200 < s.size) :
    Calls Try.prog 7 #[.slice a1 (digs A).length ca, .string s] w fun e w' => e = .returned (.bool true) ∧ Below w.heap.size w w' := by
  have hG : Hid (false = [(a1, (digs A).length, ca)].any (fun t => decide (300 < t.2.1))) := Lib.hid (by simpa using LA)
  have hB : Hid (false = decide (1048576 < s.size)) := Lib.hid (by simp; omega)
  have hs9 : s.size < 9223372036854775808 := by omega
  obtain ⟨T, hT⟩ : ∃ T, T = txt A := ⟨_, rfl⟩
  have nT := txt_num A
  have vT := txt_numv A
  rw [← hT] at nT vT hl
  have t1 := fun (W : World) (g : Reads W (.slice a1 (digs A).length ca) (digs A)) => text_any g (sm_digs _) (chk_digs _) (by omega) T (by rw [val_digs]; exact hT)
  have p1 := fun (W : World) => parse_ok T W nT hl
  rw [vT] at p1
  have hl1 : (T.size : Int) ≤ 200 := by omega
  have hl2 : ¬ (200 : Int) < (T.size : Int) := by omega
  have p2 := fun (W : World) => parse_limit s W (by omega) hf hf2
  have k1 := fun (W : World) {p1 : Option Addr} {q1 : Nat} (h1 : Reads W (.slice p1 (digs A).length q1) (digs A)) => d_check  h1 (by omega)
  have k2 := fun (W : World) {p1 : Option Addr} {q1 : Nat} {p2 : Option Addr} {q2 : Nat} (h1 : Reads W (.slice p1 (digs A).length q1) (digs A)) (h2 : Reads W (.slice p2 (digs A).length q2) (digs A)) => d_same true h1 h2 (by omega) (by omega) (by simp)
  have k3 := fun (W : World) {p1 : Option Addr} {q1 : Nat} (h1 : Reads W (.slice p1 (digs A).length q1) (digs A)) => d_check  h1 (by omega)
  clear LA hl hT nT vT hf2 hs hf
  have r0 := Below.refl w.heap.size w
  go_enter Try.func7, Try.ntmps7
  go_wp2_with (first
    | (go_at_call 11; with_reducible refine (alive_any w).mono ?_; rintro e w1 ⟨rfl, r1⟩; replace r0 := then_below r0 r1; replace ga := ga.below r1)
    | (go_at_call 18; have kg := great_lit w1 [(a1, (digs A).length, ca)] (vs := #[.slice a1 (digs A).length ca]) rfl (m := 1) rfl (by simp) false hG.out; with_reducible refine kg.mono ?_; clear kg; rintro e w2 ⟨rfl, r2⟩; replace r0 := then_below r0 r2; replace ga := ga.below r2)
    | (go_at_call 21; have kb := beyond_one w2 s.size hs9 false hB.out; with_reducible refine kb.mono ?_; clear kb; rintro e w3 ⟨rfl, r3⟩; replace r0 := then_below r0 r3; replace ga := ga.below r3)
    | (go_at_call 22; with_reducible refine (t1 w3 ga).mono ?_; rintro e w4 ⟨rfl, r4⟩; replace r0 := then_below r0 r4; replace ga := ga.below r4)
    | (go_at_call 23; with_reducible refine (p1 w4).mono ?_; rintro e w5 ⟨v5, rfl, f5, r5⟩; have gb := f5.reads; obtain ⟨ap, cp, rfl⟩ := gb.form; clear f5; replace r0 := then_below r0 r5; replace ga := ga.below r5)
    | (go_at_call 14; with_reducible refine (k1 w5 ga).mono ?_; rintro e w6 ⟨rfl, r6⟩; replace r0 := then_below r0 r6; replace ga := ga.below r6; replace gb := gb.below r6)
    | (go_at_call 15; with_reducible refine (k2 w6 gb ga).mono ?_; rintro e w7 ⟨rfl, r7⟩; replace r0 := then_below r0 r7; replace ga := ga.below r7)
    | (go_at_call 14; with_reducible refine (k3 w7 ga).mono ?_; rintro e w8 ⟨rfl, r8⟩; replace r0 := then_below r0 r8)
    | (go_at_call 23; with_reducible refine (p2 w8).mono ?_; rintro e w9 ⟨rfl, r9⟩; replace r0 := then_below r0 r9))
  go_ret
  exact ⟨rfl, r0⟩

set_option maxRecDepth 100000 in
set_option maxHeartbeats 2000000 in
theorem read_short_ok {w : World} {a1 : Option Addr} {ca : Nat} {s : ByteArray} (hs : s.size ≤ 1048576) {A : Nat} (ga : Reads w (.slice a1 (digs A).length ca) (digs A)) (LA : (digs A).length ≤ 300) (hl : (txt A).size ≤ 200) (hf : isNum s) (hf2 : s.size ≤ 200) :
    Calls Try.prog 7 #[.slice a1 (digs A).length ca, .string s] w fun e w' => e = .returned (.bool true) ∧ Below w.heap.size w w' := by
  have hG : Hid (false = [(a1, (digs A).length, ca)].any (fun t => decide (300 < t.2.1))) := Lib.hid (by simpa using LA)
  have hB : Hid (false = decide (1048576 < s.size)) := Lib.hid (by simp; omega)
  have hs9 : s.size < 9223372036854775808 := by omega
  obtain ⟨T, hT⟩ : ∃ T, T = txt A := ⟨_, rfl⟩
  have nT := txt_num A
  have vT := txt_numv A
  rw [← hT] at nT vT hl
  have t1 := fun (W : World) (g : Reads W (.slice a1 (digs A).length ca) (digs A)) => text_any g (sm_digs _) (chk_digs _) (by omega) T (by rw [val_digs]; exact hT)
  have p1 := fun (W : World) => parse_ok T W nT hl
  rw [vT] at p1
  have hl1 : (T.size : Int) ≤ 200 := by omega
  have hl2 : ¬ (200 : Int) < (T.size : Int) := by omega
  obtain ⟨M, hM⟩ : ∃ M, M = numv s s.size := ⟨_, rfl⟩
  have p2 := fun (W : World) => parse_ok s W hf hf2
  rw [← hM] at p2
  have LM : (digs M).length ≤ 200 := by rw [hM]; exact Nat.le_trans (numv_len s s.size fun j hj => (hf.1 j hj).2) hf2
  have t2 := fun (W : World) {p q} (g : Reads W (.slice p (digs M).length q) (digs M)) => text_any g (sm_digs _) (chk_digs _) (by omega) s (by rw [val_digs, hM]; exact (txt_back hf).symm)
  have hs2 : (s.size : Int) ≤ 200 := by omega
  have k1 := fun (W : World) {p1 : Option Addr} {q1 : Nat} (h1 : Reads W (.slice p1 (digs A).length q1) (digs A)) => d_check  h1 (by omega)
  have k2 := fun (W : World) {p1 : Option Addr} {q1 : Nat} {p2 : Option Addr} {q2 : Nat} (h1 : Reads W (.slice p1 (digs A).length q1) (digs A)) (h2 : Reads W (.slice p2 (digs A).length q2) (digs A)) => d_same true h1 h2 (by omega) (by omega) (by simp)
  have k3 := fun (W : World) {p1 : Option Addr} {q1 : Nat} (h1 : Reads W (.slice p1 (digs A).length q1) (digs A)) => d_check  h1 (by omega)
  have k4 := fun (W : World) {p1 : Option Addr} {q1 : Nat} (h1 : Reads W (.slice p1 (digs M).length q1) (digs M)) => d_check  h1 (by omega)
  clear LA hl hT nT vT hf2 hM LM hs hf
  have r0 := Below.refl w.heap.size w
  go_enter Try.func7, Try.ntmps7
  go_wp2_with (first
    | (go_at_call 11; with_reducible refine (alive_any w).mono ?_; rintro e w1 ⟨rfl, r1⟩; replace r0 := then_below r0 r1; replace ga := ga.below r1)
    | (go_at_call 18; have kg := great_lit w1 [(a1, (digs A).length, ca)] (vs := #[.slice a1 (digs A).length ca]) rfl (m := 1) rfl (by simp) false hG.out; with_reducible refine kg.mono ?_; clear kg; rintro e w2 ⟨rfl, r2⟩; replace r0 := then_below r0 r2; replace ga := ga.below r2)
    | (go_at_call 21; have kb := beyond_one w2 s.size hs9 false hB.out; with_reducible refine kb.mono ?_; clear kb; rintro e w3 ⟨rfl, r3⟩; replace r0 := then_below r0 r3; replace ga := ga.below r3)
    | (go_at_call 22; with_reducible refine (t1 w3 ga).mono ?_; rintro e w4 ⟨rfl, r4⟩; replace r0 := then_below r0 r4; replace ga := ga.below r4)
    | (go_at_call 23; with_reducible refine (p1 w4).mono ?_; rintro e w5 ⟨v5, rfl, f5, r5⟩; have gb := f5.reads; obtain ⟨ap, cp, rfl⟩ := gb.form; clear f5; replace r0 := then_below r0 r5; replace ga := ga.below r5)
    | (go_at_call 14; with_reducible refine (k1 w5 ga).mono ?_; rintro e w6 ⟨rfl, r6⟩; replace r0 := then_below r0 r6; replace ga := ga.below r6; replace gb := gb.below r6)
    | (go_at_call 15; with_reducible refine (k2 w6 gb ga).mono ?_; rintro e w7 ⟨rfl, r7⟩; replace r0 := then_below r0 r7; replace ga := ga.below r7)
    | (go_at_call 14; with_reducible refine (k3 w7 ga).mono ?_; rintro e w8 ⟨rfl, r8⟩; replace r0 := then_below r0 r8)
    | (go_at_call 23; with_reducible refine (p2 w8).mono ?_; rintro e w9 ⟨v9, rfl, f9, r9⟩; have gc := f9.reads; obtain ⟨aq, cq, rfl⟩ := gc.form; clear f9; replace r0 := then_below r0 r9)
    | (go_at_call 14; with_reducible refine (k4 w9 gc).mono ?_; rintro e w10 ⟨rfl, r10⟩; replace r0 := then_below r0 r10; replace gc := gc.below r10)
    | (go_at_call 22; with_reducible refine (t2 w10 gc).mono ?_; rintro e w11 ⟨rfl, r11⟩; replace r0 := then_below r0 r11))
  go_ret
  exact ⟨rfl, r0⟩

set_option maxRecDepth 100000 in
set_option maxHeartbeats 2000000 in
theorem read_long_form {w : World} {a1 : Option Addr} {ca : Nat} {s : ByteArray} (hs : s.size ≤ 1048576) {A : Nat} (ga : Reads w (.slice a1 (digs A).length ca) (digs A)) (LA : (digs A).length ≤ 300) (hl : 200 < (txt A).size) (hf : ¬ isNum s) :
    Calls Try.prog 7 #[.slice a1 (digs A).length ca, .string s] w fun e w' => e = .returned (.bool true) ∧ Below w.heap.size w w' := by
  have hG : Hid (false = [(a1, (digs A).length, ca)].any (fun t => decide (300 < t.2.1))) := Lib.hid (by simpa using LA)
  have hB : Hid (false = decide (1048576 < s.size)) := Lib.hid (by simp; omega)
  have hs9 : s.size < 9223372036854775808 := by omega
  obtain ⟨T, hT⟩ : ∃ T, T = txt A := ⟨_, rfl⟩
  have nT := txt_num A
  have vT := txt_numv A
  rw [← hT] at nT vT hl
  have t1 := fun (W : World) (g : Reads W (.slice a1 (digs A).length ca) (digs A)) => text_any g (sm_digs _) (chk_digs _) (by omega) T (by rw [val_digs]; exact hT)
  have hTs : T.size ≤ 2000000 := by rw [hT, txt_size]; have := low_len_val (sm_digs A); rw [val_digs] at this; omega
  have p1 := fun (W : World) => parse_limit T W hTs nT hl
  have hl1 : ¬ (T.size : Int) ≤ 200 := by omega
  have hl2 : (200 : Int) < (T.size : Int) := by omega
  have p2 := fun (W : World) => parse_form s W (by omega) hf
  have k1 := fun (W : World) {p1 : Option Addr} {q1 : Nat} (h1 : Reads W (.slice p1 (digs A).length q1) (digs A)) => d_check  h1 (by omega)
  have k2 := fun (W : World) {p1 : Option Addr} {q1 : Nat} (h1 : Reads W (.slice p1 (digs A).length q1) (digs A)) => d_check  h1 (by omega)
  clear hTs LA hl hT nT vT hs hf
  have r0 := Below.refl w.heap.size w
  go_enter Try.func7, Try.ntmps7
  go_wp2_with (first
    | (go_at_call 11; with_reducible refine (alive_any w).mono ?_; rintro e w1 ⟨rfl, r1⟩; replace r0 := then_below r0 r1; replace ga := ga.below r1)
    | (go_at_call 18; have kg := great_lit w1 [(a1, (digs A).length, ca)] (vs := #[.slice a1 (digs A).length ca]) rfl (m := 1) rfl (by simp) false hG.out; with_reducible refine kg.mono ?_; clear kg; rintro e w2 ⟨rfl, r2⟩; replace r0 := then_below r0 r2; replace ga := ga.below r2)
    | (go_at_call 21; have kb := beyond_one w2 s.size hs9 false hB.out; with_reducible refine kb.mono ?_; clear kb; rintro e w3 ⟨rfl, r3⟩; replace r0 := then_below r0 r3; replace ga := ga.below r3)
    | (go_at_call 22; with_reducible refine (t1 w3 ga).mono ?_; rintro e w4 ⟨rfl, r4⟩; replace r0 := then_below r0 r4; replace ga := ga.below r4)
    | (go_at_call 23; with_reducible refine (p1 w4).mono ?_; rintro e w5 ⟨rfl, r5⟩; replace r0 := then_below r0 r5; replace ga := ga.below r5)
    | (go_at_call 14; with_reducible refine (k1 w5 ga).mono ?_; rintro e w6 ⟨rfl, r6⟩; replace r0 := then_below r0 r6; replace ga := ga.below r6)
    | (go_at_call 14; with_reducible refine (k2 w6 ga).mono ?_; rintro e w7 ⟨rfl, r7⟩; replace r0 := then_below r0 r7)
    | (go_at_call 23; with_reducible refine (p2 w7).mono ?_; rintro e w8 ⟨rfl, r8⟩; replace r0 := then_below r0 r8))
  go_ret
  exact ⟨rfl, r0⟩

set_option maxRecDepth 100000 in
set_option maxHeartbeats 2000000 in
theorem read_long_limit {w : World} {a1 : Option Addr} {ca : Nat} {s : ByteArray} (hs : s.size ≤ 1048576) {A : Nat} (ga : Reads w (.slice a1 (digs A).length ca) (digs A)) (LA : (digs A).length ≤ 300) (hl : 200 < (txt A).size) (hf : isNum s) (hf2 : 200 < s.size) :
    Calls Try.prog 7 #[.slice a1 (digs A).length ca, .string s] w fun e w' => e = .returned (.bool true) ∧ Below w.heap.size w w' := by
  have hG : Hid (false = [(a1, (digs A).length, ca)].any (fun t => decide (300 < t.2.1))) := Lib.hid (by simpa using LA)
  have hB : Hid (false = decide (1048576 < s.size)) := Lib.hid (by simp; omega)
  have hs9 : s.size < 9223372036854775808 := by omega
  obtain ⟨T, hT⟩ : ∃ T, T = txt A := ⟨_, rfl⟩
  have nT := txt_num A
  have vT := txt_numv A
  rw [← hT] at nT vT hl
  have t1 := fun (W : World) (g : Reads W (.slice a1 (digs A).length ca) (digs A)) => text_any g (sm_digs _) (chk_digs _) (by omega) T (by rw [val_digs]; exact hT)
  have hTs : T.size ≤ 2000000 := by rw [hT, txt_size]; have := low_len_val (sm_digs A); rw [val_digs] at this; omega
  have p1 := fun (W : World) => parse_limit T W hTs nT hl
  have hl1 : ¬ (T.size : Int) ≤ 200 := by omega
  have hl2 : (200 : Int) < (T.size : Int) := by omega
  have p2 := fun (W : World) => parse_limit s W (by omega) hf hf2
  have k1 := fun (W : World) {p1 : Option Addr} {q1 : Nat} (h1 : Reads W (.slice p1 (digs A).length q1) (digs A)) => d_check  h1 (by omega)
  have k2 := fun (W : World) {p1 : Option Addr} {q1 : Nat} (h1 : Reads W (.slice p1 (digs A).length q1) (digs A)) => d_check  h1 (by omega)
  clear hTs LA hl hT nT vT hf2 hs hf
  have r0 := Below.refl w.heap.size w
  go_enter Try.func7, Try.ntmps7
  go_wp2_with (first
    | (go_at_call 11; with_reducible refine (alive_any w).mono ?_; rintro e w1 ⟨rfl, r1⟩; replace r0 := then_below r0 r1; replace ga := ga.below r1)
    | (go_at_call 18; have kg := great_lit w1 [(a1, (digs A).length, ca)] (vs := #[.slice a1 (digs A).length ca]) rfl (m := 1) rfl (by simp) false hG.out; with_reducible refine kg.mono ?_; clear kg; rintro e w2 ⟨rfl, r2⟩; replace r0 := then_below r0 r2; replace ga := ga.below r2)
    | (go_at_call 21; have kb := beyond_one w2 s.size hs9 false hB.out; with_reducible refine kb.mono ?_; clear kb; rintro e w3 ⟨rfl, r3⟩; replace r0 := then_below r0 r3; replace ga := ga.below r3)
    | (go_at_call 22; with_reducible refine (t1 w3 ga).mono ?_; rintro e w4 ⟨rfl, r4⟩; replace r0 := then_below r0 r4; replace ga := ga.below r4)
    | (go_at_call 23; with_reducible refine (p1 w4).mono ?_; rintro e w5 ⟨rfl, r5⟩; replace r0 := then_below r0 r5; replace ga := ga.below r5)
    | (go_at_call 14; with_reducible refine (k1 w5 ga).mono ?_; rintro e w6 ⟨rfl, r6⟩; replace r0 := then_below r0 r6; replace ga := ga.below r6)
    | (go_at_call 14; with_reducible refine (k2 w6 ga).mono ?_; rintro e w7 ⟨rfl, r7⟩; replace r0 := then_below r0 r7)
    | (go_at_call 23; with_reducible refine (p2 w7).mono ?_; rintro e w8 ⟨rfl, r8⟩; replace r0 := then_below r0 r8))
  go_ret
  exact ⟨rfl, r0⟩

set_option maxRecDepth 100000 in
set_option maxHeartbeats 2000000 in
theorem read_long_ok {w : World} {a1 : Option Addr} {ca : Nat} {s : ByteArray} (hs : s.size ≤ 1048576) {A : Nat} (ga : Reads w (.slice a1 (digs A).length ca) (digs A)) (LA : (digs A).length ≤ 300) (hl : 200 < (txt A).size) (hf : isNum s) (hf2 : s.size ≤ 200) :
    Calls Try.prog 7 #[.slice a1 (digs A).length ca, .string s] w fun e w' => e = .returned (.bool true) ∧ Below w.heap.size w w' := by
  have hG : Hid (false = [(a1, (digs A).length, ca)].any (fun t => decide (300 < t.2.1))) := Lib.hid (by simpa using LA)
  have hB : Hid (false = decide (1048576 < s.size)) := Lib.hid (by simp; omega)
  have hs9 : s.size < 9223372036854775808 := by omega
  obtain ⟨T, hT⟩ : ∃ T, T = txt A := ⟨_, rfl⟩
  have nT := txt_num A
  have vT := txt_numv A
  rw [← hT] at nT vT hl
  have t1 := fun (W : World) (g : Reads W (.slice a1 (digs A).length ca) (digs A)) => text_any g (sm_digs _) (chk_digs _) (by omega) T (by rw [val_digs]; exact hT)
  have hTs : T.size ≤ 2000000 := by rw [hT, txt_size]; have := low_len_val (sm_digs A); rw [val_digs] at this; omega
  have p1 := fun (W : World) => parse_limit T W hTs nT hl
  have hl1 : ¬ (T.size : Int) ≤ 200 := by omega
  have hl2 : (200 : Int) < (T.size : Int) := by omega
  obtain ⟨M, hM⟩ : ∃ M, M = numv s s.size := ⟨_, rfl⟩
  have p2 := fun (W : World) => parse_ok s W hf hf2
  rw [← hM] at p2
  have LM : (digs M).length ≤ 200 := by rw [hM]; exact Nat.le_trans (numv_len s s.size fun j hj => (hf.1 j hj).2) hf2
  have t2 := fun (W : World) {p q} (g : Reads W (.slice p (digs M).length q) (digs M)) => text_any g (sm_digs _) (chk_digs _) (by omega) s (by rw [val_digs, hM]; exact (txt_back hf).symm)
  have hs2 : (s.size : Int) ≤ 200 := by omega
  have k1 := fun (W : World) {p1 : Option Addr} {q1 : Nat} (h1 : Reads W (.slice p1 (digs A).length q1) (digs A)) => d_check  h1 (by omega)
  have k2 := fun (W : World) {p1 : Option Addr} {q1 : Nat} (h1 : Reads W (.slice p1 (digs A).length q1) (digs A)) => d_check  h1 (by omega)
  have k3 := fun (W : World) {p1 : Option Addr} {q1 : Nat} (h1 : Reads W (.slice p1 (digs M).length q1) (digs M)) => d_check  h1 (by omega)
  clear hTs LA hl hT nT vT hf2 hM LM hs hf
  have r0 := Below.refl w.heap.size w
  go_enter Try.func7, Try.ntmps7
  go_wp2_with (first
    | (go_at_call 11; with_reducible refine (alive_any w).mono ?_; rintro e w1 ⟨rfl, r1⟩; replace r0 := then_below r0 r1; replace ga := ga.below r1)
    | (go_at_call 18; have kg := great_lit w1 [(a1, (digs A).length, ca)] (vs := #[.slice a1 (digs A).length ca]) rfl (m := 1) rfl (by simp) false hG.out; with_reducible refine kg.mono ?_; clear kg; rintro e w2 ⟨rfl, r2⟩; replace r0 := then_below r0 r2; replace ga := ga.below r2)
    | (go_at_call 21; have kb := beyond_one w2 s.size hs9 false hB.out; with_reducible refine kb.mono ?_; clear kb; rintro e w3 ⟨rfl, r3⟩; replace r0 := then_below r0 r3; replace ga := ga.below r3)
    | (go_at_call 22; with_reducible refine (t1 w3 ga).mono ?_; rintro e w4 ⟨rfl, r4⟩; replace r0 := then_below r0 r4; replace ga := ga.below r4)
    | (go_at_call 23; with_reducible refine (p1 w4).mono ?_; rintro e w5 ⟨rfl, r5⟩; replace r0 := then_below r0 r5; replace ga := ga.below r5)
    | (go_at_call 14; with_reducible refine (k1 w5 ga).mono ?_; rintro e w6 ⟨rfl, r6⟩; replace r0 := then_below r0 r6; replace ga := ga.below r6)
    | (go_at_call 14; with_reducible refine (k2 w6 ga).mono ?_; rintro e w7 ⟨rfl, r7⟩; replace r0 := then_below r0 r7)
    | (go_at_call 23; with_reducible refine (p2 w7).mono ?_; rintro e w8 ⟨v8, rfl, f8, r8⟩; have gc := f8.reads; obtain ⟨aq, cq, rfl⟩ := gc.form; clear f8; replace r0 := then_below r0 r8)
    | (go_at_call 14; with_reducible refine (k3 w8 gc).mono ?_; rintro e w9 ⟨rfl, r9⟩; replace r0 := then_below r0 r9; replace gc := gc.below r9)
    | (go_at_call 22; with_reducible refine (t2 w9 gc).mono ?_; rintro e w10 ⟨rfl, r10⟩; replace r0 := then_below r0 r10))
  go_ret
  exact ⟨rfl, r0⟩

set_option maxRecDepth 100000 in
set_option maxHeartbeats 2000000 in
theorem read_bad_form {w : World} {a1 : Option Addr} {ca : Nat} {s : ByteArray} (hs : s.size ≤ 1048576) {la : List Nat} (ga : Reads w (.slice a1 la.length ca) la) (LA : la.length ≤ 300) (hsa : Sm la) (hc : chk la = false) (hf : ¬ isNum s) :
    Calls Try.prog 7 #[.slice a1 la.length ca, .string s] w fun e w' => e = .returned (.bool true) ∧ Below w.heap.size w w' := by
  have hG : Hid (false = [(a1, la.length, ca)].any (fun t => decide (300 < t.2.1))) := Lib.hid (by simpa using LA)
  have hB : Hid (false = decide (1048576 < s.size)) := Lib.hid (by simp; omega)
  have hs9 : s.size < 9223372036854775808 := by omega
  have t1 := fun (W : World) (g : Reads W (.slice a1 la.length ca) la) => text_gen g hsa (by omega) ⟨#[48]⟩ (by rw [show nv la = 0 by simp [nv, hc]]; exact txt_zero.symm)
  have c1 := fun (W : World) (g : Reads W (.slice a1 la.length ca) la) => check_any g (by omega)
  rw [hc] at c1
  have p1 := fun (W : World) => parse_ok ⟨#[48]⟩ W (by rw [← txt_zero]; exact txt_num 0) (by decide)
  have p2 := fun (W : World) => parse_form s W (by omega) hf

  clear LA hsa hc hs hf
  have r0 := Below.refl w.heap.size w
  go_enter Try.func7, Try.ntmps7
  go_wp2_with (first
    | (go_at_call 11; with_reducible refine (alive_any w).mono ?_; rintro e w1 ⟨rfl, r1⟩; replace r0 := then_below r0 r1; replace ga := ga.below r1)
    | (go_at_call 18; have kg := great_lit w1 [(a1, la.length, ca)] (vs := #[.slice a1 la.length ca]) rfl (m := 1) rfl (by simp) false hG.out; with_reducible refine kg.mono ?_; clear kg; rintro e w2 ⟨rfl, r2⟩; replace r0 := then_below r0 r2; replace ga := ga.below r2)
    | (go_at_call 21; have kb := beyond_one w2 s.size hs9 false hB.out; with_reducible refine kb.mono ?_; clear kb; rintro e w3 ⟨rfl, r3⟩; replace r0 := then_below r0 r3; replace ga := ga.below r3)
    | (go_at_call 22; with_reducible refine (t1 w3 ga).mono ?_; rintro e w4 ⟨rfl, r4⟩; replace r0 := then_below r0 r4; replace ga := ga.below r4)
    | (go_at_call 23; with_reducible refine (p1 w4).mono ?_; rintro e w5 ⟨v5, rfl, f5, r5⟩; obtain ⟨ap, cp, rfl⟩ := f5.reads.form; clear f5; replace r0 := then_below r0 r5; replace ga := ga.below r5)
    | (go_at_call 14; with_reducible refine (c1 w5 ga).mono ?_; rintro e w6 ⟨rfl, q6⟩; have r6 : Below w5.heap.size w5 w6 := q6 ▸ Below.refl _ _; clear q6; replace r0 := then_below r0 r6; replace ga := ga.below r6)
    | (go_at_call 14; with_reducible refine (c1 w6 ga).mono ?_; rintro e w7 ⟨rfl, q7⟩; have r7 : Below w6.heap.size w6 w7 := q7 ▸ Below.refl _ _; clear q7; replace r0 := then_below r0 r7)
    | (go_at_call 23; with_reducible refine (p2 w7).mono ?_; rintro e w8 ⟨rfl, r8⟩; replace r0 := then_below r0 r8))
  go_ret
  exact ⟨rfl, r0⟩

set_option maxRecDepth 100000 in
set_option maxHeartbeats 2000000 in
theorem read_bad_limit {w : World} {a1 : Option Addr} {ca : Nat} {s : ByteArray} (hs : s.size ≤ 1048576) {la : List Nat} (ga : Reads w (.slice a1 la.length ca) la) (LA : la.length ≤ 300) (hsa : Sm la) (hc : chk la = false) (hf : isNum s) (hf2 : 200 < s.size) :
    Calls Try.prog 7 #[.slice a1 la.length ca, .string s] w fun e w' => e = .returned (.bool true) ∧ Below w.heap.size w w' := by
  have hG : Hid (false = [(a1, la.length, ca)].any (fun t => decide (300 < t.2.1))) := Lib.hid (by simpa using LA)
  have hB : Hid (false = decide (1048576 < s.size)) := Lib.hid (by simp; omega)
  have hs9 : s.size < 9223372036854775808 := by omega
  have t1 := fun (W : World) (g : Reads W (.slice a1 la.length ca) la) => text_gen g hsa (by omega) ⟨#[48]⟩ (by rw [show nv la = 0 by simp [nv, hc]]; exact txt_zero.symm)
  have c1 := fun (W : World) (g : Reads W (.slice a1 la.length ca) la) => check_any g (by omega)
  rw [hc] at c1
  have p1 := fun (W : World) => parse_ok ⟨#[48]⟩ W (by rw [← txt_zero]; exact txt_num 0) (by decide)
  have p2 := fun (W : World) => parse_limit s W (by omega) hf hf2

  clear LA hsa hc hf2 hs hf
  have r0 := Below.refl w.heap.size w
  go_enter Try.func7, Try.ntmps7
  go_wp2_with (first
    | (go_at_call 11; with_reducible refine (alive_any w).mono ?_; rintro e w1 ⟨rfl, r1⟩; replace r0 := then_below r0 r1; replace ga := ga.below r1)
    | (go_at_call 18; have kg := great_lit w1 [(a1, la.length, ca)] (vs := #[.slice a1 la.length ca]) rfl (m := 1) rfl (by simp) false hG.out; with_reducible refine kg.mono ?_; clear kg; rintro e w2 ⟨rfl, r2⟩; replace r0 := then_below r0 r2; replace ga := ga.below r2)
    | (go_at_call 21; have kb := beyond_one w2 s.size hs9 false hB.out; with_reducible refine kb.mono ?_; clear kb; rintro e w3 ⟨rfl, r3⟩; replace r0 := then_below r0 r3; replace ga := ga.below r3)
    | (go_at_call 22; with_reducible refine (t1 w3 ga).mono ?_; rintro e w4 ⟨rfl, r4⟩; replace r0 := then_below r0 r4; replace ga := ga.below r4)
    | (go_at_call 23; with_reducible refine (p1 w4).mono ?_; rintro e w5 ⟨v5, rfl, f5, r5⟩; obtain ⟨ap, cp, rfl⟩ := f5.reads.form; clear f5; replace r0 := then_below r0 r5; replace ga := ga.below r5)
    | (go_at_call 14; with_reducible refine (c1 w5 ga).mono ?_; rintro e w6 ⟨rfl, q6⟩; have r6 : Below w5.heap.size w5 w6 := q6 ▸ Below.refl _ _; clear q6; replace r0 := then_below r0 r6; replace ga := ga.below r6)
    | (go_at_call 14; with_reducible refine (c1 w6 ga).mono ?_; rintro e w7 ⟨rfl, q7⟩; have r7 : Below w6.heap.size w6 w7 := q7 ▸ Below.refl _ _; clear q7; replace r0 := then_below r0 r7)
    | (go_at_call 23; with_reducible refine (p2 w7).mono ?_; rintro e w8 ⟨rfl, r8⟩; replace r0 := then_below r0 r8))
  go_ret
  exact ⟨rfl, r0⟩

set_option maxRecDepth 100000 in
set_option maxHeartbeats 2000000 in
theorem read_bad_ok {w : World} {a1 : Option Addr} {ca : Nat} {s : ByteArray} (hs : s.size ≤ 1048576) {la : List Nat} (ga : Reads w (.slice a1 la.length ca) la) (LA : la.length ≤ 300) (hsa : Sm la) (hc : chk la = false) (hf : isNum s) (hf2 : s.size ≤ 200) :
    Calls Try.prog 7 #[.slice a1 la.length ca, .string s] w fun e w' => e = .returned (.bool true) ∧ Below w.heap.size w w' := by
  have hG : Hid (false = [(a1, la.length, ca)].any (fun t => decide (300 < t.2.1))) := Lib.hid (by simpa using LA)
  have hB : Hid (false = decide (1048576 < s.size)) := Lib.hid (by simp; omega)
  have hs9 : s.size < 9223372036854775808 := by omega
  have t1 := fun (W : World) (g : Reads W (.slice a1 la.length ca) la) => text_gen g hsa (by omega) ⟨#[48]⟩ (by rw [show nv la = 0 by simp [nv, hc]]; exact txt_zero.symm)
  have c1 := fun (W : World) (g : Reads W (.slice a1 la.length ca) la) => check_any g (by omega)
  rw [hc] at c1
  have p1 := fun (W : World) => parse_ok ⟨#[48]⟩ W (by rw [← txt_zero]; exact txt_num 0) (by decide)
  obtain ⟨M, hM⟩ : ∃ M, M = numv s s.size := ⟨_, rfl⟩
  have p2 := fun (W : World) => parse_ok s W hf hf2
  rw [← hM] at p2
  have LM : (digs M).length ≤ 200 := by rw [hM]; exact Nat.le_trans (numv_len s s.size fun j hj => (hf.1 j hj).2) hf2
  have t2 := fun (W : World) {p q} (g : Reads W (.slice p (digs M).length q) (digs M)) => text_any g (sm_digs _) (chk_digs _) (by omega) s (by rw [val_digs, hM]; exact (txt_back hf).symm)
  have hs2 : (s.size : Int) ≤ 200 := by omega
  have k1 := fun (W : World) {p1 : Option Addr} {q1 : Nat} (h1 : Reads W (.slice p1 (digs M).length q1) (digs M)) => d_check  h1 (by omega)
  clear LA hsa hc hf2 hM LM hs hf
  have r0 := Below.refl w.heap.size w
  go_enter Try.func7, Try.ntmps7
  go_wp2_with (first
    | (go_at_call 11; with_reducible refine (alive_any w).mono ?_; rintro e w1 ⟨rfl, r1⟩; replace r0 := then_below r0 r1; replace ga := ga.below r1)
    | (go_at_call 18; have kg := great_lit w1 [(a1, la.length, ca)] (vs := #[.slice a1 la.length ca]) rfl (m := 1) rfl (by simp) false hG.out; with_reducible refine kg.mono ?_; clear kg; rintro e w2 ⟨rfl, r2⟩; replace r0 := then_below r0 r2; replace ga := ga.below r2)
    | (go_at_call 21; have kb := beyond_one w2 s.size hs9 false hB.out; with_reducible refine kb.mono ?_; clear kb; rintro e w3 ⟨rfl, r3⟩; replace r0 := then_below r0 r3; replace ga := ga.below r3)
    | (go_at_call 22; with_reducible refine (t1 w3 ga).mono ?_; rintro e w4 ⟨rfl, r4⟩; replace r0 := then_below r0 r4; replace ga := ga.below r4)
    | (go_at_call 23; with_reducible refine (p1 w4).mono ?_; rintro e w5 ⟨v5, rfl, f5, r5⟩; obtain ⟨ap, cp, rfl⟩ := f5.reads.form; clear f5; replace r0 := then_below r0 r5; replace ga := ga.below r5)
    | (go_at_call 14; with_reducible refine (c1 w5 ga).mono ?_; rintro e w6 ⟨rfl, q6⟩; have r6 : Below w5.heap.size w5 w6 := q6 ▸ Below.refl _ _; clear q6; replace r0 := then_below r0 r6; replace ga := ga.below r6)
    | (go_at_call 14; with_reducible refine (c1 w6 ga).mono ?_; rintro e w7 ⟨rfl, q7⟩; have r7 : Below w6.heap.size w6 w7 := q7 ▸ Below.refl _ _; clear q7; replace r0 := then_below r0 r7)
    | (go_at_call 23; with_reducible refine (p2 w7).mono ?_; rintro e w8 ⟨v8, rfl, f8, r8⟩; have gc := f8.reads; obtain ⟨aq, cq, rfl⟩ := gc.form; clear f8; replace r0 := then_below r0 r8)
    | (go_at_call 14; with_reducible refine (k1 w8 gc).mono ?_; rintro e w9 ⟨rfl, r9⟩; replace r0 := then_below r0 r9; replace gc := gc.below r9)
    | (go_at_call 22; with_reducible refine (t2 w9 gc).mono ?_; rintro e w10 ⟨rfl, r10⟩; replace r0 := then_below r0 r10))
  go_ret
  exact ⟨rfl, r0⟩

end Go.Proofs.Ytogpdkdkmgjdpaa
