/- RatsRead, of any fraction and any text. -/
import Derived.Test.YthnlmjnfdokdbaaGreatDoorGRRead
set_option linter.unusedSimpArgs false
set_option linter.unusedVariables false
namespace Go.Proofs.YthnlmjnfdokdbaaGreatDoor
open Go Go.Proofs Go.RowKit Go.Shelf Nu

attribute [local go_sem] Oper.semAt_some

set_option maxRecDepth 100000 in
set_option maxHeartbeats 8000000 in
theorem rread_far {w : World} {n1 : Bool} {p1 o1 : Option Addr} {q1 r1 : Nat} {l1 d1 : List Nat} {s : ByteArray} (hb : 60 < l1.length + d1.length) (t1 : l1.length ≤ 70368744177664) (t1' : d1.length ≤ 70368744177664) (g1 : Reads w (.slice p1 l1.length q1) l1) (h1 : Reads w (.slice o1 d1.length r1) d1) :
    Calls Tryz.prog 6 #[.agg #[.bool n1, .slice p1 l1.length q1, .slice o1 d1.length r1], .string s] w fun e w' => e = .returned (.bool true) ∧ Below w.heap.size w w' := by
  have hG : Hid (true = List.any [(n1, (p1, l1.length, q1), (o1, d1.length, r1))] fun t : Q7 => decide (60 < t.2.1.2.1 + t.2.2.2.1)) := Lib.hid (by simp; omega)
  have hZ : Hid (∀ t ∈ ([(n1, (p1, l1.length, q1), (o1, d1.length, r1))] : List Q7), t.2.1.2.1 ≤ 70368744177664 ∧ t.2.2.2.1 ≤ 70368744177664) := Lib.hid (by simp; omega)
  have M : Mem w [(w.heap.size, 27, [.bool n1, .slice p1 l1.length q1, .slice o1 d1.length r1])] [(.slice o1 d1.length r1, d1), (.slice p1 l1.length q1, l1)] (w.alloc (.cells #[.bool n1, .slice p1 l1.length q1, .slice o1 d1.length r1] 27)) := by
    have M := ((((Mem.start w).add g1).add h1).new 27 [.bool n1, .slice p1 l1.length q1, .slice o1 d1.length r1])
    simpa only [World.size_alloc] using M
  clear g1 h1 t1 t1' hb
  go_enter Tryz.func6, Tryz.ntmps6
  go_wp2_with fail
  refine (r_alive _).mono ?_
  rintro e w1 ⟨rfl, rr⟩
  have M' := M.up rr; clear M rr; have M := M'; clear M'
  have z_a_0 := M.cell 0 rfl 0 rfl; have z_a_1 := M.cell 0 rfl 1 rfl; have z_a_2 := M.cell 0 rfl 2 rfl
  go_wp2_with fail
  clear z_a_0 z_a_1 z_a_2
  have kg := rgreat_lit w1 60 [(n1, (p1, l1.length, q1), (o1, d1.length, r1))] (vs := #[.bool n1, .slice p1 l1.length q1, .slice o1 d1.length r1]) (by simp [q7v]) (m := 1) rfl (by simp) (by decide) hZ.out true hG.out; rw [show ((60 : Nat) : Int) = 60 from rfl] at kg
  refine (kg).mono ?_
  rintro e w2 ⟨rfl, rr⟩
  have M' := M.up rr; clear M rr; have M := M'; clear M'
  clear kg
  go_wp2_with fail
  refine (r_alive _).mono ?_
  rintro e w3 ⟨rfl, rr⟩
  have M' := M.up rr; clear M rr; have M := M'; clear M'
  go_wp2_with fail
  go_ret
  exact ⟨rfl, M.below⟩
set_option maxRecDepth 100000 in
set_option maxHeartbeats 8000000 in
theorem rread_long {w : World} {n1 : Bool} {p1 o1 : Option Addr} {q1 r1 : Nat} {l1 d1 : List Nat} {s : ByteArray} (hb : l1.length + d1.length ≤ 60) (hs : 2000 < s.size) (hs2 : s.size ≤ maxLen) (t1 : l1.length ≤ 70368744177664) (t1' : d1.length ≤ 70368744177664) (g1 : Reads w (.slice p1 l1.length q1) l1) (h1 : Reads w (.slice o1 d1.length r1) d1) :
    Calls Tryz.prog 6 #[.agg #[.bool n1, .slice p1 l1.length q1, .slice o1 d1.length r1], .string s] w fun e w' => e = .returned (.bool true) ∧ Below w.heap.size w w' := by
  have hG : Hid (false = List.any [(n1, (p1, l1.length, q1), (o1, d1.length, r1))] fun t : Q7 => decide (60 < t.2.1.2.1 + t.2.2.2.1)) := Lib.hid (by simp; omega)
  have hZ : Hid (∀ t ∈ ([(n1, (p1, l1.length, q1), (o1, d1.length, r1))] : List Q7), t.2.1.2.1 ≤ 70368744177664 ∧ t.2.2.2.1 ≤ 70368744177664) := Lib.hid (by simp; omega)
  unfold maxLen at hs2
  have hlen : ∀ W : World, (Builtin.len_ #[9] 3 #[.string s]).run Tryz.prog W = .ok (.int .i64 (s.size : Int)) W := fun W => by rw [run_len_string W _ _ s (by kernel_rfl)]; rfl
  have hs1 : (2000 : Int) < (s.size : Int) := by omega
  have M : Mem w [(w.heap.size, 27, [.bool n1, .slice p1 l1.length q1, .slice o1 d1.length r1])] [(.slice o1 d1.length r1, d1), (.slice p1 l1.length q1, l1)] (w.alloc (.cells #[.bool n1, .slice p1 l1.length q1, .slice o1 d1.length r1] 27)) := by
    have M := ((((Mem.start w).add g1).add h1).new 27 [.bool n1, .slice p1 l1.length q1, .slice o1 d1.length r1])
    simpa only [World.size_alloc] using M
  clear g1 h1 t1 t1' hb hs hs2
  go_enter Tryz.func6, Tryz.ntmps6
  go_wp2_with fail
  refine (r_alive _).mono ?_
  rintro e w1 ⟨rfl, rr⟩
  have M' := M.up rr; clear M rr; have M := M'; clear M'
  have z_a_0 := M.cell 0 rfl 0 rfl; have z_a_1 := M.cell 0 rfl 1 rfl; have z_a_2 := M.cell 0 rfl 2 rfl
  go_wp2_with fail
  clear z_a_0 z_a_1 z_a_2
  have kg := rgreat_lit w1 60 [(n1, (p1, l1.length, q1), (o1, d1.length, r1))] (vs := #[.bool n1, .slice p1 l1.length q1, .slice o1 d1.length r1]) (by simp [q7v]) (m := 1) rfl (by simp) (by decide) hZ.out false hG.out; rw [show ((60 : Nat) : Int) = 60 from rfl] at kg
  refine (kg).mono ?_
  rintro e w2 ⟨rfl, rr⟩
  have M' := M.up rr; clear M rr; have M := M'; clear M'
  clear kg
  go_wp2_with fail
  refine (r_alive _).mono ?_
  rintro e w3 ⟨rfl, rr⟩
  have M' := M.up rr; clear M rr; have M := M'; clear M'
  go_wp2_with fail
  go_ret
  exact ⟨rfl, M.below⟩
theorem rread_all {w : World} {n1 : Bool} {p1 o1 : Option Addr} {q1 r1 : Nat} {l1 d1 : List Nat} {X1 : Rat} {s : ByteArray} (c1 : RIs n1 l1 d1 X1) (t1 : l1.length ≤ 70368744177664) (t1' : d1.length ≤ 70368744177664) (hs : s.size ≤ maxLen) (g1 : Reads w (.slice p1 l1.length q1) l1) (h1 : Reads w (.slice o1 d1.length r1) d1) :
    Calls Tryz.prog 6 #[.agg #[.bool n1, .slice p1 l1.length q1, .slice o1 d1.length r1], .string s] w fun e w' => e = .returned (.bool true) ∧ Below w.heap.size w w' := by
  by_cases hb : 60 < l1.length + d1.length
  · exact rread_far hb t1 t1' g1 h1
  by_cases hl : 2000 < s.size
  · exact rread_long (by omega) hl hs t1 t1' g1 h1
  have m1 : l1.length + d1.length ≤ 60 := by omega
  have m2 : s.size ≤ 2000 := by omega
  rcases hp : pout s with ⟨E, Z⟩
  have hE := pout_cases s
  rw [hp] at hE
  simp only at hE
  cases hc : rchk n1 l1 d1 with
  | false =>
    rcases hE with rfl | rfl | rfl
    · exact rread_AV c1 m1 m2 g1 h1 hc hp
    · exact rread_A3 c1 m1 m2 g1 h1 hc hp
    · exact rread_A4 c1 m1 m2 g1 h1 hc hp
  | true =>
    by_cases ht : (rtxt X1).size ≤ 200
    · rcases hE with rfl | rfl | rfl
      · exact rread_BV c1 m1 m2 g1 h1 hc ht hp
      · exact rread_B3 c1 m1 m2 g1 h1 hc ht hp
      · exact rread_B4 c1 m1 m2 g1 h1 hc ht hp
    · have ht2 : 200 < (rtxt X1).size := by omega
      rcases hE with rfl | rfl | rfl
      · exact rread_CV c1 m1 m2 g1 h1 hc ht2 hp
      · exact rread_C3 c1 m1 m2 g1 h1 hc ht2 hp
      · exact rread_C4 c1 m1 m2 g1 h1 hc ht2 hp

end Go.Proofs.YthnlmjnfdokdbaaGreatDoor
