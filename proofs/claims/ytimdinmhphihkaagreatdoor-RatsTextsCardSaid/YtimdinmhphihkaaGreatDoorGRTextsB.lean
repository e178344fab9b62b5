/- RatsTexts, of any fraction and any text. -/
import Derived.Test.YtimdinmhphihkaaGreatDoorGRTexts
import Derived.Test.YtimdinmhphihkaaGreatDoorGRatFlO
import Derived.Test.YtimdinmhphihkaaGreatDoorGRatPsO
import Derived.Test.YtimdinmhphihkaaGreatDoorGRatCmp
import Derived.Test.YtimdinmhphihkaaGreatDoorGRrT
import Derived.Test.YtimdinmhphihkaaGreatDoorGRqP
set_option linter.unusedSimpArgs false
set_option linter.unusedVariables false
namespace Go.Proofs.YtimdinmhphihkaaGreatDoor
open Go Go.Proofs Go.RowKit Go.Shelf Nu

attribute [local go_sem] Oper.semAt_some

set_option maxRecDepth 100000 in
set_option maxHeartbeats 8000000 in
theorem rtexts_far {w : World} {n1 : Bool} {p1 o1 : Option Addr} {q1 r1 : Nat} {l1 d1 : List Nat} {s : ByteArray} (h : 60 < l1.length + d1.length) (t1 : l1.length ≤ 70368744177664) (t2 : d1.length ≤ 70368744177664) :
    Calls Tryz.prog 3 #[.agg #[.bool n1, .slice p1 l1.length q1, .slice o1 d1.length r1], .string s] w fun e w' => e = .returned (.bool true) ∧ Below w.heap.size w w' := by
  have hG : Hid (true = List.any [(n1, (p1, l1.length, q1), (o1, d1.length, r1))] fun t : Q7 => decide (60 < t.2.1.2.1 + t.2.2.2.1)) := Lib.hid (by simp; omega)
  have hZ : Hid (∀ t ∈ ([(n1, (p1, l1.length, q1), (o1, d1.length, r1))] : List Q7), t.2.1.2.1 ≤ 70368744177664 ∧ t.2.2.2.1 ≤ 70368744177664) := Lib.hid (by simp; omega)
  have M : Mem w [(w.heap.size, 27, [.bool n1, .slice p1 l1.length q1, .slice o1 d1.length r1])] [] (w.alloc (.cells #[.bool n1, .slice p1 l1.length q1, .slice o1 d1.length r1] 27)) := (Mem.start w).new 27 [.bool n1, .slice p1 l1.length q1, .slice o1 d1.length r1]
  clear h t1 t2
  go_enter Tryz.func3, Tryz.ntmps3
  have z_a_0 := M.cell 0 rfl 0 rfl; have z_a_1 := M.cell 0 rfl 1 rfl; have z_a_2 := M.cell 0 rfl 2 rfl
  go_wp2_with fail
  clear z_a_0 z_a_1 z_a_2
  have kg := rgreat_lit (w.alloc (.cells #[.bool n1, .slice p1 l1.length q1, .slice o1 d1.length r1] 27)) 60 [(n1, (p1, l1.length, q1), (o1, d1.length, r1))] (vs := #[.bool n1, .slice p1 l1.length q1, .slice o1 d1.length r1]) (by simp [q7v]) (m := 1) rfl (by simp) (by decide) hZ.out true hG.out; rw [show ((60 : Nat) : Int) = 60 from rfl] at kg; simp only [World.size_alloc] at kg
  refine (kg).mono ?_
  rintro e w1 ⟨rfl, rr0⟩
  have rr : Below (w.alloc (.cells #[.bool n1, .slice p1 l1.length q1, .slice o1 d1.length r1] 27)).heap.size (w.alloc (.cells #[.bool n1, .slice p1 l1.length q1, .slice o1 d1.length r1] 27)) w1 := by simp only [World.size_alloc]; exact rr0
  have M' := M.up rr; clear M rr rr0 kg; have M := M'; clear M'
  go_wp2_with fail
  go_ret
  exact ⟨rfl, M.below⟩
set_option maxRecDepth 100000 in
set_option maxHeartbeats 8000000 in
theorem rtexts_long {w : World} {n1 : Bool} {p1 o1 : Option Addr} {q1 r1 : Nat} {l1 d1 : List Nat} {s : ByteArray} (h : l1.length + d1.length ≤ 60) (hs : 2000 < s.size) (hs2 : s.size ≤ maxLen) :
    Calls Tryz.prog 3 #[.agg #[.bool n1, .slice p1 l1.length q1, .slice o1 d1.length r1], .string s] w fun e w' => e = .returned (.bool true) ∧ Below w.heap.size w w' := by
  unfold maxLen at hs2
  have hlen : ∀ W : World, (Builtin.len_ #[9] 3 #[.string s]).run Tryz.prog W = .ok (.int .i64 (s.size : Int)) W := fun W => by rw [run_len_string W _ _ s (by kernel_rfl)]; rfl
  have hs1 : (2000 : Int) < (s.size : Int) := by omega
  have hG : Hid (false = List.any [(n1, (p1, l1.length, q1), (o1, d1.length, r1))] fun t : Q7 => decide (60 < t.2.1.2.1 + t.2.2.2.1)) := Lib.hid (by simp; omega)
  have hZ : Hid (∀ t ∈ ([(n1, (p1, l1.length, q1), (o1, d1.length, r1))] : List Q7), t.2.1.2.1 ≤ 70368744177664 ∧ t.2.2.2.1 ≤ 70368744177664) := Lib.hid (by simp; omega)
  have M : Mem w [(w.heap.size, 27, [.bool n1, .slice p1 l1.length q1, .slice o1 d1.length r1])] [] (w.alloc (.cells #[.bool n1, .slice p1 l1.length q1, .slice o1 d1.length r1] 27)) := (Mem.start w).new 27 [.bool n1, .slice p1 l1.length q1, .slice o1 d1.length r1]
  clear h hs hs2
  go_enter Tryz.func3, Tryz.ntmps3
  have z_a_0 := M.cell 0 rfl 0 rfl; have z_a_1 := M.cell 0 rfl 1 rfl; have z_a_2 := M.cell 0 rfl 2 rfl
  go_wp2_with fail
  clear z_a_0 z_a_1 z_a_2
  have kg := rgreat_lit (w.alloc (.cells #[.bool n1, .slice p1 l1.length q1, .slice o1 d1.length r1] 27)) 60 [(n1, (p1, l1.length, q1), (o1, d1.length, r1))] (vs := #[.bool n1, .slice p1 l1.length q1, .slice o1 d1.length r1]) (by simp [q7v]) (m := 1) rfl (by simp) (by decide) hZ.out false hG.out; rw [show ((60 : Nat) : Int) = 60 from rfl] at kg; simp only [World.size_alloc] at kg
  refine (kg).mono ?_
  rintro e w1 ⟨rfl, rr0⟩
  have rr : Below (w.alloc (.cells #[.bool n1, .slice p1 l1.length q1, .slice o1 d1.length r1] 27)).heap.size (w.alloc (.cells #[.bool n1, .slice p1 l1.length q1, .slice o1 d1.length r1] 27)) w1 := by simp only [World.size_alloc]; exact rr0
  have M' := M.up rr; clear M rr rr0 kg; have M := M'; clear M'
  go_wp2_with fail
  go_ret
  exact ⟨rfl, M.below⟩
theorem plen {Z : Rat} (h1 : (txt Z.num.natAbs).size ≤ 200) (h2 : (txt Z.den).size ≤ 200) : (digs Z.num.natAbs).length ≤ 200 ∧ (digs Z.den).length ≤ 200 := by
  have k1 := numv_len (txt Z.num.natAbs) (txt Z.num.natAbs).size (fun j hj => ((txt_num _).1 j hj).2)
  have k2 := numv_len (txt Z.den) (txt Z.den).size (fun j hj => ((txt_num _).1 j hj).2)
  rw [txt_numv] at k1 k2
  omega
theorem floor_len (X : Rat) : (digs X.floor.natAbs).length ≤ (digs X.num.natAbs).length + 2 := by
  obtain ⟨q, r, hq, hr, hf⟩ := rfloor_parts X
  have h1 : q ≤ X.num.natAbs := hq ▸ Nat.div_le_self _ _
  have h2 : X.floor.natAbs ≤ X.num.natAbs + 1 := by
    rw [hf]
    split
    · split <;> omega
    · omega
  have h3 := digs_mono h2
  have h4 := digs_add_le X.num.natAbs 1
  rw [digs_one_len] at h4
  omega
set_option maxRecDepth 100000 in
set_option maxHeartbeats 8000000 in
theorem rtexts_all {w : World} {n1 : Bool} {p1 o1 : Option Addr} {q1 r1 : Nat} {l1 d1 : List Nat} {s : ByteArray} {X : Rat} (hX : RIs n1 l1 d1 X) (hs : s.size ≤ maxLen) (t1 : l1.length ≤ 70368744177664) (t2 : d1.length ≤ 70368744177664) (hA1 : Reads w (.slice p1 l1.length q1) l1) (hA2 : Reads w (.slice o1 d1.length r1) d1) :
    Calls Tryz.prog 3 #[.agg #[.bool n1, .slice p1 l1.length q1, .slice o1 d1.length r1], .string s] w fun e w' => e = .returned (.bool true) ∧ Below w.heap.size w w' := by
  by_cases far : 60 < l1.length + d1.length
  · exact rtexts_far far t1 t2
  have LA : l1.length + d1.length ≤ 60 := by omega
  by_cases long : 2000 < s.size
  · exact rtexts_long LA long hs
  have LS : s.size ≤ 2000 := by omega
  clear far long t1 t2 hs
  obtain ⟨sF, LF, cF⟩ := Can.ex X.floor
  have bF : LF.length ≤ 80000 := by
    have h1 := floor_len X
    have h2 := hX.len
    have h3 : (digs X.num.natAbs).length ≤ rl X := Nat.le_add_right _ _
    rw [cF.2]; omega
  rcases hp : pout s with ⟨E, Z⟩
  by_cases h0 : E = 0
  · subst h0
    obtain ⟨sQ, LQ, DQ, kQ⟩ := RCan.ex Z
    have bQ : LQ.length ≤ 80000 ∧ DQ.length ≤ 80000 := by
      have h1 := pout_small (s := s) (by rw [hp])
      rw [hp] at h1
      have h2 := plen (Z := Z) h1.1 h1.2
      rw [kQ.1.2, kQ.2]; omega
    exact rtexts_val (b1 := rchk n1 l1 d1) (b2 := decide (X.den = 1)) (T := rtxt X) (E := 0) hA1 hA2 LA LS bF bQ
        (fun W p q c d g1 g2 => rcheck_any (n := n1) g1 g2 hX.1 hX.2.1 (by omega) (by omega))
        (fun W p q c d g1 g2 => rr_check (n := n1) g1 g2 hX.1 hX.2.1 (by omega) (by omega))
        (fun W p q c d g1 g2 => r_whole _ hX rfl (by omega) (by omega) g1 g2)
        (fun W p q c d g1 g2 => rr_whole _ hX rfl (by omega) (by omega) g1 g2)
        (fun W p q c d g1 g2 => r_floor_own hX cF (by omega) (by omega) g1 g2)
        (fun W p q c d g1 g2 => rr_floor hX cF (by omega) (by omega) g1 g2)
        (fun W p q c d g1 g2 => r_text _ hX rfl (by omega) (by omega) g1 g2)
        (fun W p q c d g1 g2 => rr_text _ hX rfl (by omega) (by omega) g1 g2)
        (fun W => parse_val_own s (by omega) hp kQ W)
        (fun W => rr_parse_val s LS hp kQ W)
  · exact rtexts_err (b1 := rchk n1 l1 d1) (b2 := decide (X.den = 1)) (T := rtxt X) (E := E) hA1 hA2 LA LS bF
        (fun W p q c d g1 g2 => rcheck_any (n := n1) g1 g2 hX.1 hX.2.1 (by omega) (by omega))
        (fun W p q c d g1 g2 => rr_check (n := n1) g1 g2 hX.1 hX.2.1 (by omega) (by omega))
        (fun W p q c d g1 g2 => r_whole _ hX rfl (by omega) (by omega) g1 g2)
        (fun W p q c d g1 g2 => rr_whole _ hX rfl (by omega) (by omega) g1 g2)
        (fun W p q c d g1 g2 => r_floor_own hX cF (by omega) (by omega) g1 g2)
        (fun W p q c d g1 g2 => rr_floor hX cF (by omega) (by omega) g1 g2)
        (fun W p q c d g1 g2 => r_text _ hX rfl (by omega) (by omega) g1 g2)
        (fun W p q c d g1 g2 => rr_text _ hX rfl (by omega) (by omega) g1 g2)
        (fun W => parse_err s (by omega) hp h0 W)
        (fun W => rr_parse_err s LS hp h0 W)

end Go.Proofs.YtimdinmhphihkaaGreatDoor
