/- Lines: the law of words. -/
import Derived.Test.YthpbcfoaabacgaaDoorLnP
import Derived.Test.YthpbcfoaabacgaaDoorBkD
import Derived.OneCell
namespace Go.Proofs.YthpbcfoaabacgaaDoor
open Go Go.Proofs Go.RowKit Go.Shelf

attribute [local go_sem] Oper.semAt_some
set_option maxRecDepth 100000
set_option maxHeartbeats 1000000 in
/-- Beyond, of one size -/
theorem beyond_one (W : World) (x : Nat) (hx : x < 9223372036854775808) (R : Bool) (hR : R = decide (1048576 < x)) :
    Calls Tryd.prog 4 #[.slice (some ⟨W.heap.size, 0, none⟩) 1 1] (W.alloc (.cells #[.int .i64 x] 3)) fun e w' => e = .returned (.bool R) ∧ Below W.heap.size W w' := by
  have hc : (W.alloc (.cells #[.int .i64 (x : Int)] 3)).cell? ⟨W.heap.size, 0, none⟩ = some (.int .i64 x) := by
    rw [cell_of_row _ _ 0 _ _ _ (q_new W _)]; rfl
  obtain ⟨V, hV⟩ : ∃ V, V = W.alloc (.cells #[.int .i64 (x : Int)] 3) := ⟨_, rfl⟩
  obtain ⟨b, hb⟩ : ∃ b, b = W.heap.size := ⟨_, rfl⟩
  have HB : Hid (∀ n, Below b W (V.drewN n)) := Lib.hid fun n => by
    rw [hV, hb]
    exact ⟨rfl, rfl, rfl, by show W.heap.size ≤ (W.alloc _).heap.size; simp, fun k hk => Below.heap_alloc W _ k hk⟩
  rw [← hV, ← hb] at hc
  rw [← hV, ← hb]
  have HR := Lib.hid hR
  clear hV hb hR
  go_enter Tryd.func4, Tryd.ntmps4
  go_wp2
  go_loopw [3, 4] (fun y z wr => ((z = .int .i64 0 ∧ y = .int .i64 0) ∨ (z = .int .i64 1 ∧ y = .int .i64 x ∧ x ≤ 1048576)) ∧ ∃ n, wr = V.drewN n) (fun _ z _ => 1 - (intOf z).toNat)
  case atStart => exact ⟨.inl ⟨rfl, rfl⟩, 0, rfl⟩
  case round =>
    obtain ⟨h, n, rfl⟩ := hrel
    rcases h with ⟨rfl, rfl⟩ | ⟨rfl, rfl, hxl⟩
    · by_cases hq : 1048576 < (x : Int)
      · have h0 : R = true := by rw [HR.out]; simp; omega
        go_wp2
        go_ret
        exact ⟨by rw [h0]; rfl, HB.out n⟩
      · go_wp2
        go_roundw
        case rel => exact ⟨.inr ⟨by simp, by simp, by omega⟩, n, rfl⟩
        case measure => simp [intOf]
    · have h0 : R = false := by rw [HR.out]; simp; omega
      go_wp2
      go_ret
      exact ⟨by rw [h0]; rfl, HB.out n⟩


set_option maxHeartbeats 4000000 in
theorem lwords_all (s : ByteArray) (w : World) (hm : s.size ≤ maxLen) : Calls Tryd.prog 3 #[.string s] w fun e w' => e = .returned (.bool true) ∧ Below w.heap.size w w' := by
  obtain ⟨n, hn⟩ : ∃ n, n = s.size := ⟨_, rfl⟩
  have es : (s.size : Int) = (n : Int) := by omega
  have hn9 : n < 9223372036854775808 := by unfold maxLen at hm; omega
  by_cases hs : n ≤ 1048576
  · have KB := Lib.hid (beyond_one w n hn9 false (by simp; omega))
    have KP := Lib.hid (fun W => pwords_any s W (by omega))
    have KD := Lib.hid (fun W => rwords_any s W (by omega))
    obtain ⟨ws, hws⟩ : ∃ ws, ws = Ln.words s.data.toList := ⟨_, rfl⟩
    rw [← hws] at KP KD
    have HL := Lib.hid (show ws.length ≤ 1048577 by rw [hws]; have := Ln.words_few s.data.toList; rw [← lsize_list] at this; omega)
    clear hs hn hws hm hn9
    go_enter Tryd.func3, Tryd.ntmps3
    go_wp2_with fail
    go_at_call 4
    refine KB.out.mono ?_
    rintro e w0 ⟨rfl, b0⟩
    have B0 := Lib.hid b0
    clear b0
    go_wp2_with fail
    go_at_call 5
    refine (KP.out _).mono ?_
    rintro e w1 ⟨v1, rfl, t1, b1⟩
    have T1 := Lib.hid t1
    have B1 := Lib.hid b1
    obtain ⟨a1, c1, e1⟩ := t1.form
    subst e1
    clear t1 b1
    go_wp2_with fail
    go_at_call 5
    refine (KP.out _).mono ?_
    rintro e w2 ⟨v2, rfl, t2, b2⟩
    have T2 := Lib.hid t2
    have B2 := Lib.hid b2
    obtain ⟨a2, c2, e2⟩ := t2.form
    subst e2
    clear t2 b2
    go_wp2_with fail
    go_at_call 7
    refine (KD.out _).mono ?_
    rintro e w3 ⟨v3, rfl, t3, b3⟩
    have T3 := Lib.hid t3
    have B3 := Lib.hid b3
    obtain ⟨a3, c3, e3⟩ := t3.form
    subst e3
    clear t3 b3
    have Q3 := Lib.hid (B2.out.trans (B3.out.mono B2.out.size))
    have P3 := Lib.hid ((B0.out.trans (B1.out.mono B0.out.size)).trans (Q3.out.mono (Nat.le_trans B0.out.size B1.out.size)))
    clear KB KP KD
    go_wp2_with fail
    go_at_call 6
    refine (sameTexts_any (own_rdc (T1.out.below Q3.out)) (own_rdc T3.out) (by have := HL.out; omega)).mono ?_
    rintro e w4 ⟨rfl, b4⟩
    have B4 := Lib.hid b4
    clear b4
    have hs3 := B3.out.size
    have Q4 := Lib.hid (Q3.out.trans (B4.out.mono Q3.out.size))
    have R4 := Lib.hid (B3.out.trans (B4.out.mono B3.out.size))
    go_wp2_with fail
    go_at_call 6
    refine (sameTexts_any (own_rdc (T2.out.below R4.out)) (own_rdc (T1.out.below Q4.out)) (by have := HL.out; omega)).mono ?_
    rintro e w5 ⟨rfl, b5⟩
    have B5 := Lib.hid b5
    clear b5 hs3
    have P5 := Lib.hid ((P3.out.trans (B4.out.mono P3.out.size)).trans (B5.out.mono (Nat.le_trans P3.out.size B4.out.size)))
    have Q5 := Lib.hid (Q4.out.trans (B5.out.mono Q4.out.size))
    have R5 := Lib.hid (R4.out.trans (B5.out.mono R4.out.size))
    clear B4 B5 Q3 P3 Q4 R4
    go_wp2_with fail
    obtain ⟨B, hB⟩ : ∃ B, B = w5.heap.size := ⟨_, rfl⟩
    obtain ⟨wb, hwb⟩ : ∃ wb, wb = w5.alloc (.cells #[.int .i64 0, .slice none 0 0, .slice none 0 0, .slice none 0 0, .slice none 0 0, .slice none 0 0, .slice none 0 0, .slice none 0 0, .slice none 0 0, .slice none 0 0, .slice none 0 0, .slice none 0 0, .slice none 0 0] 39) := ⟨_, rfl⟩
    have h0 := Lib.hid (show BT wb B 0 (.slice none 0 0) (.slice none 0 0) [] [] by rw [hwb, hB]; exact BT.new _)
    have q0 := Lib.hid (show Below B w5 wb by rw [hwb]; exact (Below.refl B _).alloc (Nat.le_of_eq hB) _)
    rw [← hB, ← hwb]
    have HB := Lib.hid hB
    clear hB hwb
    go_wp2_with fail
    go_at_call 8
    refine (bt_texts h0.out (by omega) (by simp)).mono ?_
    rintro e u1 ⟨rfl, x1, t1, t2, -, -⟩
    have h1 := Lib.hid t1
    replace q0 := Lib.hid (q0.out.trans t2)
    clear t1 t2 h0
    go_wp2_with fail
    go_at_call 8
    refine (bt_texts h1.out (by omega) (by simp)).mono ?_
    rintro e u2 ⟨rfl, x2, t1, t2, -, -⟩
    have h2 := Lib.hid t1
    replace q0 := Lib.hid (q0.out.trans t2)
    clear t1 t2 h1
    go_wp2_with fail
    go_at_call 9
    have hbz : w.heap.size ≤ B := by rw [HB.out]; exact P5.out.size
    have x1' : w1.heap.size ≤ B := by rw [HB.out]; exact Q5.out.size
    have x2' : w2.heap.size ≤ B := by rw [HB.out]; exact R5.out.size
    have y1 := T1.out.below (Q5.out.trans (q0.out.mono x1'))
    have y2 := T2.out.below (R5.out.trans (q0.out.mono x2'))
    have z1 : ∀ g, (Value.slice a1 ws.length c1).ownBlock = some g → g < w1.heap.size := fun g e => (World.ownsRow.lt T1.out g e).2
    have z2 : ∀ g, (Value.slice a2 ws.length c2).ownBlock = some g → w1.heap.size ≤ g ∧ g < w2.heap.size := fun g e => World.ownsRow.lt T2.out g e
    have s0 := B0.out.size
    have s1 := B1.out.size
    have ow : ∀ e ∈ [((Value.slice a1 ws.length c1), 1), ((Value.slice a2 ws.length c2), 2)], ∃ (m : Nat) (xs : List Value), m ≤ 2000000 ∧ u2.ownsRow w.heap.size 9 1 e.1 m xs ∧ ∀ g, e.1.ownBlock = some g → g < B := by
      intro e he
      simp only [List.mem_cons, List.not_mem_nil, or_false] at he
      rcases he with rfl | rfl
      · exact ⟨ws.length, scells ws, by have := HL.out; omega, y1.mono s0, fun g e => Nat.lt_of_lt_of_le (z1 g e) x1'⟩
      · exact ⟨ws.length, scells ws, by have := HL.out; omega, y2.mono (Nat.le_trans s0 s1), fun g e => Nat.lt_of_lt_of_le (z2 g e).2 x2'⟩
    have ds : List.Pairwise (fun x y : Value × Nat => x.1.ownBlock = none ∨ x.1.ownBlock ≠ y.1.ownBlock) [((Value.slice a1 ws.length c1), 1), ((Value.slice a2 ws.length c2), 2)] := by
      simp only [List.pairwise_cons, List.mem_cons, List.not_mem_nil, or_false, forall_eq, List.Pairwise.nil, and_true, false_imp_iff, implies_true]
      cases h : (Value.slice a1 ws.length c1).ownBlock with
      | none => exact .inl rfl
      | some g =>
        refine .inr fun e => ?_
        have := z1 g h
        have := (z2 g e.symm).1
        omega
    have hr : BT u2 B (0 + 1 + 1) (.slice none 0 0) x2 [] [((Value.slice a1 ws.length c1), 1), ((Value.slice a2 ws.length c2), 2)] := h2.out
    refine (bt_apartTx (w := w) (base := w.heap.size) hr (by simp) (by simp) hbz (P5.out.trans (q0.out.mono hbz)) (by simp) ow ds).mono ?_
    rintro e w' ⟨rfl, rb⟩
    have RBW := Lib.hid rb
    clear rb ow ds hr y1 y2 z1 z2 hbz x1' x2' s0 s1
    go_wp2_with fail
    go_ret
    exact ⟨rfl, RBW.out⟩
  · have KB := Lib.hid (beyond_one w n hn9 true (by simp; omega))
    clear hn hs hm hn9
    go_enter Tryd.func3, Tryd.ntmps3
    go_wp2_with fail
    go_at_call 4
    refine KB.out.mono ?_
    rintro e w0 ⟨rfl, b0⟩
    have B0 := Lib.hid b0
    clear b0
    go_wp2
    go_ret
    exact ⟨rfl, B0.out⟩
end Go.Proofs.YthpbcfoaabacgaaDoor
