/- The law VecsZeros. -/
import Derived.Test.YtkkahghhheameaaDoorZrE
namespace Go.Proofs.YtkkahghhheameaaDoor
open Go Go.Proofs Go.RowKit Go.Shelf

attribute [local go_sem] Oper.semAt_some
set_option maxRecDepth 100000
set_option linter.unusedVariables false
section
variable {W : World} {B n : Nat} {u v : Value} {eb et : List (Value × Nat)}
/-- a row without fractions tells itself alone -/
theorem bt_rats0 {a : Option Addr} {c : Nat} (h : BT W B n u v eb et) (hn : n ≤ 100000) (hl2 : et.length ≤ 100000) :
    Calls Tryd.prog 7 #[.pointer (some ⟨B, 0, none⟩), .slice a 0 c] W fun e w' => e = .returned (.tuple #[]) ∧ ∃ v', BT w' B (n + 1) u v' eb (et ++ [(.slice a 0 c, n + 1)]) ∧ Pgs B W u v w' u v' := by
  have KB := Lib.hid (bt_rowp (a := a) (l := 0) (c := c) h hn hl2)
  clear h hl2
  go_enter Tryd.func7, Tryd.ntmps7
  go_wp2
  go_loopg [4] 0 (fun g q wr => q = .int .i64 0 ∧ wr = W)
  case atStart => exact ⟨rfl, rfl⟩
  case round =>
    obtain ⟨rfl, rfl⟩ := hrel
    go_wp2_with (go_at_call 13; refine KB.out.mono ?_; rintro e w2 ⟨rfl, v2, q1, q2⟩)
    go_end0
    exact ⟨rfl, v2, q1, q2⟩
end
theorem v_other (z : Int) (hz : z < 0 ∨ 65536 < z) (W : World) : Calls Tryd.prog 4 #[.int .i64 z] W fun e w' => e = .returned (.slice none 0 0) ∧ W = w' := by
  rcases hz with hz | hz
  · go_enter Tryd.func4, Tryd.ntmps4
    go_wp2
    go_ret
    exact ⟨rfl, rfl⟩
  · have h0 : ¬ z < 0 := by omega
    go_enter Tryd.func4, Tryd.ntmps4
    go_wp2
    go_ret
    exact ⟨rfl, rfl⟩
theorem d_other (z : Int) (hz : z < 0 ∨ 65536 < z) (W : World) : Calls Tryd.prog 6 #[.int .i64 z] W fun e w' => e = .returned (.slice none 0 0) ∧ W = w' := by
  rcases hz with hz | hz
  · go_enter Tryd.func6, Tryd.ntmps6
    go_wp2
    go_ret
    exact ⟨rfl, rfl⟩
  · have h0 : ¬ z < 0 := by omega
    go_enter Tryd.func6, Tryd.ntmps6
    go_wp2
    go_ret
    exact ⟨rfl, rfl⟩
def ZN (z : Int) (m : Nat) : Prop := m ≤ 300 ∧ (z = (m : Int) ∨ (m = 0 ∧ (z < 0 ∨ 65536 < z)))
theorem za_any {z : Int} {m : Nat} (h : ZN z m) (W : World) : Calls Tryd.prog 4 #[.int .i64 z] W fun e w' => ∃ a c ds, e = .returned (.slice a m c) ∧ ZR w' W.heap.size w'.heap.size a m c ds ∧ Below W.heap.size W w' := by
  obtain ⟨hm, rfl | ⟨rfl, hz⟩⟩ := h
  · refine (v_zero m hm W).mono ?_
    rintro e w' ⟨a, c, ds, rfl, h1, h2, h3, h4, h5⟩
    have h4' : ds.Nodup := by simpa using h4
    exact ⟨a, c, ds, rfl, ⟨h1, h2, fun g e => (World.ownsRow.lt h2 g e).2, fun d hd => ⟨(h3 d hd).1, (Array.getElem?_eq_some_iff.1 (h3 d hd).2.1).1, (h3 d hd).2.1, (h3 d hd).2.2⟩, h4'⟩, h5⟩
  · refine (v_other z hz W).mono ?_
    rintro e w' ⟨rfl, rfl⟩
    exact ⟨none, 0, [], rfl, ⟨rfl, World.ownsRow_nil _ _ _ _, fun g e => (by cases e), fun d hd => (by cases hd), List.nodup_nil⟩, Below.refl _ _⟩
theorem da_any {z : Int} {m : Nat} (h : ZN z m) (W : World) : Calls Tryd.prog 6 #[.int .i64 z] W fun e w' => ∃ (a : Option Addr) (c : Nat) (es : List (Nat × Nat × Nat)), e = .returned (.slice a m c) ∧ RowZ w' a m c (fun k => some ⟨(es.getD k (0, 0, 0)).2.1, 0, none⟩) (fun k => (es.getD k (0, 0, 0)).2.2) (fun k => (es.getD k (0, 0, 0)).1) (fun _ => 1) ∧ Below W.heap.size W w' := by
  obtain ⟨hm, rfl | ⟨rfl, hz⟩⟩ := h
  · refine (d_zero m hm W).mono ?_
    rintro e w' ⟨a, c, ds, rfl, h1, h2, h3, h4, h5⟩
    exact ⟨a, c, ds, rfl, dRowZ h1 h2 h3, h5⟩
  · refine (d_other z hz W).mono ?_
    rintro e w' ⟨rfl, rfl⟩
    exact ⟨none, 0, ([] : List (Nat × Nat × Nat)), rfl, fun h => absurd h (Nat.lt_irrefl 0), Below.refl _ _⟩
/-- two rows lie apart -/
theorem rows_pw {W : World} {b t1 t2 i j : Nat} {a1 a2 : Option Addr} {m c1 c2 : Nat} {d1 d2 : List Nat} (Z1 : ZR W b t1 a1 m c1 d1) (Z2 : ZR W t1 t2 a2 m c2 d2) :
    List.Pairwise (fun x y : Value × Nat => x.1.ownBlock = none ∨ x.1.ownBlock ≠ y.1.ownBlock) [((Value.slice a1 m c1), i), ((Value.slice a2 m c2), j)] := by
  simp only [List.pairwise_cons, List.mem_cons, List.not_mem_nil, or_false, forall_eq, List.Pairwise.nil, and_true, false_imp_iff, implies_true]
  cases h : (Value.slice a1 m c1).ownBlock with
  | none => exact .inl rfl
  | some g =>
    refine .inr fun e => ?_
    have := Z1.own g h
    have := (World.ownsRow.lt Z2.row g e.symm).1
    omega
theorem rows_ow {W : World} {b t1 t2 B i j : Nat} {a1 a2 : Option Addr} {m c1 c2 : Nat} {d1 d2 : List Nat} (hb : b ≤ t1) (h12 : t1 ≤ t2) (h2B : t2 ≤ B) (hm : m ≤ 300) (Z1 : ZR W b t1 a1 m c1 d1) (Z2 : ZR W t1 t2 a2 m c2 d2) :
    ∀ e ∈ [((Value.slice a1 m c1), i), ((Value.slice a2 m c2), j)], ∃ (l : Nat) (xs : List Value), l ≤ 2000000 ∧ W.ownsRow b 47 3 e.1 l xs ∧ ∀ g, e.1.ownBlock = some g → g < B := by
  intro e he
  simp only [List.mem_cons, List.not_mem_nil, or_false] at he
  rcases he with rfl | rfl
  · exact ⟨m, _, by omega, Z1.row, fun g e => by have := Z1.own g e; omega⟩
  · exact ⟨m, _, by omega, own_low Z2.row hb, fun g e => by have := Z2.own g e; omega⟩
theorem zr_apart {w W : World} {b t1 t2 B n i j k l : Nat} {u v : Value} {a1 a2 : Option Addr} {m c1 c2 : Nat} {d1 d2 : List Nat} (hb : b ≤ t1) (h12 : t1 ≤ t2) (h2B : t2 ≤ B) (hm : m ≤ 300) (h0 : 0 < m) (Z1 : ZR W b t1 a1 m c1 d1) (Z2 : ZR W t1 t2 a2 m c2 d2) (hw : Below b w W)
    (hi : i ≤ 1000) (hj : j ≤ 1000) (hk : k ≤ 2000) (hl : l ≤ 2000) (h : BT W B n u v (tolds zx (zy d1) i m ++ tolds zx (zy d2) j m) [((Value.slice a1 m c1), k), ((Value.slice a2 m c2), l)]) :
    Calls Tryd.prog 8 #[.pointer (some ⟨B, 0, none⟩)] W fun e w' => e = .returned (.bool true) ∧ Below b w w' := by
  have hlen : (tolds zx (zy d1) i m ++ tolds zx (zy d2) j m).length = 4 * m := by rw [List.length_append, tolds_len, tolds_len]; omega
  have hbu : ∀ g, g < B → u.ownBlock ≠ some g ∧ v.ownBlock ≠ some g := fun g hg => ⟨fun e => by have := (h.bu g e).1; omega, fun e => by have := (h.bv g e).1; omega⟩
  have low1 : ∀ e ∈ tolds zx (zy d1) i m, ∀ g, e.1.ownBlock = some g → b ≤ g ∧ g < t1 ∧ (Value.slice a1 m c1).ownBlock ≠ some g := fun e he => (Z1.lies he).2
  have low2 : ∀ e ∈ tolds zx (zy d2) j m, ∀ g, e.1.ownBlock = some g → t1 ≤ g ∧ g < t2 ∧ (Value.slice a2 m c2).ownBlock ≠ some g := fun e he => (Z2.lies he).2
  refine (bt_apart_kp (w := w) (base := b) h (fun e => by rw [e] at hlen; simp at hlen; omega) (by simp) (by omega) (by simp) (by omega) hw (fun e he => ?_) (fun e he => ?_) (fun e he => ?_) (fun e he => ?_) ?_ (rows_pw Z1 Z2) (fun x hx y hy g e1 e2 => ?_)).mono (fun e w' h => ⟨h.1, h.2.1⟩)
  · rcases List.mem_append.1 he with he | he
    · have := (Z1.told he).1; omega
    · have := (Z2.told he).1; omega
  · simp only [List.mem_cons, List.not_mem_nil, or_false] at he
    rcases he with rfl | rfl
    · show k ≤ _; omega
    · show l ≤ _; omega
  · rcases List.mem_append.1 he with he | he
    · obtain ⟨⟨q, xs, h1, h2⟩, _⟩ := Z1.lies he
      exact ⟨q, xs, h1, h2, fun g e => by have := low1 _ he g e; exact ⟨by omega, hbu g (by omega)⟩⟩
    · obtain ⟨⟨q, xs, h1, h2⟩, _⟩ := Z2.lies he
      exact ⟨q, xs, h1, own_low h2 hb, fun g e => by have := low2 _ he g e; exact ⟨by omega, hbu g (by omega)⟩⟩
  · obtain ⟨q, xs, h1, h2, h3⟩ := rows_ow hb h12 h2B hm Z1 Z2 e he
    exact ⟨q, xs, h1, h2, fun g e => by have := h3 g e; exact ⟨by omega, hbu g (by omega)⟩⟩
  · rw [List.pairwise_append]
    refine ⟨Z1.pw i, Z2.pw j, fun x hx y hy => ?_⟩
    cases e : x.1.ownBlock with
    | none => exact .inl rfl
    | some g =>
      refine .inr fun e2 => ?_
      have := low1 x hx g e
      have := low2 y hy g e2.symm
      omega
  · simp only [List.mem_cons, List.not_mem_nil, or_false] at hy
    rcases List.mem_append.1 hx with hx | hx
    · have k1 := low1 x hx g e1
      rcases hy with rfl | rfl
      · exact k1.2.2 e2
      · have := (World.ownsRow.lt Z2.row g e2).1; omega
    · have k1 := low2 x hx g e1
      rcases hy with rfl | rfl
      · have := Z1.own g e2; omega
      · exact k1.2.2 e2
set_option maxHeartbeats 4000000 in
theorem zeros_small {z : Int} {m : Nat} (h : ZN z m) (hg : (300 < z ∧ ¬ z ≤ 65536) ∨ ¬ 300 < z) (w : World) : Calls Tryd.prog 3 #[.int .i64 z] w fun e w' => e = .returned (.bool true) ∧ Below w.heap.size w w' := by
  have KA := Lib.hid (fun W => za_any h W)
  have KD := Lib.hid (fun W => da_any h W)
  have hm : m ≤ 300 := h.1
  clear h
  rcases hg with ⟨i1, i2⟩ | i1
  all_goals
    go_enter Tryd.func3, Tryd.ntmps3
    go_wp2_with fail
    go_at_call 4
    refine (KA.out _).mono ?_
    rintro e w1 ⟨a1, c1, d1, rfl, t1, b1⟩
    have T1 := Lib.hid t1
    have B1 := Lib.hid b1
    clear t1 b1
    go_wp2_with fail
    go_at_call 4
    refine (KA.out _).mono ?_
    rintro e w2 ⟨a2, c2, d2, rfl, t2, b2⟩
    have T2 := Lib.hid t2
    have B2 := Lib.hid b2
    clear t2 b2
    go_wp2_with fail
    go_at_call 6
    refine (KD.out _).mono ?_
    rintro e w3 ⟨a3, c3, es, rfl, t3, b3⟩
    have T3 := Lib.hid t3
    have B3 := Lib.hid b3
    clear t3 b3 KA KD
    have Q3 := Lib.hid (B2.out.trans (B3.out.mono B2.out.size))
    have P3 := Lib.hid (B1.out.trans (Q3.out.mono B1.out.size))
    go_wp2_with fail
    go_at_call 5
    refine (same_zero hm (T1.out.below Q3.out).rowZ T3.out).mono ?_
    rintro e w4 ⟨rfl, b4⟩
    have B4 := Lib.hid b4
    clear b4
    have Q4 := Lib.hid (Q3.out.trans (B4.out.mono Q3.out.size))
    have R4 := Lib.hid (B3.out.trans (B4.out.mono B3.out.size))
    go_wp2_with fail
    go_at_call 5
    refine (same_zero hm (T2.out.below R4.out).rowZ (T1.out.below Q4.out).rowZ).mono ?_
    rintro e w5 ⟨rfl, b5⟩
    have B5 := Lib.hid b5
    clear b5
    have P5 := Lib.hid ((P3.out.trans (B4.out.mono P3.out.size)).trans (B5.out.mono (Nat.le_trans P3.out.size B4.out.size)))
    have Q5 := Lib.hid (Q4.out.trans (B5.out.mono Q4.out.size))
    have R5 := Lib.hid (R4.out.trans (B5.out.mono R4.out.size))
    have Z1 := Lib.hid (T1.out.below Q5.out)
    have Z2 := Lib.hid (T2.out.below R5.out)
    have hs1 := B1.out.size
    have hs2 := B2.out.size
    have hs5 := R5.out.size
    clear B3 B4 B5 Q3 P3 Q4 R4 T1 T2 T3 B1 B2 Q5 R5
    go_wp2_with fail
    obtain ⟨B, hB⟩ : ∃ B, B = w5.heap.size := ⟨_, rfl⟩
    obtain ⟨wb, hwb⟩ : ∃ wb, wb = w5.alloc (.cells #[.int .i64 0, .slice none 0 0, .slice none 0 0, .slice none 0 0, .slice none 0 0, .slice none 0 0, .slice none 0 0, .slice none 0 0, .slice none 0 0, .slice none 0 0, .slice none 0 0, .slice none 0 0, .slice none 0 0] 38) := ⟨_, rfl⟩
    have h0 := Lib.hid (show BT wb B 0 (.slice none 0 0) (.slice none 0 0) [] [] by rw [hwb, hB]; exact BT.new _)
    have q0 := Lib.hid (show Below B w5 wb by rw [hwb]; exact (Below.refl B _).alloc (Nat.le_of_eq hB) _)
    rw [← hB, ← hwb]
    have P6 := Lib.hid (show w.heap.size ≤ B by rw [hB]; exact P5.out.size)
    have hs6 : w2.heap.size ≤ B := by rw [hB]; exact hs5
    have P7 := Lib.hid (P5.out.trans (q0.out.mono P6.out))
    have Y1 := Lib.hid (Z1.out.below (q0.out.mono (by omega)))
    have Y2 := Lib.hid (Z2.out.below (q0.out.mono hs6))
    clear hB hwb hs5 P5 Z1 Z2 q0
    by_cases hm0 : m = 0
    · subst hm0
      go_wp2_with fail
      go_at_call 7
      refine (bt_rats0 h0.out (by omega) (by simp)).mono ?_
      rintro e u1 ⟨rfl, x1, t1, t2⟩
      have h1 := Lib.hid t1
      have q1 := Lib.hid t2.bel
      clear t1 t2 h0
      go_wp2_with fail
      go_at_call 7
      refine (bt_rats0 h1.out (by omega) (by simp)).mono ?_
      rintro e u2 ⟨rfl, x2, t1, t2⟩
      have h2 := Lib.hid t1
      have q2 := Lib.hid (q1.out.trans t2.bel)
      clear t1 t2 h1 q1
      go_wp2_with fail
      go_at_call 8
      have y1 := Y1.out.below (q2.out.mono (by omega))
      have y2 := Y2.out.below (q2.out.mono hs6)
      have hr : BT u2 B (0 + 1 + 1) (.slice none 0 0) x2 [] [((Value.slice a1 0 c1), 1), ((Value.slice a2 0 c2), 2)] := h2.out
      refine (bt_apartRa (w := w) (base := w.heap.size) hr (by simp) (by simp) P6.out (P7.out.trans (q2.out.mono P6.out)) (by simp) (rows_ow hs1 hs2 hs6 hm y1 y2) (rows_pw y1 y2)).mono ?_
      rintro e w' ⟨rfl, rb⟩
      have RBW := Lib.hid rb
      clear rb hr y1 y2
      go_wp2_with fail
      go_ret
      exact ⟨rfl, RBW.out⟩
    · go_wp2_with fail
      go_at_call 7
      refine (bt_rats h0.out (by omega) (by simp; omega) (by simp) (Y1.out.rowR (fun g hg e => by
        rcases e with e | e | e
        · omega
        · cases e
        · cases e))).mono ?_
      rintro e u1 ⟨rfl, x1, y1, t1, t2⟩
      have h1 := Lib.hid t1
      have q1 := Lib.hid t2.bel
      have V2 := Lib.hid (Y2.out.below (t2.bel.mono hs6))
      have G1 := Lib.hid (show ∀ g, g < w2.heap.size → ¬ (g = B ∨ x1.ownBlock = some g ∨ y1.ownBlock = some g) from fun g hg e => by
        rcases e with e | e | e
        · omega
        · have := (t1.bu g e).1; omega
        · have := (t1.bv g e).1; omega)
      clear t1 t2 h0 Y2
      go_wp2_with fail
      go_at_call 7
      refine (bt_rats h1.out (by omega) (by rw [List.length_append, tolds_len]; simp; omega) (by simp) (V2.out.rowR G1.out)).mono ?_
      rintro e u2 ⟨rfl, x2, y2, t1, t2⟩
      have h2 := Lib.hid t1
      have q2 := Lib.hid (q1.out.trans t2.bel)
      have V3 := Lib.hid (V2.out.below (t2.bel.mono hs6))
      clear t1 t2 h1 q1 V2 G1
      have V1 := Lib.hid (Y1.out.below (q2.out.mono (by omega)))
      clear Y1
      go_wp2_with fail
      go_at_call 8
      refine (zr_apart (w := w) hs1 hs2 hs6 hm (by omega) V1.out V3.out (P7.out.trans (q2.out.mono P6.out)) (i := 0) (j := 0 + 2 * m + 1) (k := 0 + 2 * m + 1) (l := 0 + 2 * m + 1 + 2 * m + 1) (by omega) (by omega) (by omega) (by omega) h2.out).mono ?_
      rintro e w' ⟨rfl, rb⟩
      have RBW := Lib.hid rb
      clear rb
      go_wp2_with fail
      go_ret
      exact ⟨rfl, RBW.out⟩
theorem zeros_all (z : Int) (w : World) : Calls Tryd.prog 3 #[.int .i64 z] w fun e w' => e = .returned (.bool true) ∧ Below w.heap.size w w' := by
  by_cases h : 300 < z ∧ z ≤ 65536
  · obtain ⟨i1, i2⟩ := h
    go_enter Tryd.func3, Tryd.ntmps3
    go_wp2_with fail
    go_ret
    exact ⟨rfl, Below.refl _ _⟩
  · by_cases h1 : 0 ≤ z ∧ z ≤ 300
    · exact zeros_small (m := z.toNat) ⟨by omega, .inl (by omega)⟩ (by omega) w
    · exact zeros_small (m := 0) ⟨by omega, .inr ⟨rfl, by omega⟩⟩ (by omega) w
end Go.Proofs.YtkkahghhheameaaDoor
