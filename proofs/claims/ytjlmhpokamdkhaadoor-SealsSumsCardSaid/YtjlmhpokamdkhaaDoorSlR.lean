/- Seals: a stamp that was made is right, any other one is wrong. -/
import Derived.Test.YtjlmhpokamdkhaaDoorSlD
namespace Go.Proofs.YtjlmhpokamdkhaaDoor
open Go Go.Proofs Go.RowKit Go.Shelf

attribute [local go_sem] Oper.semAt_some
set_option maxRecDepth 100000
/-- the four things in their box -/
def Box (W : World) (g : Nat) (K N T : ByteArray) (u : Nat) : Prop := W.cell? ⟨g, 0, none⟩ = some (.string K) ∧ W.cell? ⟨g, 1, none⟩ = some (.string N) ∧ W.cell? ⟨g, 2, none⟩ = some (.int .u64 (u : Int)) ∧ W.cell? ⟨g, 3, none⟩ = some (.string T) ∧ Hid (g < W.heap.size)
theorem Box.below {W W' : World} {B g : Nat} {K N T : ByteArray} {u : Nat} (h : Box W g K N T u) (hg : g < B) (hb : Below B W W') : Box W' g K N T u :=
  ⟨(hb.cell (p := ⟨g, 0, none⟩) hg).trans h.1, (hb.cell (p := ⟨g, 1, none⟩) hg).trans h.2.1, (hb.cell (p := ⟨g, 2, none⟩) hg).trans h.2.2.1, (hb.cell (p := ⟨g, 3, none⟩) hg).trans h.2.2.2.1, Lib.hid (Nat.lt_of_lt_of_le h.2.2.2.2.out hb.size)⟩
theorem Box.on {W W' : World} {g : Nat} {K N T : ByteArray} {u : Nat} (h : Box W g K N T u) (hb : Below W.heap.size W W') : Box W' g K N T u := h.below h.2.2.2.2.out hb
theorem Box.new (W : World) (K N T : ByteArray) (u : Nat) : Box (W.alloc (.cells #[.string K, .string N, .int .u64 (u : Int), .string T] 31)) W.heap.size K N T u :=
  ⟨by rw [World.cell?_alloc_new]; rfl, by rw [World.cell?_alloc_new]; rfl, by rw [World.cell?_alloc_new]; rfl, by rw [World.cell?_alloc_new]; rfl, Lib.hid (by simp)⟩
theorem Box.put {W : World} {g b o : Nat} {K N T : ByteArray} {u : Nat} (h : Box W g K N T u) (hne : g ≠ b) (v : Value) : Box (W.setCell ⟨b, o, none⟩ v) g K N T u := by
  have c : ∀ j, (W.setCell ⟨b, o, none⟩ v).cell? ⟨g, j, none⟩ = W.cell? ⟨g, j, none⟩ := fun j => by
    unfold World.cell?
    rw [Below.heap_setCell W ⟨b, o, none⟩ v g hne]
  exact ⟨(c _).trans h.1, (c _).trans h.2.1, (c _).trans h.2.2.1, (c _).trans h.2.2.2.1, Lib.hid (by simpa using h.2.2.2.2.out)⟩
/-- bytes that lie in block g, and may be written -/
def LB (W : World) (g : Nat) (l : List UInt8) : Prop := g < W.heap.size ∧ ∀ j, j < l.length → W.cell? ⟨g, j, none⟩ = some (.int .u8 (ib (l.getD j 0))) ∧ W.frozen? ⟨g, j, none⟩ = false
theorem LB.on {W W' : World} {g : Nat} {l : List UInt8} (h : LB W g l) (hb : Below W.heap.size W W') : LB W' g l :=
  ⟨Nat.lt_of_lt_of_le h.1 hb.size, fun j hj => ⟨(hb.cell (p := ⟨g, j, none⟩) h.1).trans (h.2 j hj).1, (hb.frozen (p := ⟨g, j, none⟩) h.1).trans (h.2 j hj).2⟩⟩
theorem LB.set {W : World} {g : Nat} {l : List UInt8} (h : LB W g l) (j : Nat) (x : UInt8) (hj : j < l.length) : LB (W.setCell ⟨g, j, none⟩ (.int .u8 (ib x))) g (l.set j x) := by
  refine ⟨by simpa using h.1, fun i hi => ⟨?_, frozen_set (h.2 i (by simpa using hi)).2⟩⟩
  rw [List.length_set] at hi
  by_cases e : i = j
  · subst e
    rw [World.cell?_setCell_same W _ _ (h.2 i hi).1]
    simp [List.getD_eq_getElem?_getD, List.getElem?_set_self hj]
  · have := cell_set (.int .u8 (ib x)) e (h.2 i hi).1
    rw [this]
    simp [List.getD_eq_getElem?_getD, List.getElem?_set_ne (fun h => e h.symm)]
/-- a part of them as a text -/
theorem LB.text {W : World} {g : Nat} {l : List UInt8} (h : LB W g l) (o n c : Nat) (hn : o + n ≤ l.length) : (convert 22 9 (.slice (some ⟨g, o, none⟩) n c)).run Tryd.prog W = .ok (.string ⟨((l.drop o).take n).toArray⟩) W := by
  have hlen : ((l.drop o).take n).length = n := by rw [List.length_take, List.length_drop]; omega
  have := run_convert_bytes_back (P := Tryd.prog) W 22 9 5 ⟨g, o, none⟩ c ((l.drop o).take n) Tryd.underlying22 Tryd.underlying5 Tryd.underlying9 (fun j hj => by
    rw [Addr.add_lit, (h.2 (o + j) (by omega)).1]
    rw [hlen] at hj
    simp only [ib, List.getD_eq_getElem?_getD, List.getElem_take, List.getElem_drop, List.getElem?_eq_getElem (show o + j < l.length by omega), Option.getD_some])
  rw [hlen] at this
  exact this
theorem u8_val {a : Int} (h : (Lit.int .u8 a).wf = true) : ∃ b : UInt8, a = ib b := by
  simp [Lit.wf, IntKind.min, IntKind.max, IntKind.signed, IntKind.bits] at h
  exact ⟨UInt8.ofNat a.toNat, by unfold ib; rw [UInt8.toNat_ofNat']; omega⟩
theorem set_ne {l : List UInt8} {k : Nat} (hk : k < l.length) (x y : UInt8) (hx : x = l.getD k 0) : (l == l.set k (x ^^^ y)) = (ib y == 0) := by
  by_cases h : y = 0
  · subst h
    have e : l.set k (x ^^^ 0) = l := by
      rw [UInt8.xor_zero, hx, List.getD_eq_getElem?_getD, List.getElem?_eq_getElem hk]
      exact List.set_getElem_self hk
    rw [e]
    simp [ib]
  · have h1 : (ib y == 0) = false := by
      rw [beq_eq_false_iff_ne]; intro e; exact h (ib_inj (e.trans rfl))
    rw [h1, beq_eq_false_iff_ne]
    intro e
    have e2 := congrArg (fun m : List UInt8 => m.getD k 0) e
    simp only [List.getD_eq_getElem?_getD, List.getElem?_set_self hk, Option.getD_some] at e2
    rw [hx, List.getD_eq_getElem?_getD] at e2
    apply h
    have e3 : l[k]?.getD 0 ^^^ l[k]?.getD 0 = l[k]?.getD 0 ^^^ (l[k]?.getD 0 ^^^ y) := by rw [← e2]
    rw [← UInt8.xor_assoc, UInt8.xor_self, UInt8.zero_xor] at e3
    exact e3.symm
set_option maxHeartbeats 8000000 in
theorem right_all (K N T : ByteArray) (u : Nat) (b c : UInt8) (w : World) (hu : u < 18446744073709551616) (hW : HasW w) :
    Calls Tryd.prog 5 #[.agg #[.string K, .string N, .int .u64 (u : Int), .string T], .int .u8 (ib b), .int .u8 (ib c)] w fun e w' => e = .returned (.bool true) ∧ Below w.heap.size w w' := by
  have KA := Lib.hid (show ∀ W, Below w.heap.size w W → Calls Tryd.prog 20 #[] W fun e w' => e = .returned (.bool true) ∧ Below W.heap.size W w' from fun W hb => sl_alive W (hW.below hb))
  have B0 := Lib.hid (show Below w.heap.size w (w.alloc (.cells #[.string K, .string N, .int .u64 (u : Int), .string T] 31)) from (Below.refl _ _).alloc (Nat.le_refl _) _)
  have BX := Lib.hid (Box.new w K N T u)
  by_cases hg : 3000 < K.size ∨ 3000 < N.size ∨ 3000 < T.size
  · have KG := Lib.hid (fun W => great_yes K N T (u : Int) W hg)
    clear hg hW hu
    go_enter Tryd.func5, Tryd.ntmps5
    go_wp2_with (first
      | (go_at_call 20; (with_reducible refine (KA.out _ B0.out).mono ?_); rintro e w1 ⟨rfl, q1⟩; have BX := Lib.hid (BX.out.on q1); have y0 := BX.out.1; have y1 := BX.out.2.1; have y2 := BX.out.2.2.1; have y3 := BX.out.2.2.2.1; have B0 := Lib.hid (B0.out.trans (q1.mono B0.out.size)); clear q1)
      | (go_at_call 15; (with_reducible refine (KG.out _).mono ?_); rintro e w2 ⟨rfl, q2⟩; clear y0 y1 y2 y3; have BX := Lib.hid (BX.out.on q2); have B0 := Lib.hid (B0.out.trans (q2.mono B0.out.size)); clear q2))
    go_ret
    exact ⟨rfl, B0.out⟩
  have hK : K.size ≤ 3000 := by omega
  have hN : N.size ≤ 3000 := by omega
  have hT : T.size ≤ 3000 := by omega
  have KG := Lib.hid (fun W => great_no K N T (u : Int) W hK hN hT)
  obtain ⟨L, hL⟩ : ∃ L, L = sealB (bts K) (bts N) u := ⟨_, rfl⟩
  have hLl : L.length = 64 := by rw [hL, sealB_length]
  obtain ⟨S, hS⟩ : ∃ S : ByteArray, S = ⟨L.toArray⟩ := ⟨_, rfl⟩
  have hSs : S.size = 64 := by rw [← bts_length, hS, bts_mk, hLl]
  have KM := Lib.hid (show ∀ W, Below w.heap.size w W → Calls Tryd.prog 16 #[.string K, .string N, .int .u64 (u : Int)] W fun e w' => e = .returned (.string S) ∧ Below W.heap.size W w' from fun W hb => by rw [hS, hL]; exact make_any K N u hu W (by omega) (by omega) (hW.below hb))
  have KC := Lib.hid (show ∀ W X, Below w.heap.size w W → X.size ≤ 500 → Calls Tryd.prog 18 #[.string K, .string N, .int .u64 (u : Int), .string X] W fun e w' => e = .returned (.bool (L == bts X)) ∧ Below W.heap.size W w' from fun W X hb hx => by rw [hL]; exact check_any K N X u hu W (by omega) (by omega) (by omega) (hW.below hb))
  have HS := Lib.hid (show S = ⟨L.toArray⟩ ∧ L.length = 64 ∧ S.size = 64 ∧ bts S = L from ⟨hS, hLl, hSs, by rw [hS, bts_mk]⟩)
  clear hg hW hu hK hN hT hL hLl hS
  have es : (S.size : Int) = 64 := by omega
  go_enter Tryd.func5, Tryd.ntmps5
  go_wp2_with (first
    | (go_at_call 20; (with_reducible refine (KA.out _ B0.out).mono ?_); rintro e w1 ⟨rfl, q1⟩; have BX := Lib.hid (BX.out.on q1); have y0 := BX.out.1; have y1 := BX.out.2.1; have y2 := BX.out.2.2.1; have y3 := BX.out.2.2.2.1; have B0 := Lib.hid (B0.out.trans (q1.mono B0.out.size)); clear q1)
    | (go_at_call 15; (with_reducible refine (KG.out _).mono ?_); rintro e w2 ⟨rfl, q2⟩; clear y0 y1 y2 y3; have BX := Lib.hid (BX.out.on q2); have y0 := BX.out.1; have y1 := BX.out.2.1; have y2 := BX.out.2.2.1; have B0 := Lib.hid (B0.out.trans (q2.mono B0.out.size)); clear q2)
    | (go_at_call 16; (with_reducible refine (KM.out _ B0.out).mono ?_); rintro e w3 ⟨rfl, q3⟩; clear y0 y1 y2; have BX := Lib.hid (BX.out.on q3); have B0 := Lib.hid (B0.out.trans (q3.mono B0.out.size)); clear q3; refine Hid.out ?_))
  refine Lib.hid ?_
  obtain ⟨cc, w4, hcv, hcc, q4, hg4, hcell⟩ := conv_run w3 S
  have hs3 := BX.out.2.2.2.2.out
  have BX := Lib.hid (BX.out.on q4)
  have B0 := Lib.hid (B0.out.trans (q4.mono B0.out.size))
  obtain ⟨g, hg⟩ : ∃ g, g = w3.heap.size := ⟨_, rfl⟩
  rw [← hg] at hcv hcell hg4
  rw [HS.out.2.2.2] at hcell
  have HL := Lib.hid (show LB w4 g L ∧ w.heap.size < g from ⟨⟨hg4, fun j hj => hcell j (by have := HS.out; omega)⟩, by rw [hg]; exact hs3⟩)
  rw [hSs] at hcv
  have HCC := Lib.hid (show 64 ≤ cc by omega)
  have hcc' : (64 : Int) ≤ (cc : Int) := by omega
  have y0 := BX.out.1
  have y1 := BX.out.2.1
  have y2 := BX.out.2.2.1
  have htx : (convert 22 9 (.slice (some ⟨g, 0, none⟩) 64 cc)).run Tryd.prog w4 = .ok (.string S) w4 := by
    have := HL.out.1.text 0 64 cc (by have := HS.out; omega)
    rw [List.drop_zero, List.take_of_length_le (by have := HS.out; omega), ← HS.out.1] at this
    exact this
  have qt : (L == bts S) = true := by rw [HS.out.2.2.2]; exact beq_self_eq_true _
  clear hcc q4 hcell hg4 hg hSs hs3
  go_wp2_with (first
    | (go_at_call 18; (with_reducible refine (KC.out _ _ B0.out (by have := HS.out; omega)).mono ?_); rintro e w5 ⟨rfl, q5⟩; rw [qt]; clear y0 y1 y2 htx hcv qt; have BX := Lib.hid (BX.out.on q5); have HL := Lib.hid (And.intro (HL.out.1.on q5) HL.out.2); have B0 := Lib.hid (B0.out.trans (q5.mono B0.out.size)); clear q5; refine Hid.out ?_))
  refine Lib.hid ?_
  obtain ⟨k, hk⟩ : ∃ k, k = c.toNat % 64 := ⟨_, rfl⟩
  have hk64 : k < 64 := by omega
  have e1 : IntKind.i64.wrap (ib c) = ib c := IntWalk.i64_in _ (by have := ib_lt c; omega)
  have e2 : ib c % (64 : Int) = (k : Int) := by unfold ib; omega
  have e3 : Int.tmod (ib c) 64 = (k : Int) := by rw [Int.tmod_eq_emod_of_nonneg (ib_lt c).1]; exact e2
  have HKK := Lib.hid hk64
  clear hk
  go_wp2
  clear e1 e2 e3
  obtain ⟨k1, hk1⟩ : ∃ k1, k1 = k + 1 := ⟨_, rfl⟩
  have e4 : IntKind.i64.wrap ((k : Int) + 1) = (k1 : Int) := by rw [hk1]; exact i64n (k + 1) (by omega)
  have i0 : (0 : Int) ≤ (k : Int) := by omega
  have i1 : (k : Int) ≤ (cc : Int) := by have := HCC.out; omega
  have i2 : (0 : Int) ≤ (k1 : Int) := by omega
  have i3 : (k1 : Int) ≤ (64 : Int) := by omega
  have i4 : (k1 : Int) ≤ (cc : Int) := by have := HCC.out; omega
  have i5 : (k : Int) ≤ (64 : Int) := by omega
  obtain ⟨AD, hAD⟩ : ∃ A : Option Addr, A = if cc = k1 then some ⟨g, 0, none⟩ else some ⟨g, k1, none⟩ := ⟨_, rfl⟩
  have i6 : ¬ cc = k := by have := HCC.out; omega
  obtain ⟨P, hP⟩ : ∃ P : ByteArray, P = ⟨(L.take k).toArray⟩ := ⟨_, rfl⟩
  obtain ⟨R, hR⟩ : ∃ P : ByteArray, P = ⟨(L.drop k1).toArray⟩ := ⟨_, rfl⟩
  obtain ⟨R0, hR0⟩ : ∃ P : ByteArray, P = ⟨(L.drop k).toArray⟩ := ⟨_, rfl⟩
  have HP := Lib.hid (show bts P = L.take k ∧ bts R = L.drop k1 ∧ bts R0 = L.drop k ∧ P.size = k ∧ R.size = 64 - k1 ∧ R0.size = 64 - k by
    have := HS.out
    refine ⟨by rw [hP, bts_mk], by rw [hR, bts_mk], by rw [hR0, bts_mk], ?_, ?_, ?_⟩
    · rw [← bts_length, hP, bts_mk, List.length_take]; omega
    · rw [← bts_length, hR, bts_mk, List.length_drop]; omega
    · rw [← bts_length, hR0, bts_mk, List.length_drop]; omega)
  have HT := Lib.hid (show ∀ W : World, LB W g L → (convert 22 9 (.slice (some ⟨g, 0, none⟩) k cc)).run Tryd.prog W = .ok (.string P) W ∧ ((convert 22 9 (.slice AD (64 - k1) (cc - k1))).run Tryd.prog W = .ok (.string R) W) ∧ (∀ c', (convert 22 9 (.slice (some ⟨g, k, none⟩) (64 - k) c')).run Tryd.prog W = .ok (.string R0) W) by
    intro W h
    have hl := HS.out.2.1
    refine ⟨?_, ?_, fun c' => ?_⟩
    · have := h.text 0 k cc (by omega)
      rw [List.drop_zero, ← hP] at this
      exact this
    · rw [hAD]
      split
      · have hk64 : k1 = 64 := by have := HCC.out; omega
        have := h.text 0 (64 - k1) (cc - k1) (by omega)
        rw [show 64 - k1 = 0 by omega, List.take_zero] at this
        rw [show 64 - k1 = 0 by omega, this, hR, List.drop_of_length_le (by omega)]
      · have := h.text k1 (64 - k1) (cc - k1) (by omega)
        rw [List.take_of_length_le (by rw [List.length_drop]; omega), ← hR] at this
        exact this
    · have := h.text k (64 - k) c' (by omega)
      rw [List.take_of_length_le (by rw [List.length_drop]; omega), ← hR0] at this
      exact this)
  have t1 := fun n => (HT.out (w5.drewN n) (HL.out.1.on (below_drewN (Below.refl _ _) n))).1
  have t2 := fun n => (HT.out (w5.drewN n) (HL.out.1.on (below_drewN (Below.refl _ _) n))).2.1
  have a1 : ∀ W, (Op.stringOp .add P R).run Tryd.prog W = .ok (.string (P ++ R)) W := fun W => run_string_add_sum W P R (by have := HP.out; omega)
  have HK1 := Lib.hid hk1
  have eAD := hAD.symm
  clear hP hR hR0 hk1 hk64 hAD
  go_quiet (fail)
  go_wp2
  go_name_world w6 hw6
  have q6 : Below w5.heap.size w5 w6 := by rw [← hw6]; exact below_drewN (Below.refl _ _) _
  have BX := Lib.hid (BX.out.on q6)
  have HL := Lib.hid (And.intro (HL.out.1.on q6) HL.out.2)
  have B0 := Lib.hid (B0.out.trans (q6.mono B0.out.size))
  clear q6 hw6 t1 t2 a1
  have t1 := fun n => (HT.out (w6.drewN n) (HL.out.1.on (below_drewN (Below.refl _ _) n))).1
  have t3 := fun n => (HT.out (w6.drewN n) (HL.out.1.on (below_drewN (Below.refl _ _) n))).2.2
  obtain ⟨P0, hP0⟩ : ∃ X, X = P ++ ⟨#[48]⟩ := ⟨_, rfl⟩
  have a2 : ∀ W, (Op.stringOp .add P ⟨#[48]⟩).run Tryd.prog W = .ok (.string P0) W := fun W => by rw [hP0]; exact run_string_add_sum W P ⟨#[48]⟩ (by have := HP.out; show P.size + 1 ≤ _; omega)
  have hP0s : P0.size = k + 1 := by rw [hP0, ByteArray.size_append]; have := HP.out; show P.size + 1 = _; omega
  have a3 : ∀ W, (Op.stringOp .add P0 R0).run Tryd.prog W = .ok (.string (P0 ++ R0)) W := fun W => run_string_add_sum W P0 R0 (by have := HP.out; omega)
  have HP0 := Lib.hid hP0s
  clear hP0 hP0s eAD
  go_quiet (fail)
  generalize hw7 : w6.drewN _ = w7
  have q7 : Below w6.heap.size w6 w7 := by rw [← hw7]; exact below_drewN (Below.refl _ _) _
  have BX := Lib.hid (BX.out.on q7)
  have HL := Lib.hid (And.intro (HL.out.1.on q7) HL.out.2)
  have B0 := Lib.hid (B0.out.trans (q7.mono B0.out.size))
  clear q7 hw7 t1 t3 a2 a3 HT
  obtain ⟨x, hx⟩ : ∃ x, x = L.getD k 0 := ⟨_, rfl⟩
  obtain ⟨q, hq⟩ : ∃ q, q = (ib b == 0) := ⟨_, rfl⟩
  have HX := Lib.hid (show x = L.getD k 0 ∧ q = (ib b == 0) from ⟨hx, hq⟩)
  have cz : w7.cell? ⟨g, k, none⟩ = some (.int .u8 (ib x)) := by rw [hx]; exact (HL.out.1.2 k (by have := HS.out; have := HKK.out; omega)).1
  have fz : w7.frozen? ⟨g, k, none⟩ = false := (HL.out.1.2 k (by have := HS.out; have := HKK.out; omega)).2
  have i7 : (k : Int) < (64 : Int) := by have := HKK.out; omega
  have kx := ib_xor x b
  have BX := Lib.hid (BX.out.put (Nat.ne_of_lt HL.out.2) (o := k) (.int .u8 (ib (x ^^^ b))))
  have HL := Lib.hid (show LB (w7.setCell ⟨g, k, none⟩ (.int .u8 (ib (x ^^^ b)))) g (L.set k (x ^^^ b)) ∧ w.heap.size < g from ⟨HL.out.1.set k (x ^^^ b) (by have := HS.out; have := HKK.out; omega), HL.out.2⟩)
  have B0 := Lib.hid (B0.out.setCell (p := ⟨g, k, none⟩) (Nat.le_of_lt HL.out.2) (.int .u8 (ib (x ^^^ b))))
  have y0 := BX.out.1
  have y1 := BX.out.2.1
  have y2 := BX.out.2.2.1
  obtain ⟨X1, hX1⟩ : ∃ X, X = P ++ R := ⟨_, rfl⟩
  obtain ⟨X2, hX2⟩ : ∃ X, X = P0 ++ R0 := ⟨_, rfl⟩
  obtain ⟨X3, hX3⟩ : ∃ X : ByteArray, X = ⟨(L.set k (x ^^^ b)).toArray⟩ := ⟨_, rfl⟩
  have ql : (L == bts X1) = false := by
    rw [beq_eq_false_iff_ne]; intro h
    have h2 := congrArg List.length h
    rw [bts_length, hX1, ByteArray.size_append] at h2
    have := HP.out; have := HS.out; have := HKK.out; have := HK1.out
    omega
  have qm : (L == bts X2) = false := by
    rw [beq_eq_false_iff_ne]; intro h
    have h2 := congrArg List.length h
    rw [bts_length, hX2, ByteArray.size_append] at h2
    have := HP.out; have := HS.out; have := HKK.out; have := HP0.out
    omega
  have qx : (L == bts X3) = q := by
    rw [hX3, bts_mk, hq]
    exact set_ne (by have := HS.out; have := HKK.out; omega) x b hx
  have HXX := Lib.hid (show X1.size ≤ 500 ∧ X2.size ≤ 500 ∧ X3.size ≤ 500 by
    have := HP.out; have := HS.out; have := HKK.out; have := HK1.out; have := HP0.out
    refine ⟨by rw [hX1, ByteArray.size_append]; omega, by rw [hX2, ByteArray.size_append]; omega, by rw [← bts_length, hX3, bts_mk, List.length_set]; omega⟩)
  have e8 : (ib b == 0) = q := hq.symm
  have KL := Lib.hid (show ∀ W, LB W g (L.set k (x ^^^ b)) → (convert 22 9 (.slice (some ⟨g, 0, none⟩) 64 cc)).run Tryd.prog W = .ok (.string X3) W from fun W h => by
    have := h.text 0 64 cc (by rw [List.length_set]; have := HS.out; omega)
    rw [List.drop_zero, List.take_of_length_le (by rw [List.length_set]; have := HS.out; omega), ← hX3] at this
    exact this)
  rw [← hX1, ← hX2]
  clear hx hq hX1 hX2 hX3 HKK HK1 i0 i1 i2 i3 i4 i5 i6 e4 hcc'
  go_wp2_with (first
    | (go_at_call 18; (with_reducible refine (KC.out _ X1 B0.out HXX.out.1).mono ?_); rintro e w9 ⟨rfl, q9⟩; rw [ql]; clear y0 y1 y2 ql; have BX := Lib.hid (BX.out.on q9); have HL := Lib.hid (And.intro (HL.out.1.on q9) HL.out.2); have B0 := Lib.hid (B0.out.trans (q9.mono B0.out.size)); have y0 := BX.out.1; have y1 := BX.out.2.1; have y2 := BX.out.2.2.1; clear q9)
    | (go_at_call 18; (with_reducible refine (KC.out _ X2 B0.out HXX.out.2.1).mono ?_); rintro e w10 ⟨rfl, q9⟩; rw [qm]; clear y0 y1 y2 qm; have BX := Lib.hid (BX.out.on q9); have HL := Lib.hid (And.intro (HL.out.1.on q9) HL.out.2); have B0 := Lib.hid (B0.out.trans (q9.mono B0.out.size)); have y0 := BX.out.1; have y1 := BX.out.2.1; have y2 := BX.out.2.2.1; have htx := KL.out _ HL.out.1; clear q9)
    | (go_at_call 18; (with_reducible refine (KC.out _ X3 B0.out HXX.out.2.2).mono ?_); rintro e w11 ⟨rfl, q9⟩; rw [qx]; clear y0 y1 y2 qx htx; have B0 := Lib.hid (B0.out.trans (q9.mono B0.out.size)); clear q9))
  go_ret
  exact ⟨rfl, B0.out⟩
end Go.Proofs.YtjlmhpokamdkhaaDoor
