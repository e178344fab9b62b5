/- Fractions: what any text is read as: the program's Parse, an answer of the call's own. -/
import Derived.Test.YtimdinmhphihkaaGreatDoorGRmk
import Derived.Test.YtimdinmhphihkaaGreatDoorGRmk
set_option linter.unusedSimpArgs false
set_option linter.unusedVariables false
namespace Go.Proofs.YtimdinmhphihkaaGreatDoor
open Go Go.Proofs Go.RowKit Go.Shelf Nu

attribute [local go_sem] Oper.semAt_some

section
variable {w : World} {s rest num den : ByteArray}
set_option maxRecDepth 100000 in
set_option maxHeartbeats 2000000 in
theorem ps_okp_own {s' : Bool} {LZ DZ : List Nat} {N D : Nat} {Z : Rat} (kZ : RCan s' LZ DZ Z) (eZ : Z = (((N : Nat) : Int) : Rat) / (((D : Nat) : Int) : Rat)) (D0 : 0 < D) (l1 : (digs N).length ≤ 10000) (l2 : (digs D).length ≤ 10000) (hd : den ≠ ⟨#[48]⟩)
    (hk : ∀ W, Calls Tryz.prog 45 #[.string s, .string ⟨#[45]⟩] W fun e w' => e = .returned (.tuple #[.string rest, .bool false]) ∧ w' = W)
    (hs : ∀ W, Calls Tryz.prog 46 #[.string rest] W fun e w' => e = .returned (.tuple #[.string num, .string den]) ∧ Below W.heap.size W w')
    (k1 : ∀ W, Calls Tryz.prog 47 #[.string num] W fun e w' => ∃ a c, e = .returned (.tuple #[.slice a (digs N).length c, .int .i64 0]) ∧ Reads w' (.slice a (digs N).length c) (digs N) ∧ Below W.heap.size W w')
    (k2 : ∀ W, Calls Tryz.prog 47 #[.string den] W fun e w' => ∃ a c, e = .returned (.tuple #[.slice a (digs D).length c, .int .i64 0]) ∧ Reads w' (.slice a (digs D).length c) (digs D) ∧ Below W.heap.size W w') :
    Calls Tryz.prog 9 #[.string s] w fun e w' => ∃ a c a' c', e = .returned (.tuple #[.agg #[.bool s', .slice a LZ.length c, .slice a' DZ.length c'], .int .i64 0]) ∧ Fresh w' w.heap.size (.slice a LZ.length c) LZ ∧ Fresh w' w.heap.size (.slice a' DZ.length c') DZ ∧ Below w.heap.size w w' ∧ Two (.slice a LZ.length c) (.slice a' DZ.length c') := by
  obtain ⟨d1, d2, d3⟩ := not_nought hd
  obtain ⟨Ln, hLn⟩ : ∃ L, L = digs N := ⟨_, rfl⟩
  obtain ⟨Ld, hLd⟩ : ∃ L, L = digs D := ⟨_, rfl⟩
  rw [← hLn] at k1 l1
  rw [← hLd] at k2 l2
  have cn : Can false Ln ((N : Nat)) := ⟨by simp, by rw [hLn]; simp⟩
  have cd : Can false Ld ((D : Nat) : Int) := ⟨by simp, by rw [hLd]; simp⟩
  have K5 := Lib.hid (fun (W : World) {a b : Option Addr} {c d : Nat} (g1 : Reads W (.slice a Ln.length c) Ln) (g2 : Reads W (.slice b Ld.length d) Ld) => r_make_pos_own cn cd (by omega) kZ eZ (by omega) (by omega) g1 g2)
  have HK := Lib.hid hk
  have HS := Lib.hid hs
  have K1 := Lib.hid k1
  have K2 := Lib.hid k2
  have M : Mem w [(w.heap.size, 27, [.bool false, .slice none 0 0, .slice none 0 0])] [] (w.alloc (.cells #[.bool false, .slice none 0 0, .slice none 0 0] 27)) := (Mem.start w).new _ _
  clear hk hs k1 k2 cn cd l1 l2 hLn hLd kZ eZ D0 hd
  go_enter Tryz.func9, Tryz.ntmps9
  go_wp2_with fail
  refine (HK.out _).mono ?_
  rintro e w0 ⟨rfl, hw⟩
  subst w0
  go_wp2_with fail
  refine (HS.out _).mono ?_
  rintro e w1 ⟨rfl, rr⟩
  have M' := M.up rr; clear M rr; have M := M'; clear M'
  go_wp2_with fail
  refine (K1.out _).mono ?_
  rintro e w2 ⟨a1, c1, rfl, g, rr⟩
  have M' := (M.up rr).add g; clear M rr g; have M := M'; clear M'
  go_wp2_with fail
  refine (K2.out _).mono ?_
  rintro e w3 ⟨a2, c2, rfl, g, rr⟩
  have M' := (M.up rr).add g; clear M rr g; have M := M'; clear M'
  go_wp2_with fail
  refine (K5.out _ (M.get 1 rfl) (M.get 0 rfl)).mono ?_
  rintro e w5 ⟨a, c, a', c', rfl, g, g', rr, tw⟩
  have M' := (MemO.of M).upadd2 rr g g' tw; clear M rr g g' tw; have M := M'; clear M'
  have z0 := M.cell 0 rfl 0 rfl; have z1 := M.cell 0 rfl 1 rfl; have z2 := M.cell 0 rfl 2 rfl; have f0 := M.fr 0 rfl 0; have f1 := M.fr 0 rfl 1; have f2 := M.fr 0 rfl 2
  go_wp2_with fail
  have M' := ((M.put 0 rfl rfl 0 (.bool s')).put 0 rfl rfl 1 (.slice a LZ.length c)).put 0 rfl rfl 2 (.slice a' DZ.length c')
  refine ret_boxN_tmp rfl rfl rfl (M'.box 0 rfl) Tryz.underlying27 size_rat rfl ?_
  exact ⟨a, c, a', c', rfl, M'.own 1 rfl, M'.own 0 rfl, M'.below, (M'.two 0 1 rfl rfl).symm⟩
set_option maxRecDepth 100000 in
set_option maxHeartbeats 2000000 in
theorem ps_okn_own {s' : Bool} {LZ DZ : List Nat} {N D : Nat} {Z : Rat} (kZ : RCan s' LZ DZ Z) (eZ : Z = ((-(N : Int) : Int) : Rat) / (((D : Nat) : Int) : Rat)) (D0 : 0 < D) (l1 : (digs N).length ≤ 10000) (l2 : (digs D).length ≤ 10000) (hd : den ≠ ⟨#[48]⟩) (N0 : 0 < N) (hn : num ≠ ⟨#[48]⟩)
    (hk : ∀ W, Calls Tryz.prog 45 #[.string s, .string ⟨#[45]⟩] W fun e w' => e = .returned (.tuple #[.string rest, .bool true]) ∧ w' = W)
    (hs : ∀ W, Calls Tryz.prog 46 #[.string rest] W fun e w' => e = .returned (.tuple #[.string num, .string den]) ∧ Below W.heap.size W w')
    (k1 : ∀ W, Calls Tryz.prog 47 #[.string num] W fun e w' => ∃ a c, e = .returned (.tuple #[.slice a (digs N).length c, .int .i64 0]) ∧ Reads w' (.slice a (digs N).length c) (digs N) ∧ Below W.heap.size W w')
    (k2 : ∀ W, Calls Tryz.prog 47 #[.string den] W fun e w' => ∃ a c, e = .returned (.tuple #[.slice a (digs D).length c, .int .i64 0]) ∧ Reads w' (.slice a (digs D).length c) (digs D) ∧ Below W.heap.size W w') :
    Calls Tryz.prog 9 #[.string s] w fun e w' => ∃ a c a' c', e = .returned (.tuple #[.agg #[.bool s', .slice a LZ.length c, .slice a' DZ.length c'], .int .i64 0]) ∧ Fresh w' w.heap.size (.slice a LZ.length c) LZ ∧ Fresh w' w.heap.size (.slice a' DZ.length c') DZ ∧ Below w.heap.size w w' ∧ Two (.slice a LZ.length c) (.slice a' DZ.length c') := by
  obtain ⟨d1, d2, d3⟩ := not_nought hd
  obtain ⟨n1, n2, n3⟩ := not_nought hn
  obtain ⟨Ln, hLn⟩ : ∃ L, L = digs N := ⟨_, rfl⟩
  obtain ⟨Ld, hLd⟩ : ∃ L, L = digs D := ⟨_, rfl⟩
  rw [← hLn] at k1 l1
  rw [← hLd] at k2 l2
  have cn : Can true Ln (-(N : Int)) := ⟨by simp; omega, by rw [hLn]; simp⟩
  have cd : Can false Ld ((D : Nat) : Int) := ⟨by simp, by rw [hLd]; simp⟩
  have K5 := Lib.hid (fun (W : World) {a b : Option Addr} {c d : Nat} (g1 : Reads W (.slice a Ln.length c) Ln) (g2 : Reads W (.slice b Ld.length d) Ld) => r_make_pos_own cn cd (by omega) kZ eZ (by omega) (by omega) g1 g2)
  have HK := Lib.hid hk
  have HS := Lib.hid hs
  have K1 := Lib.hid k1
  have K2 := Lib.hid k2
  have M : Mem w [(w.heap.size, 27, [.bool false, .slice none 0 0, .slice none 0 0])] [] (w.alloc (.cells #[.bool false, .slice none 0 0, .slice none 0 0] 27)) := (Mem.start w).new _ _
  clear hk hs k1 k2 cn cd l1 l2 hLn hLd kZ eZ D0 hd N0 hn
  go_enter Tryz.func9, Tryz.ntmps9
  go_wp2_with fail
  refine (HK.out _).mono ?_
  rintro e w0 ⟨rfl, hw⟩
  subst w0
  go_wp2_with fail
  refine (HS.out _).mono ?_
  rintro e w1 ⟨rfl, rr⟩
  have M' := M.up rr; clear M rr; have M := M'; clear M'
  go_wp2_with fail
  refine (K1.out _).mono ?_
  rintro e w2 ⟨a1, c1, rfl, g, rr⟩
  have M' := (M.up rr).add g; clear M rr g; have M := M'; clear M'
  go_wp2_with fail
  refine (K2.out _).mono ?_
  rintro e w3 ⟨a2, c2, rfl, g, rr⟩
  have M' := (M.up rr).add g; clear M rr g; have M := M'; clear M'
  go_wp2_with fail
  refine (K5.out _ (M.get 1 rfl) (M.get 0 rfl)).mono ?_
  rintro e w5 ⟨a, c, a', c', rfl, g, g', rr, tw⟩
  have M' := (MemO.of M).upadd2 rr g g' tw; clear M rr g g' tw; have M := M'; clear M'
  have z0 := M.cell 0 rfl 0 rfl; have z1 := M.cell 0 rfl 1 rfl; have z2 := M.cell 0 rfl 2 rfl; have f0 := M.fr 0 rfl 0; have f1 := M.fr 0 rfl 1; have f2 := M.fr 0 rfl 2
  go_wp2_with fail
  have M' := ((M.put 0 rfl rfl 0 (.bool s')).put 0 rfl rfl 1 (.slice a LZ.length c)).put 0 rfl rfl 2 (.slice a' DZ.length c')
  refine ret_boxN_tmp rfl rfl rfl (M'.box 0 rfl) Tryz.underlying27 size_rat rfl ?_
  exact ⟨a, c, a', c', rfl, M'.own 1 rfl, M'.own 0 rfl, M'.below, (M'.two 0 1 rfl rfl).symm⟩
end
theorem parse_val_own (s : ByteArray) (hs : s.size ≤ 200000) {Z : Rat} (h : pout s = (0, Z)) {s' : Bool} {LZ DZ : List Nat} (kZ : RCan s' LZ DZ Z) (w : World) :
    Calls Tryz.prog 9 #[.string s] w fun e w' => ∃ a c a' c', e = .returned (.tuple #[.agg #[.bool s', .slice a LZ.length c, .slice a' DZ.length c'], .int .i64 0]) ∧ Fresh w' w.heap.size (.slice a LZ.length c) LZ ∧ Fresh w' w.heap.size (.slice a' DZ.length c') DZ ∧ Below w.heap.size w w' ∧ Two (.slice a LZ.length c) (.slice a' DZ.length c') := by
  have h9 := prest_size s
  have hk : ∀ W, Calls Tryz.prog 45 #[.string s, .string ⟨#[45]⟩] W fun e w' => e = .returned (.tuple #[.string (prest s), .bool (pneg s)]) ∧ w' = W := fun W => cut_any s W
  have hp := fun W => psplit_any (prest s) W (by omega)
  have hz := psplit_size (prest s)
  unfold pout at h
  revert h hk
  generalize pneg s = neg
  revert hp hz
  generalize psplit (prest s) = pq
  obtain ⟨num, den⟩ := pq
  intro hp hz h hk
  simp only at hp hz h
  unfold pres at h
  by_cases h1 : isNum num ∧ isNum den ∧ den ≠ ⟨#[48]⟩ ∧ (neg = false ∨ num ≠ ⟨#[48]⟩)
  · rw [if_pos h1] at h
    by_cases h2 : num.size ≤ 200 ∧ den.size ≤ 200
    · rw [if_pos h2] at h
      have eZ := (congrArg Prod.snd h).symm
      simp only at eZ
      have n1 := fun W => p_lit num (numv num num.size) W h1.1 h2.1 rfl
      have n2 := fun W => p_lit den (numv den den.size) W h1.2.1 h2.2 rfl
      have d0 : numv den den.size ≠ 0 := fun e => h1.2.2.1 ((num_zero h1.2.1).1 e)
      have b1 := numv_len num num.size (fun j hj => (h1.1.1 j hj).2)
      have b2 := numv_len den den.size (fun j hj => (h1.2.1.1 j hj).2)
      cases neg with
      | false => exact ps_okp_own kZ (by simpa using eZ) (Nat.pos_of_ne_zero d0) (by omega) (by omega) h1.2.2.1 hk hp n1 n2
      | true =>
        have hn : num ≠ ⟨#[48]⟩ := by rcases h1.2.2.2 with e | e; cases e; exact e
        have n0 : numv num num.size ≠ 0 := fun e => hn ((num_zero h1.1).1 e)
        exact ps_okn_own kZ (by simpa using eZ) (Nat.pos_of_ne_zero d0) (by omega) (by omega) h1.2.2.1 (Nat.pos_of_ne_zero n0) hn hk hp n1 n2
    · rw [if_neg h2] at h; cases h
  · rw [if_neg h1] at h; cases h

end Go.Proofs.YtimdinmhphihkaaGreatDoor
