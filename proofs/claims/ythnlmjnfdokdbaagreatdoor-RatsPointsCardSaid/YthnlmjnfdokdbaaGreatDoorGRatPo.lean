/- Fractions: what any text is read as: the program's Parse, of any text. -/
import Derived.Test.YthnlmjnfdokdbaaGreatDoorGRatPs
import Derived.Test.YthnlmjnfdokdbaaGreatDoorGRatPm
set_option linter.unusedSimpArgs false
set_option linter.unusedVariables false
namespace Go.Proofs.YthnlmjnfdokdbaaGreatDoor
open Go Go.Proofs Go.RowKit Go.Shelf Nu

attribute [local go_sem] Oper.semAt_some

theorem zeros_size (n : Nat) : (zeros n).size = n := by
  unfold zeros
  show (Lib.repeatL [48] n).toArray.size = n
  rw [List.size_toArray, Lib.repeatL_length]; simp
theorem rep_any (c : Nat) (w : World) (hc : c ≤ 1000000) : Calls Tryz.prog 217 #[.string ⟨#[48]⟩, .int .i64 (c : Int)] w fun e w' => e = .returned (.string (zeros c)) ∧ Below w.heap.size w w' :=
  Any.strings_Repeat YthnlmjnfdokdbaaGreatDoor.repL bextra ⟨#[48]⟩ c w (by omega) (by rw [show (⟨#[48]⟩ : ByteArray).size = 1 from rfl]; omega)
theorem nparse_any (s : ByteArray) (hs : s.size ≤ 2000000) : ∃ E : Int, ((isNum s ∧ s.size ≤ 200 ∧ E = 0) ∨ (isNum s ∧ 200 < s.size ∧ E = 3) ∨ (¬ isNum s ∧ E = 4)) ∧
    ∀ W, Calls Tryz.prog 121 #[.string s] W fun e w' => ∃ a n c, e = .returned (.tuple #[.slice a n c, .int .i64 E]) ∧ Below W.heap.size W w' := by
  by_cases h : isNum s
  · by_cases hl : s.size ≤ 200
    · refine ⟨0, .inl ⟨h, hl, rfl⟩, fun W => (parse_ok s W h hl).mono ?_⟩
      rintro e w' ⟨v, rfl, f, hb⟩
      obtain ⟨a, c, rfl⟩ := f.reads.form
      exact ⟨a, _, c, rfl, hb⟩
    · refine ⟨3, .inr (.inl ⟨h, by omega, rfl⟩), fun W => (parse_limit s W hs h (by omega)).mono ?_⟩
      rintro e w' ⟨rfl, hb⟩
      exact ⟨none, 0, 0, rfl, hb⟩
  · refine ⟨4, .inr (.inr ⟨h, rfl⟩), fun W => (parse_form s W hs h).mono ?_⟩
    rintro e w' ⟨rfl, hb⟩
    exact ⟨none, 0, 0, rfl, hb⟩
theorem ptrim_size (l : List UInt8) : (ptrim l).size ≤ l.length + 1 := by
  unfold ptrim
  split
  · exact Nat.le_add_left 1 _
  · show (Lib.trimLeftB l 48).toArray.size ≤ _
    rw [List.size_toArray]
    exact Nat.le_succ_of_le (List.dropWhile_suffix _).length_le
theorem ppt_size (a b : ByteArray) : (ppt a b).1.size ≤ a.size + b.size + 1 ∧ (ppt a b).2.size ≤ b.size + 1 := by
  unfold ppt
  split
  · have h := ptrim_size (a ++ b).data.toList
    rw [data_app, List.length_append, ← size_list, ← size_list] at h
    refine ⟨by rw [data_app]; exact h, ?_⟩
    show (⟨#[49]⟩ ++ zeros b.size : ByteArray).size ≤ _
    rw [ByteArray.size_append, zeros_size]
    exact Nat.le_of_eq (Nat.add_comm _ _)
  · exact ⟨Nat.zero_le _, Nat.le_add_left 1 _⟩
theorem psplit_size (s : ByteArray) : (psplit s).1.size ≤ 2 * s.size + 1 ∧ (psplit s).2.size ≤ s.size + 1 := by
  have hx : ∀ i j, (s.extract i j).size ≤ s.size := fun i j => by rw [ByteArray.size_extract]; omega
  unfold psplit
  split
  · split
    · exact ⟨by show s.size ≤ _; omega, Nat.le_add_left 1 _⟩
    · have h := ppt_size (s.extract 0 (Lib.indexByte s.data.toList 46).toNat) (s.extract ((Lib.indexByte s.data.toList 46).toNat + 1) s.size)
      have h1 := hx 0 (Lib.indexByte s.data.toList 46).toNat
      have h2 := hx ((Lib.indexByte s.data.toList 46).toNat + 1) s.size
      omega
  · exact ⟨Nat.le_trans (hx _ _) (by omega), Nat.le_trans (hx _ _) (by omega)⟩
theorem prest_size (s : ByteArray) : (prest s).size ≤ s.size := by
  unfold prest Lib.trimPrefix
  show (if _ then _ else _ : List UInt8).toArray.size ≤ _
  rw [List.size_toArray]
  split
  · rw [List.length_drop, ← size_list]; omega
  · rw [← size_list]; omega
theorem ap_any (a b : ByteArray) (w : World) (ha : a.size ≤ 500000) (hb : b.size ≤ 500000) :
    Calls Tryz.prog 186 #[.string a, .string b] w fun e w' => e = .returned (.tuple #[.string (ppt a b).1, .string (ppt a b).2]) ∧ Below w.heap.size w w' := by
  obtain ⟨E, hE, k⟩ := nparse_any a (by omega)
  unfold ppt
  by_cases h1 : isNum a
  · have hE4 : (E == 4) = false := by
      rcases hE with h | h | h
      · rw [h.2.2]; rfl
      · rw [h.2.2]; rfl
      · exact absurd h1 h.1
    by_cases h2 : b.size = 0
    · rw [if_neg (fun h => h.2 h2)]
      obtain rfl := no_bytesR b h2
      exact ap_empty hE4 k
    · rw [if_pos ⟨h1, h2⟩]
      have s1 : ∀ W : World, (Op.stringOp .add a b).run Tryz.prog W = .ok (.string (a ++ b)) W := fun W => run_string_add_sum W _ _ (by omega)
      have s2 : ∀ W : World, (Op.stringOp .add ⟨#[49]⟩ (zeros b.size)).run Tryz.prog W = .ok (.string (⟨#[49]⟩ ++ zeros b.size)) W := fun W => run_string_add_sum W _ _ (by rw [zeros_size, show (⟨#[49]⟩ : ByteArray).size = 1 from rfl]; omega)
      unfold ptrim
      by_cases h3 : Lib.trimLeftB (a ++ b).data.toList 48 = []
      · rw [if_pos h3]
        exact ap_zero hE4 h2 s1 s2 k (fun W => trim_lit _ _ W h3) (fun W => rep_any _ W (by omega))
      · rw [if_neg h3]
        exact ap_some hE4 h2 (fun e => h3 (by
          have e : (Lib.trimLeftB (a ++ b).data.toList 48).toArray.size = 0 := e
          rw [List.size_toArray] at e
          exact List.eq_nil_of_length_eq_zero e)) s1 s2 k (fun W => trim_lit _ _ W rfl) (fun W => rep_any _ W (by omega))
  · rw [if_neg (fun h => h1 h.1)]
    have : E = 4 := by
      rcases hE with h | h | h
      · exact absurd h.1 h1
      · exact absurd h.1 h1
      · exact h.2
    subst this
    exact ap_form k
theorem psplit_any (s : ByteArray) (w : World) (hs : s.size ≤ 400000) :
    Calls Tryz.prog 120 #[.string s] w fun e w' => e = .returned (.tuple #[.string (psplit s).1, .string (psplit s).2]) ∧ Below w.heap.size w w' := by
  have hx : ∀ i j, (s.extract i j).size ≤ s.size := fun i j => by rw [ByteArray.size_extract]; omega
  unfold psplit
  by_cases h47 : Lib.indexByte s.data.toList 47 = -1
  · rw [if_pos h47]
    have k1 := fun W => miss_lit s 47 W h47
    by_cases h46 : Lib.indexByte s.data.toList 46 = -1
    · rw [if_pos h46]
      exact sp_none k1 (fun W => miss_lit s 46 W h46)
    · rw [if_neg h46]
      obtain ⟨i, hi, hl⟩ := ix_lt h46
      rw [hi]
      simp only [Int.toNat_natCast]
      rw [← size_list] at hl
      exact sp_pt k1 (fun W => hit_lit s _ _ 46 i W hi hl (by omega) rfl rfl) (fun W => ap_any _ _ W (Nat.le_trans (hx _ _) (by omega)) (Nat.le_trans (hx _ _) (by omega)))
  · rw [if_neg h47]
    obtain ⟨i, hi, hl⟩ := ix_lt h47
    rw [hi]
    simp only [Int.toNat_natCast]
    rw [← size_list] at hl
    exact sp_up (fun W => hit_lit s _ _ 47 i W hi hl (by omega) rfl rfl)
theorem parse_err (s : ByteArray) (hs : s.size ≤ 200000) {E : Int} {Z : Rat} (h : pout s = (E, Z)) (h0 : E ≠ 0) (w : World) :
    Calls Tryz.prog 34 #[.string s] w fun e w' => e = .returned (.tuple #[.agg #[.bool false, .slice none 0 0, .slice none 0 0], .int .i64 E]) ∧ Below w.heap.size w w' := by
  have h9 := prest_size s
  have hk : ∀ W, Calls Tryz.prog 119 #[.string s, .string ⟨#[45]⟩] W fun e w' => e = .returned (.tuple #[.string (prest s), .bool (pneg s)]) ∧ w' = W := fun W => cut_any s W
  have hp := fun W => psplit_any (prest s) W (by omega)
  have hz := psplit_size (prest s)
  unfold pout at h
  revert h hk
  generalize pneg s = neg
  revert hp hz
  generalize psplit (prest s) = pq
  obtain ⟨num, den⟩ := pq
  intro hp hz h hk
  simp only at hp hz h
  obtain ⟨E1, c1, k1⟩ := nparse_any num (by omega)
  obtain ⟨E2, c2, k2⟩ := nparse_any den (by omega)
  unfold pres at h
  by_cases i1 : isNum num
  · have e1 : (E1 == 4) = false := by
      rcases c1 with h | h | h
      · rw [h.2.2]; rfl
      · rw [h.2.2]; rfl
      · exact absurd i1 h.1
    by_cases i2 : isNum den
    · have e2 : (E2 == 4) = false := by
        rcases c2 with h | h | h
        · rw [h.2.2]; rfl
        · rw [h.2.2]; rfl
        · exact absurd i2 h.1
      by_cases i3 : den = ⟨#[48]⟩
      · rw [if_neg (fun h => h.2.2.1 i3)] at h
        obtain rfl : 4 = E := congrArg Prod.fst h
        subst i3
        exact ps_f3 e1 e2 hk hp k1 k2
      · by_cases i4 : neg = false ∨ num ≠ ⟨#[48]⟩
        · rw [if_pos ⟨i1, i2, i3, i4⟩] at h
          by_cases i5 : num.size ≤ 200 ∧ den.size ≤ 200
          · rw [if_pos i5] at h
            exact absurd (congrArg Prod.fst h).symm h0
          · rw [if_neg i5] at h
            obtain rfl : 3 = E := congrArg Prod.fst h
            rcases c1 with c | c | c
            · obtain ⟨_, c, rfl⟩ := c
              have e3 : (E2 != 0) = true := by
                rcases c2 with d | d | d
                · exact absurd ⟨c, d.2.1⟩ i5
                · rw [d.2.2]; rfl
                · rw [d.2]; rfl
              cases neg with
              | false => exact ps_l2p e2 e3 i3 hk hp k1 k2
              | true => exact ps_l2n e2 e3 i3 (by rcases i4 with e | e; cases e; exact e) hk hp k1 k2
            · obtain ⟨_, c, rfl⟩ := c
              cases neg with
              | false => exact ps_l1p e1 e2 (by rfl) i3 hk hp k1 k2
              | true => exact ps_l1n e1 e2 (by rfl) i3 (by rcases i4 with e | e; cases e; exact e) hk hp k1 k2
            · exact absurd i1 c.1
        · rw [if_neg (fun h => i4 h.2.2.2)] at h
          obtain rfl : 4 = E := congrArg Prod.fst h
          obtain rfl : neg = true := by cases neg; exact absurd (.inl rfl) i4; rfl
          obtain rfl : num = ⟨#[48]⟩ := Classical.byContradiction fun e => i4 (.inr e)
          exact ps_f4 e1 e2 i3 hk hp k1 k2
    · rw [if_neg (fun h => i2 h.2.1)] at h
      obtain rfl : 4 = E := congrArg Prod.fst h
      have : E2 = 4 := by
        rcases c2 with h | h | h
        · exact absurd h.1 i2
        · exact absurd h.1 i2
        · exact h.2
      subst this
      exact ps_f2 e1 hk hp k1 k2
  · rw [if_neg (fun h => i1 h.1)] at h
    obtain rfl : 4 = E := congrArg Prod.fst h
    have : E1 = 4 := by
      rcases c1 with h | h | h
      · exact absurd h.1 i1
      · exact absurd h.1 i1
      · exact h.2
    subst this
    exact ps_f1 hk hp k1 k2
theorem parse_val (s : ByteArray) (hs : s.size ≤ 200000) {Z : Rat} (h : pout s = (0, Z)) {s' : Bool} {LZ DZ : List Nat} (kZ : RCan s' LZ DZ Z) (w : World) :
    Calls Tryz.prog 34 #[.string s] w fun e w' => ∃ a c a' c', e = .returned (.tuple #[.agg #[.bool s', .slice a LZ.length c, .slice a' DZ.length c'], .int .i64 0]) ∧ Reads w' (.slice a LZ.length c) LZ ∧ Reads w' (.slice a' DZ.length c') DZ ∧ Below w.heap.size w w' := by
  have h9 := prest_size s
  have hk : ∀ W, Calls Tryz.prog 119 #[.string s, .string ⟨#[45]⟩] W fun e w' => e = .returned (.tuple #[.string (prest s), .bool (pneg s)]) ∧ w' = W := fun W => cut_any s W
  have hp := fun W => psplit_any (prest s) W (by omega)
  have hz := psplit_size (prest s)
  unfold pout at h
  revert h hk
  generalize pneg s = neg
  revert hp hz
  generalize psplit (prest s) = pq
  obtain ⟨num, den⟩ := pq
  intro hp hz h hk
  simp only at hp hz h
  unfold pres at h
  by_cases h1 : isNum num ∧ isNum den ∧ den ≠ ⟨#[48]⟩ ∧ (neg = false ∨ num ≠ ⟨#[48]⟩)
  · rw [if_pos h1] at h
    by_cases h2 : num.size ≤ 200 ∧ den.size ≤ 200
    · rw [if_pos h2] at h
      have eZ := (congrArg Prod.snd h).symm
      simp only at eZ
      have n1 := fun W => p_lit num (numv num num.size) W h1.1 h2.1 rfl
      have n2 := fun W => p_lit den (numv den den.size) W h1.2.1 h2.2 rfl
      have d0 : numv den den.size ≠ 0 := fun e => h1.2.2.1 ((num_zero h1.2.1).1 e)
      have b1 := numv_len num num.size (fun j hj => (h1.1.1 j hj).2)
      have b2 := numv_len den den.size (fun j hj => (h1.2.1.1 j hj).2)
      cases neg with
      | false => exact ps_okp kZ (by simpa using eZ) (Nat.pos_of_ne_zero d0) (by omega) (by omega) h1.2.2.1 hk hp n1 n2
      | true =>
        have hn : num ≠ ⟨#[48]⟩ := by rcases h1.2.2.2 with e | e; cases e; exact e
        have n0 : numv num num.size ≠ 0 := fun e => hn ((num_zero h1.1).1 e)
        exact ps_okn kZ (by simpa using eZ) (Nat.pos_of_ne_zero d0) (by omega) (by omega) h1.2.2.1 (Nat.pos_of_ne_zero n0) hn hk hp n1 n2
    · rw [if_neg h2] at h; cases h
  · rw [if_neg h1] at h; cases h

end Go.Proofs.YthnlmjnfdokdbaaGreatDoor
