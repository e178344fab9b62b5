/- IntsRead: all numbers, all texts. -/
import Derived.Test.YtlcbicdendelfaaGIReadI
import Derived.Test.YtlcbicdendelfaaGIReadSp
import Derived.Test.YtlcbicdendelfaaGIReadSm
import Derived.Test.YtlcbicdendelfaaGIReadLp
import Derived.Test.YtlcbicdendelfaaGIReadLm
set_option linter.unusedSimpArgs false
set_option linter.unusedVariables false
namespace Go.Proofs.Ytlcbicdendelfaa
open Go Go.Proofs Go.RowKit Go.Shelf Nu

attribute [local go_sem] Oper.semAt_some

theorem AKnow.can {sC : Bool} {LC : List Nat} {X : Int} {tx : ByteArray} {z : Int} (h : Can sC LC X) (hl : LC.length ≤ 50000) (ht : tx = itxt X) (hz : sgz X 0 = z) : AKnow sC LC tx z true :=
  ⟨fun _ _ _ g => q_text _ h.is ht hl g, fun _ _ _ g => q_sign _ h.is hz hl g, fun _ _ _ g => q_check h hl g⟩
theorem can_neg {M : Nat} (h : 0 < M) : Can true (digs M) (-(M : Int)) := ⟨by simp; omega, by rw [Int.natAbs_neg, Int.natAbs_natCast]⟩
theorem can_pos (M : Nat) : Can false (digs M) (M : Int) := ⟨by simp, by rw [Int.natAbs_natCast]⟩
theorem sgz_neg1 {M : Nat} (h : 0 < M) : sgz (-(M : Int)) 0 = -1 := by simp only [sgz]; split <;> (try split) <;> omega
theorem sgz_pos1 {M : Nat} (h : 0 < M) : sgz (M : Int) 0 = 1 := by simp only [sgz]; split <;> (try split) <;> omega
theorem itxt_neg {M : Nat} (h : 0 < M) : itxt (-(M : Int)) = ⟨#[45]⟩ ++ txt M := by
  unfold itxt
  rw [if_pos (by omega), Int.natAbs_neg, Int.natAbs_natCast]
theorem itxt_nat (M : Nat) : itxt (M : Int) = txt M := by
  unfold itxt
  rw [if_neg (by omega), Int.natAbs_natCast]
theorem hyph_first (d : ByteArray) : bt (⟨#[45]⟩ ++ d) 0 = 45 := by
  unfold bt
  rw [ByteArray.data_append]
  simp
theorem hyph_no_num (d : ByteArray) : ¬ isNum (⟨#[45]⟩ ++ d) := fun h => by
  have h1 := (h.1 0 (by rw [hyph_size]; omega)).1
  rw [hyph_first] at h1
  omega

/-- what is known of the text that is read -/
def SKnow (s : ByteArray) : Prop :=
  INo s 3 ∨ INo s 4 ∨ (∃ (sC : Bool) (LC : List Nat) (zC : Int), IYes s sC LC ∧ AKnow sC LC s zC true ∧ zC ≤ 0 ∧ INo (⟨#[45]⟩ ++ s) 4) ∨
    ∃ (sC : Bool) (LC : List Nat) (zC : Int) (sD sN : Bool) (LD LN : List Nat), IYes s sC LC ∧ AKnow sC LC s zC true ∧ 0 < zC ∧ IYes (⟨#[45]⟩ ++ s) sD LD ∧ ANeg sC LC sN LN ∧ ASame sD LD sN LN
theorem sknow (s : ByteArray) (hs : s.size ≤ 1048576) : SKnow s := by
  by_cases hh : 0 < s.size ∧ bt s 0 = 45
  · obtain ⟨d, rfl⟩ := hyph_split hh.1 hh.2
    have hd : d.size ≤ 2000000 := by rw [hyph_size] at hs; omega
    by_cases n1 : isNum d
    · by_cases n2 : d.size ≤ 200
      · rcases Nat.eq_zero_or_pos (numv d d.size) with e0 | e0
        · exact .inr (.inl (hyph_zero n1 n2 e0))
        · have hl : (digs (numv d d.size)).length ≤ 200 := Nat.le_trans (numv_len d d.size fun j hj => (n1.1 j hj).2) n2
          refine .inr (.inr (.inl ⟨true, digs (numv d d.size), -1, hyph_ok n1 n2 e0, .can (can_neg e0) (by omega) ?_ (sgz_neg1 e0), by omega, hyph_form (by omega) (hyph_no_num d)⟩))
          rw [itxt_neg e0, txt_back n1]
      · exact .inl (hyph_limit hd n1 (by omega))
    · exact .inr (.inl (hyph_form hd n1))
  · have hg : s.size = 0 ∨ bt s 0 ≠ 45 := by
      rcases Nat.eq_zero_or_pos s.size with h | h
      · exact .inl h
      · exact .inr (fun e => hh ⟨h, e⟩)
    by_cases n1 : isNum s
    · by_cases n2 : s.size ≤ 200
      · have hl : (digs (numv s s.size)).length ≤ 200 := Nat.le_trans (numv_len s s.size fun j hj => (n1.1 j hj).2) n2
        rcases Nat.eq_zero_or_pos (numv s s.size) with e0 | e0
        · refine .inr (.inr (.inl ⟨false, digs (numv s s.size), 0, plain_ok hg n1 n2, .can (can_pos _) (by omega) ?_ (by rw [e0]; rfl), Int.le_refl _, hyph_zero n1 n2 e0⟩))
          rw [itxt_nat, txt_back n1]
        · refine .inr (.inr (.inr ⟨false, digs (numv s s.size), 1, true, true, digs (numv s s.size), digs (numv s s.size), plain_ok hg n1 n2, .can (can_pos _) (by omega) ?_ (sgz_pos1 e0), by decide, hyph_ok n1 n2 e0, ?_, .of rfl rfl (by omega)⟩))
          · rw [itxt_nat, txt_back n1]
          · intro W a c g
            exact q_neg (can_pos _).is (can_neg e0) rfl (by omega) g
      · exact .inl (plain_limit hg (by omega) n1 (by omega))
    · exact .inr (.inl (plain_form hg (by omega) n1))

section
variable {w : World} {n1 : Bool} {a1 : Option Addr} {c1 : Nat} {l1 : List Nat} {s : ByteArray}
theorem iread_I (hR : Reads w (.slice a1 l1.length c1) l1) (hl : l1.length ≤ 200) (hs : s.size ≤ 1048576) {z1 : Int} (KA : AKnow n1 l1 ⟨#[48]⟩ z1 false) (hz : ¬ z1 < 0) :
    Calls Try.prog 3 #[.agg #[.bool n1, .slice a1 l1.length c1], .string s] w fun e w' => e = .returned (.bool true) ∧ Below w.heap.size w w' := by
  have KP := Lib.hid (plain_ok (s := ⟨#[48]⟩) (.inr (by decide)) ⟨by decide, by decide⟩ (by decide))
  rcases sknow s hs with h | h | ⟨sC, LC, zC, h1, h2, h3, h4⟩ | ⟨sC, LC, zC, sD, sN, LD, LN, h1, h2, h3, h4, h5, h6⟩
  · exact iread_I_no3 (tx := s) hR hl hs (Lib.hid KA) hz KP (Lib.hid h)
  · exact iread_I_no4 (tx := s) hR hl hs (Lib.hid KA) hz KP (Lib.hid h)
  · exact iread_I_np (tx := s) hR hl hs (Lib.hid KA) hz KP (Lib.hid h1) (Lib.hid h2) h3 (Lib.hid h4)
  · exact iread_I_pos (tx := s) hR hl hs (Lib.hid KA) hz KP (Lib.hid h1) (Lib.hid h2) h3 (Lib.hid h4) (Lib.hid h5) (Lib.hid h6)
theorem iread_Sp (hR : Reads w (.slice a1 l1.length c1) l1) (hl : l1.length ≤ 200) (hs : s.size ≤ 1048576) {z1 : Int} {tx : ByteArray} (KA : AKnow n1 l1 tx z1 true) (hx : tx.size ≤ 3000000) (hz : ¬ z1 < 0) (hd : (tx.size : Int) ≤ 200) {sB : Bool} {LB : List Nat} (KP : IYes tx sB LB) (KM : ASame sB LB n1 l1) :
    Calls Try.prog 3 #[.agg #[.bool n1, .slice a1 l1.length c1], .string s] w fun e w' => e = .returned (.bool true) ∧ Below w.heap.size w w' := by
  rcases sknow s hs with h | h | ⟨sC, LC, zC, h1, h2, h3, h4⟩ | ⟨sC, LC, zC, sD, sN, LD, LN, h1, h2, h3, h4, h5, h6⟩
  · exact iread_Sp_no3 hR hl hs (Lib.hid KA) hx hz hd (Lib.hid KP) (Lib.hid KM) (Lib.hid h)
  · exact iread_Sp_no4 hR hl hs (Lib.hid KA) hx hz hd (Lib.hid KP) (Lib.hid KM) (Lib.hid h)
  · exact iread_Sp_np hR hl hs (Lib.hid KA) hx hz hd (Lib.hid KP) (Lib.hid KM) (Lib.hid h1) (Lib.hid h2) h3 (Lib.hid h4)
  · exact iread_Sp_pos hR hl hs (Lib.hid KA) hx hz hd (Lib.hid KP) (Lib.hid KM) (Lib.hid h1) (Lib.hid h2) h3 (Lib.hid h4) (Lib.hid h5) (Lib.hid h6)
theorem iread_Sm (hR : Reads w (.slice a1 l1.length c1) l1) (hl : l1.length ≤ 200) (hs : s.size ≤ 1048576) {z1 : Int} {tx : ByteArray} (KA : AKnow n1 l1 tx z1 true) (hx : tx.size ≤ 3000000) (hz : z1 < 0) (hd : (tx.size : Int) - 1 ≤ 200) {sB : Bool} {LB : List Nat} (KP : IYes tx sB LB) (KM : ASame sB LB n1 l1) :
    Calls Try.prog 3 #[.agg #[.bool n1, .slice a1 l1.length c1], .string s] w fun e w' => e = .returned (.bool true) ∧ Below w.heap.size w w' := by
  rcases sknow s hs with h | h | ⟨sC, LC, zC, h1, h2, h3, h4⟩ | ⟨sC, LC, zC, sD, sN, LD, LN, h1, h2, h3, h4, h5, h6⟩
  · exact iread_Sm_no3 hR hl hs (Lib.hid KA) hx hz hd (Lib.hid KP) (Lib.hid KM) (Lib.hid h)
  · exact iread_Sm_no4 hR hl hs (Lib.hid KA) hx hz hd (Lib.hid KP) (Lib.hid KM) (Lib.hid h)
  · exact iread_Sm_np hR hl hs (Lib.hid KA) hx hz hd (Lib.hid KP) (Lib.hid KM) (Lib.hid h1) (Lib.hid h2) h3 (Lib.hid h4)
  · exact iread_Sm_pos hR hl hs (Lib.hid KA) hx hz hd (Lib.hid KP) (Lib.hid KM) (Lib.hid h1) (Lib.hid h2) h3 (Lib.hid h4) (Lib.hid h5) (Lib.hid h6)
theorem iread_Lp (hR : Reads w (.slice a1 l1.length c1) l1) (hl : l1.length ≤ 200) (hs : s.size ≤ 1048576) {z1 : Int} {tx : ByteArray} (KA : AKnow n1 l1 tx z1 true) (hx : tx.size ≤ 3000000) (hz : ¬ z1 < 0) (hd : 200 < (tx.size : Int)) (KP : INo tx 3) :
    Calls Try.prog 3 #[.agg #[.bool n1, .slice a1 l1.length c1], .string s] w fun e w' => e = .returned (.bool true) ∧ Below w.heap.size w w' := by
  rcases sknow s hs with h | h | ⟨sC, LC, zC, h1, h2, h3, h4⟩ | ⟨sC, LC, zC, sD, sN, LD, LN, h1, h2, h3, h4, h5, h6⟩
  · exact iread_Lp_no3 hR hl hs (Lib.hid KA) hx hz hd (Lib.hid KP) (Lib.hid h)
  · exact iread_Lp_no4 hR hl hs (Lib.hid KA) hx hz hd (Lib.hid KP) (Lib.hid h)
  · exact iread_Lp_np hR hl hs (Lib.hid KA) hx hz hd (Lib.hid KP) (Lib.hid h1) (Lib.hid h2) h3 (Lib.hid h4)
  · exact iread_Lp_pos hR hl hs (Lib.hid KA) hx hz hd (Lib.hid KP) (Lib.hid h1) (Lib.hid h2) h3 (Lib.hid h4) (Lib.hid h5) (Lib.hid h6)
theorem iread_Lm (hR : Reads w (.slice a1 l1.length c1) l1) (hl : l1.length ≤ 200) (hs : s.size ≤ 1048576) {z1 : Int} {tx : ByteArray} (KA : AKnow n1 l1 tx z1 true) (hx : tx.size ≤ 3000000) (hz : z1 < 0) (hd : 200 < (tx.size : Int) - 1) (KP : INo tx 3) :
    Calls Try.prog 3 #[.agg #[.bool n1, .slice a1 l1.length c1], .string s] w fun e w' => e = .returned (.bool true) ∧ Below w.heap.size w w' := by
  rcases sknow s hs with h | h | ⟨sC, LC, zC, h1, h2, h3, h4⟩ | ⟨sC, LC, zC, sD, sN, LD, LN, h1, h2, h3, h4, h5, h6⟩
  · exact iread_Lm_no3 hR hl hs (Lib.hid KA) hx hz hd (Lib.hid KP) (Lib.hid h)
  · exact iread_Lm_no4 hR hl hs (Lib.hid KA) hx hz hd (Lib.hid KP) (Lib.hid h)
  · exact iread_Lm_np hR hl hs (Lib.hid KA) hx hz hd (Lib.hid KP) (Lib.hid h1) (Lib.hid h2) h3 (Lib.hid h4)
  · exact iread_Lm_pos hR hl hs (Lib.hid KA) hx hz hd (Lib.hid KP) (Lib.hid h1) (Lib.hid h2) h3 (Lib.hid h4) (Lib.hid h5) (Lib.hid h6)

theorem iread_near (hR : Reads w (.slice a1 l1.length c1) l1) (hm : Sm l1) (hl : l1.length ≤ 200) (hs : s.size ≤ 1048576) :
    Calls Try.prog 3 #[.agg #[.bool n1, .slice a1 l1.length c1], .string s] w fun e w' => e = .returned (.bool true) ∧ Below w.heap.size w w' := by
  cases hc : ichk n1 l1 with
  | false =>
    have KA := AKnow.of (n1 := n1) hm hl
    have e0 : zv n1 l1 = 0 := by simp [zv, izN, izL, hc, zz, val]
    rw [e0, hc, show itxt 0 = ⟨#[48]⟩ by rw [show (0 : Int) = ((0 : Nat) : Int) from rfl, itxt_nat, txt_zero]] at KA
    exact iread_I hR hl hs KA (by decide)
  | true =>
    have cX := Can.of hm hc
    obtain ⟨X, hX⟩ : ∃ X, X = zv n1 l1 := ⟨_, rfl⟩
    rw [← hX] at cX
    obtain ⟨e1, e2⟩ := cX
    have cX : Can n1 l1 X := ⟨e1, e2⟩
    obtain ⟨A, hA⟩ : ∃ A, A = X.natAbs := ⟨_, rfl⟩
    have hsz : (txt A).size ≤ 10 * 200 + 1 := by
      have h1 := low_len_val (sm_digs A)
      rw [val_digs, hA, ← e2] at h1
      rw [txt_size, hA]
      omega
    by_cases hx : X < 0
    · have hA0 : 0 < A := by omega
      have eX : X = -(A : Int) := by omega
      have KA : AKnow n1 l1 (⟨#[45]⟩ ++ txt A) (-1) true := .can cX (by omega) (by rw [eX, itxt_neg hA0]) (by rw [eX]; exact sgz_neg1 hA0)
      have hz := hyph_size (txt A)
      by_cases h2 : (txt A).size ≤ 200
      · have k := hyph_ok (txt_num A) h2 (by rw [txt_numv]; exact hA0)
        rw [txt_numv] at k
        exact iread_Sm hR hl hs KA (by omega) (by decide) (by omega) k (.of (by rw [e1]; simp [hx]) (by rw [hA, e2]) (by rw [hA, ← e2]; omega))
      · exact iread_Lm hR hl hs KA (by omega) (by decide) (by omega) (hyph_limit (by omega) (txt_num A) (by omega))
    · have eX : X = (A : Int) := by omega
      have KA : AKnow n1 l1 (txt A) (sgz X 0) true := .can cX (by omega) (by rw [eX, itxt_nat]) rfl
      have hz : ¬ sgz X 0 < 0 := by simp only [sgz]; split <;> (try split) <;> omega
      by_cases h2 : (txt A).size ≤ 200
      · have k := plain_ok (num_no_hyph (txt_num A)) (txt_num A) h2
        rw [txt_numv] at k
        exact iread_Sp hR hl hs KA (by omega) hz (by omega) k (.of (by rw [e1]; simp [hx]) (by rw [hA, e2]) (by rw [hA, ← e2]; omega))
      · exact iread_Lp hR hl hs KA (by omega) hz (by omega) (plain_limit (num_no_hyph (txt_num A)) (by omega) (txt_num A) (by omega))
end

set_option maxRecDepth 100000 in
set_option maxHeartbeats 2000000 in
theorem iread_far {w : World} {n1 : Bool} {a1 : Option Addr} {N c1 : Nat} {s : ByteArray} (h : 200 < N) :
    Calls Try.prog 3 #[.agg #[.bool n1, .slice a1 N c1], .string s] w fun e w' => e = .returned (.bool true) ∧ Below w.heap.size w w' := by
  obtain ⟨u0, hu0⟩ : ∃ u0, u0 = w.alloc (.cells #[.bool n1, .slice a1 N c1] 25) := ⟨_, rfl⟩
  have K0 := Lib.hid (show Box2 u0 w.heap.size 25 (.bool n1) (.slice a1 N c1) by rw [hu0]; exact Box2.new w _ _ _)
  have b0 := Lib.hid (show Below w.heap.size w u0 by rw [hu0]; exact (Below.refl _ _).alloc (Nat.le_refl _) _)
  obtain ⟨B0, hB0⟩ : ∃ b, b = w.heap.size := ⟨_, rfl⟩
  rw [← hB0] at K0
  have hu0' := Lib.hid hu0
  have hB0' := Lib.hid hB0
  have hG := Lib.hid (show true = [(n1, a1, N, c1)].any (fun t => decide (200 < t.2.2.1)) by simp; omega)
  clear hu0 hB0 h
  go_enter Try.func3, Try.ntmps3
  go_wp2_with fail
  try rw [← hu0'.out]
  try rw [← hB0'.out]
  clear hu0' hB0'
  go_at_call 5
  refine (ialive_any _).mono ?_
  rintro e w1 ⟨rfl, r⟩
  replace K0 := Lib.hid (K0.out.below r)
  replace b0 := Lib.hid (then_below b0.out r)
  clear r
  have k0 := K0.out.c0
  have k1 := K0.out.c1
  go_wp2_with fail
  go_at_call 6
  refine (igreat_lit _ [(n1, a1, N, c1)] (vs := #[.bool n1, .slice a1 N c1]) rfl (m := 1) rfl (by simp) true hG.out).mono ?_
  rintro e w2 ⟨rfl, r⟩
  replace b0 := Lib.hid (then_below b0.out r)
  clear r k0 k1
  go_wp2_with fail
  go_at_call 5
  refine (ialive_any _).mono ?_
  rintro e w3 ⟨rfl, r⟩
  replace b0 := Lib.hid (then_below b0.out r)
  clear r
  go_wp2_with fail
  go_ret
  exact ⟨rfl, b0.out⟩
set_option maxRecDepth 100000 in
set_option maxHeartbeats 2000000 in
theorem iread_long {w : World} {n1 : Bool} {a1 : Option Addr} {N c1 : Nat} {s : ByteArray} (h : N ≤ 200) (hs : 1048576 < s.size) (hs2 : s.size < 9223372036854775808) :
    Calls Try.prog 3 #[.agg #[.bool n1, .slice a1 N c1], .string s] w fun e w' => e = .returned (.bool true) ∧ Below w.heap.size w w' := by
  obtain ⟨u0, hu0⟩ : ∃ u0, u0 = w.alloc (.cells #[.bool n1, .slice a1 N c1] 25) := ⟨_, rfl⟩
  have K0 := Lib.hid (show Box2 u0 w.heap.size 25 (.bool n1) (.slice a1 N c1) by rw [hu0]; exact Box2.new w _ _ _)
  have b0 := Lib.hid (show Below w.heap.size w u0 by rw [hu0]; exact (Below.refl _ _).alloc (Nat.le_refl _) _)
  obtain ⟨B0, hB0⟩ : ∃ b, b = w.heap.size := ⟨_, rfl⟩
  rw [← hB0] at K0
  have hu0' := Lib.hid hu0
  have hB0' := Lib.hid hB0
  have hG := Lib.hid (show false = [(n1, a1, N, c1)].any (fun t => decide (200 < t.2.2.1)) by simp; omega)
  have hY := Lib.hid (show true = decide (1048576 < s.size) by simp; omega)
  have HS := Lib.hid hs2
  clear hu0 hB0 h hs hs2
  go_enter Try.func3, Try.ntmps3
  go_wp2_with fail
  try rw [← hu0'.out]
  try rw [← hB0'.out]
  clear hu0' hB0'
  go_at_call 5
  refine (ialive_any _).mono ?_
  rintro e w1 ⟨rfl, r⟩
  replace K0 := Lib.hid (K0.out.below r)
  replace b0 := Lib.hid (then_below b0.out r)
  clear r
  have k0 := K0.out.c0
  have k1 := K0.out.c1
  go_wp2_with fail
  go_at_call 6
  refine (igreat_lit _ [(n1, a1, N, c1)] (vs := #[.bool n1, .slice a1 N c1]) rfl (m := 1) rfl (by simp) false hG.out).mono ?_
  rintro e w2 ⟨rfl, r⟩
  replace b0 := Lib.hid (then_below b0.out r)
  clear r k0 k1
  go_wp2_with fail
  go_at_call 7
  refine (beyond_one _ s.size HS.out true hY.out).mono ?_
  rintro e w3 ⟨rfl, r⟩
  replace b0 := Lib.hid (then_below b0.out r)
  clear r
  go_wp2_with fail
  go_at_call 5
  refine (ialive_any _).mono ?_
  rintro e w4 ⟨rfl, r⟩
  replace b0 := Lib.hid (then_below b0.out r)
  clear r
  go_wp2_with fail
  go_ret
  exact ⟨rfl, b0.out⟩
theorem iread_all {w : World} {n1 : Bool} {a1 : Option Addr} {c1 : Nat} {l1 : List Nat} {s : ByteArray} (hm : Sm l1) (hR : Reads w (.slice a1 l1.length c1) l1) (hs : s.size ≤ maxLen) :
    Calls Try.prog 3 #[.agg #[.bool n1, .slice a1 l1.length c1], .string s] w fun e w' => e = .returned (.bool true) ∧ Below w.heap.size w w' := by
  have hs2 : s.size < 9223372036854775808 := by simp only [maxLen] at hs; omega
  by_cases h : l1.length ≤ 200
  · by_cases h2 : s.size ≤ 1048576
    · exact iread_near hR hm h h2
    · exact iread_long h (by omega) hs2
  · exact iread_far (by omega)

end Go.Proofs.Ytlcbicdendelfaa
