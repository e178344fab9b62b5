/- Sums: the law on the sum of any bytes, with a key, and its text, against the document's. -/
import Derived.Test.YtjlmhpokamdkhaaDoorShTb
import Derived.Test.YtjlmhpokamdkhaaDoorShRt
import Derived.Test.YtjlmhpokamdkhaaDoorShK
import Derived.Test.YtjlmhpokamdkhaaDoorShV
import Derived.Test.YtjlmhpokamdkhaaDoorShTold
namespace Go.Proofs.YtjlmhpokamdkhaaDoor
open Go Go.Proofs Go.RowKit Go.Shelf

attribute [local go_sem] Oper.semAt_some
set_option maxRecDepth 100000
theorem wpOp_intro' {P : Program} {ops : Array Oper} {Q : Exit → Act → World → Prop} {i : Nat} {o : Oper} {K : Act → World → Prop} {a : Act} {w : World} (ho : ops[i]? = some o)
    (h : ∀ K' : Act → World → Prop, (∀ a w, K a w → K' a w) → if Region.wanted o (yielded ops a.tmps) then o.wp P a w K' Q else K' (a.put o.dst undef) w) : wpOp P ops Q i K a w := by
  have := h K (fun _ _ h => h)
  unfold wpOp
  simp only [ho]
  split
  · rename_i hw; simp only [hw, if_true] at this; exact .inl this
  · rename_i hw; simp only [hw] at this; exact this
/-- two rows of 32 bytes stand in u, and what was there stays -/
def Two (u W : World) (g7 g8 : Nat) (CS CK : List Value) : Prop := Below u.heap.size u W ∧ W.rangeAt g7 0 CS ∧ W.rangeAt g8 0 CK ∧ g7 < u.heap.size ∧ g8 < u.heap.size
theorem Two.call {u W W' : World} {g7 g8 : Nat} {CS CK : List Value} (h : Two u W g7 g8 CS CK) (hb : Below W.heap.size W W') : Two u W' g7 g8 CS CK :=
  ⟨h.1.trans (hb.mono h.1.size), range_below h.2.1 (Nat.lt_of_lt_of_le h.2.2.2.1 h.1.size) hb, range_below h.2.2.1 (Nat.lt_of_lt_of_le h.2.2.2.2 h.1.size) hb, h.2.2.2⟩
set_option maxHeartbeats 8000000 in
theorem of_all (l m : List UInt8) (v v' : Value) (w : World) (hR : RdB w v l) (hM : RdB w v' m) (hV : HasV w) :
    Calls Tryd.prog 3 #[v, v'] w fun e w' => e = .returned (.bool true) ∧ Below w.heap.size w w' := by
  obtain ⟨a, cap, rfl, hcap⟩ := hR.form
  obtain ⟨a', cap', rfl, hcap'⟩ := hM.form
  obtain ⟨n1, hn1⟩ : ∃ n, n = l.length := ⟨_, rfl⟩
  obtain ⟨n2, hn2⟩ : ∃ n, n = m.length := ⟨_, rfl⟩
  by_cases h1 : 5000 < l.length
  · have i1 : (5000 : Int) < (n1 : Int) := by omega
    rw [← hn1, ← hn2]
    clear hR hM hV hcap hcap' hn1 hn2 h1
    go_enter Tryd.func3, Tryd.ntmps3
    go_wp2
    go_ret
    exact ⟨rfl, Below.refl _ _⟩
  by_cases h2 : 5000 < m.length
  · have i1 : ¬ (5000 : Int) < (n1 : Int) := by omega
    have i2 : (5000 : Int) < (n2 : Int) := by omega
    rw [← hn1, ← hn2]
    clear hR hM hV hcap hcap' hn1 hn2 h1 h2
    go_enter Tryd.func3, Tryd.ntmps3
    go_wp2
    go_ret
    exact ⟨rfl, Below.refl _ _⟩
  have i1 : ¬ (5000 : Int) < (n1 : Int) := by omega
  have i2 : ¬ (5000 : Int) < (n2 : Int) := by omega
  obtain ⟨CS, hCS⟩ : ∃ C, C = (Sh.sha l).map bv := ⟨_, rfl⟩
  obtain ⟨CK, hCK⟩ : ∃ C, C = (Sh.keyed m l).map bv := ⟨_, rfl⟩
  obtain ⟨T, hT⟩ : ∃ T : ByteArray, T = ⟨(Sh.hex (Sh.sha l)).toArray⟩ := ⟨_, rfl⟩
  obtain ⟨AS, hAS⟩ : ∃ A, A = CS.toArray := ⟨_, rfl⟩
  obtain ⟨AK, hAK⟩ : ∃ A, A = CK.toArray := ⟨_, rfl⟩
  have hb0 := Lib.hid (show l.length ≤ 5000 ∧ m.length ≤ 5000 from ⟨by omega, by omega⟩)
  have HR := Lib.hid (show RdB w (.slice a n1 cap) l by rw [hn1]; exact hR)
  have HM := Lib.hid (show RdB w (.slice a' n2 cap') m by rw [hn2]; exact hM)
  have HV := Lib.hid hV
  have KT1 := Lib.hid (show ∀ W, Below w.heap.size w W → Calls Tryd.prog 7 #[.slice a n1 cap] W fun e w' => ∃ t, e = .returned t ∧ Twin w' t l ∧ Below W.heap.size W w' from fun W hW => twinB_any l _ W (by have := hb0.out; omega) (HR.out.below hW))
  have KT2 := Lib.hid (show ∀ W, Below w.heap.size w W → Calls Tryd.prog 7 #[.slice a' n2 cap'] W fun e w' => ∃ t, e = .returned t ∧ Twin w' t m ∧ Below W.heap.size W w' from fun W hW => twinB_any m _ W (by have := hb0.out; omega) (HM.out.below hW))
  have KS := Lib.hid (show ∀ W t, Below w.heap.size w W → Twin W t l → Calls Tryd.prog 8 #[t] W fun e w' => e = .returned (.agg AS) ∧ Below W.heap.size W w' from fun W t hW h => by rw [hAS, hCS]; exact of_any l t W (by have := hb0.out; omega) h.rdb (HV.out.below hW))
  have KK := Lib.hid (show ∀ W t t', Below w.heap.size w W → Twin W t l → Twin W t' m → Calls Tryd.prog 9 #[t', t] W fun e w' => e = .returned (.agg AK) ∧ Below W.heap.size W w' from fun W t t' hW h h' => by rw [hAK, hCK]; exact keyed_any m l t' t W (by have := hb0.out; omega) (by have := hb0.out; omega) h'.rdb h.rdb (HV.out.below hW))
  have KRO := Lib.hid (show ∀ W, Below w.heap.size w W → Calls Tryd.prog 10 #[.slice a n1 cap] W fun e w' => e = .returned (.agg AS) ∧ Below W.heap.size W w' from fun W hW => by rw [hAS, hCS]; exact rof_any l _ W (by have := hb0.out; omega) (HR.out.below hW))
  have KRK := Lib.hid (show ∀ W, Below w.heap.size w W → Calls Tryd.prog 11 #[.slice a' n2 cap', .slice a n1 cap] W fun e w' => e = .returned (.agg AK) ∧ Below W.heap.size W w' from fun W hW => by rw [hAK, hCK]; exact rkeyed_any m l _ _ W (by have := hb0.out; omega) (by have := hb0.out; omega) (HM.out.below hW) (HR.out.below hW))
  have KX := Lib.hid (show ∀ W, Calls Tryd.prog 12 #[.agg AS] W fun e w' => e = .returned (.string T) ∧ Below W.heap.size W w' from fun W => by rw [hAS, hCS, hT]; exact text_any _ (Sh.length_sha l) W)
  have KRX := Lib.hid (show ∀ W, Calls Tryd.prog 13 #[.agg AS] W fun e w' => e = .returned (.string T) ∧ Below W.heap.size W w' from fun W => by rw [hAS, hCS, hT]; exact rtext_any _ (Sh.length_sha l) W)
  have KL1 := Lib.hid (show ∀ W t, Below w.heap.size w W → Twin W t l → Calls Tryd.prog 14 #[t, .slice a n1 cap] W fun e w' => e = .returned (.bool true) ∧ Below W.heap.size W w' from fun W t hW h => leftB_any l t _ W (by have := hb0.out; omega) h (HR.out.below hW))
  have KL2 := Lib.hid (show ∀ W t, Below w.heap.size w W → Twin W t m → Calls Tryd.prog 14 #[t, .slice a' n2 cap'] W fun e w' => e = .returned (.bool true) ∧ Below W.heap.size W w' from fun W t hW h => leftB_any m t _ W (by have := hb0.out; omega) h (HM.out.below hW))
  have eqS : ∀ W, (Op.equalIn 10000 24 (.agg AS) (.agg AS)).run Tryd.prog W = .ok true W := fun W => by
    rw [hAS, hCS, eq32 _ _ (Sh.length_sha l) (Sh.length_sha l) W]; congr 1; exact beq_self_eq_true _
  have eqK : ∀ W, (Op.equalIn 10000 24 (.agg AK) (.agg AK)).run Tryd.prog W = .ok true W := fun W => by
    rw [hAK, hCK, eq32 _ _ (Sh.length_keyed m l) (Sh.length_keyed m l) W]; congr 1; exact beq_self_eq_true _
  have p1 := Tryd.underlying24
  have pS : (Tryd.prog.info? 24).map (·.size) = some CS.length := by rw [hCS, List.length_map, Sh.length_sha]; exact info_s
  have pK : (Tryd.prog.info? 24).map (·.size) = some CK.length := by rw [hCK, List.length_map, Sh.length_keyed]; exact info_s
  have HAS := Lib.hid (show AS = CS.toArray ∧ AS.size = 32 ∧ AS.all (·.oneCell') = true from ⟨hAS, by rw [hAS, hCS]; simp [Sh.length_sha], by rw [hAS, hCS]; exact one_bv _⟩)
  have HAK := Lib.hid (show AK = CK.toArray ∧ AK.size = 32 ∧ AK.all (·.oneCell') = true from ⟨hAK, by rw [hAK, hCK]; simp [Sh.length_keyed], by rw [hAK, hCK]; exact one_bv _⟩)
  have PS := Lib.hid pS
  have PK := Lib.hid pK
  have EQS := Lib.hid eqS
  have EQK := Lib.hid eqK
  rw [← hn1, ← hn2]
  clear hR hM hV hcap hcap' hn1 hn2 h1 h2 hCS hCK hT hAS hAK pS pK eqS eqK
  go_enter Tryd.func3, Tryd.ntmps3
  go_wp2_with (go_at_call 7; (with_reducible refine (KT1.out _ (Below.refl _ _)).mono ?_); rintro e w1 ⟨t, rfl, qT, q1⟩; have T1 := Lib.hid qT; have b1 := Lib.hid q1; clear qT q1; refine Hid.out ?_)
  refine Lib.hid ?_
  go_wp2_with (go_at_call 7; (with_reducible refine (KT2.out _ b1.out).mono ?_); rintro e w2 ⟨t', rfl, qT, q1⟩; have T2 := Lib.hid qT; have T1 := Lib.hid (T1.out.below q1); have b2 := Lib.hid (b1.out.trans (q1.mono b1.out.size)); clear qT q1; refine Hid.out ?_)
  refine Lib.hid ?_
  clear b1
  go_wp2_with (first
    | (go_at_call 8; (with_reducible refine (KS.out _ _ b2.out T1.out).mono ?_); rintro e w3 ⟨rfl, q3⟩; have b3 := Lib.hid q3; clear q3)
    | (refine wpList_store_row rfl 24 _ _ rfl w3.heap.size AS rfl rfl 24 #[.int .u8 0, .int .u8 0, .int .u8 0, .int .u8 0, .int .u8 0, .int .u8 0, .int .u8 0, .int .u8 0, .int .u8 0, .int .u8 0, .int .u8 0, .int .u8 0, .int .u8 0, .int .u8 0, .int .u8 0, .int .u8 0, .int .u8 0, .int .u8 0, .int .u8 0, .int .u8 0, .int .u8 0, .int .u8 0, .int .u8 0, .int .u8 0, .int .u8 0, .int .u8 0, .int .u8 0, .int .u8 0, .int .u8 0, .int .u8 0, .int .u8 0, .int .u8 0] (heap_n0 w3 _ _) (by rw [HAS.out.2.1]; exact info_s) (by rw [HAS.out.2.1]; rfl) HAS.out.2.2 ?_; rw [World.setRow_alloc_new]; refine Hid.out ?_))
  refine Lib.hid ?_
  obtain ⟨w4, hw4⟩ : ∃ x : World, x = w3.alloc (.cells AS 24) := ⟨_, rfl⟩
  obtain ⟨g7, hg7⟩ : ∃ x : Nat, x = w3.heap.size := ⟨_, rfl⟩
  rw [← hw4, ← hg7]
  have F4 := Lib.hid (show Below w.heap.size w w4 ∧ Twin w4 t l ∧ Twin w4 t' m ∧ w4.rangeAt g7 0 CS ∧ g7 < w4.heap.size by
    have b34 : Below w3.heap.size w3 w4 := by rw [hw4]; exact (Below.refl _ _).alloc (Nat.le_refl _) _
    have b23 := b2.out.trans (b3.out.mono b2.out.size)
    refine ⟨b23.trans (b34.mono b23.size), (T1.out.below b3.out).below b34, (T2.out.below b3.out).below b34, ?_, ?_⟩
    · rw [hw4, hg7, HAS.out.1]; exact (Row.new w3 24 CS).range
    · rw [hw4, hg7]; simp)
  clear hw4 hg7 b3 b2 T1 T2
  go_wp2_with (first
    | (go_at_call 9; (with_reducible refine (KK.out _ _ _ F4.out.1 F4.out.2.1 F4.out.2.2.1).mono ?_); rintro e w5 ⟨rfl, q5⟩; have b5 := Lib.hid q5; clear q5)
    | (refine wpList_store_row rfl 24 _ _ rfl w5.heap.size AK rfl rfl 24 #[.int .u8 0, .int .u8 0, .int .u8 0, .int .u8 0, .int .u8 0, .int .u8 0, .int .u8 0, .int .u8 0, .int .u8 0, .int .u8 0, .int .u8 0, .int .u8 0, .int .u8 0, .int .u8 0, .int .u8 0, .int .u8 0, .int .u8 0, .int .u8 0, .int .u8 0, .int .u8 0, .int .u8 0, .int .u8 0, .int .u8 0, .int .u8 0, .int .u8 0, .int .u8 0, .int .u8 0, .int .u8 0, .int .u8 0, .int .u8 0, .int .u8 0, .int .u8 0] (heap_n0 w5 _ _) (by rw [HAK.out.2.1]; exact info_s) (by rw [HAK.out.2.1]; rfl) HAK.out.2.2 ?_; rw [World.setRow_alloc_new]; refine Hid.out ?_))
  refine Lib.hid ?_
  obtain ⟨u, hu⟩ : ∃ x : World, x = w5.alloc (.cells AK 24) := ⟨_, rfl⟩
  obtain ⟨g8, hg8⟩ : ∃ x : Nat, x = w5.heap.size := ⟨_, rfl⟩
  rw [← hu, ← hg8]
  have FU := Lib.hid (show Below w.heap.size w u ∧ Twin u t l ∧ Twin u t' m by
    have b56 : Below w5.heap.size w5 u := by rw [hu]; exact (Below.refl _ _).alloc (Nat.le_refl _) _
    have b45 := F4.out.1.trans (b5.out.mono F4.out.1.size)
    exact ⟨b45.trans (b56.mono b45.size), (F4.out.2.1.below b5.out).below b56, (F4.out.2.2.1.below b5.out).below b56⟩)
  have F0 := Lib.hid (show Two u u.drew g7 g8 CS CK by
    have b56 : Below w5.heap.size w5 u := by rw [hu]; exact (Below.refl _ _).alloc (Nat.le_refl _) _
    have h5 := Nat.lt_of_lt_of_le F4.out.2.2.2.2 b5.out.size
    refine ⟨(Below.refl _ _).drew, (show u.rangeAt g7 0 CS from range_below (range_below F4.out.2.2.2.1 F4.out.2.2.2.2 b5.out) h5 b56), ?_, Nat.lt_of_lt_of_le h5 b56.size, ?_⟩
    · have : u.rangeAt g8 0 CK := by rw [hu, hg8, HAK.out.1]; exact (Row.new w5 24 CK).range
      exact this
    · rw [hu, hg8]; simp)
  clear hu hg8 b5 F4
  have K2 := Lib.hid (show ∀ W, Two u W g7 g8 CS CK → Calls Tryd.prog 10 #[.slice a n1 cap] W fun e w' => e = .returned (.agg AS) ∧ Two u w' g7 g8 CS CK from fun W hW => (KRO.out W (FU.out.1.trans (hW.1.mono FU.out.1.size))).mono fun _ _ h => ⟨h.1, hW.call h.2⟩)
  have K8 := Lib.hid (show ∀ W, Two u W g7 g8 CS CK → Calls Tryd.prog 11 #[.slice a' n2 cap', .slice a n1 cap] W fun e w' => e = .returned (.agg AK) ∧ Two u w' g7 g8 CS CK from fun W hW => (KRK.out W (FU.out.1.trans (hW.1.mono FU.out.1.size))).mono fun _ _ h => ⟨h.1, hW.call h.2⟩)
  have K13 := Lib.hid (show ∀ W, Two u W g7 g8 CS CK → Calls Tryd.prog 12 #[.agg AS] W fun e w' => e = .returned (.string T) ∧ Two u w' g7 g8 CS CK from fun W hW => (KX.out W).mono fun _ _ h => ⟨h.1, hW.call h.2⟩)
  have K15 := Lib.hid (show ∀ W, Two u W g7 g8 CS CK → Calls Tryd.prog 13 #[.agg AS] W fun e w' => e = .returned (.string T) ∧ Two u w' g7 g8 CS CK from fun W hW => (KRX.out W).mono fun _ _ h => ⟨h.1, hW.call h.2⟩)
  have K21 := Lib.hid (show ∀ W, Two u W g7 g8 CS CK → Calls Tryd.prog 14 #[t, .slice a n1 cap] W fun e w' => e = .returned (.bool true) ∧ Two u w' g7 g8 CS CK from fun W hW => (KL1.out W t (FU.out.1.trans (hW.1.mono FU.out.1.size)) (FU.out.2.1.below hW.1)).mono fun _ _ h => ⟨h.1, hW.call h.2⟩)
  have K26 := Lib.hid (show ∀ W, Two u W g7 g8 CS CK → Calls Tryd.prog 14 #[t', .slice a' n2 cap'] W fun e w' => e = .returned (.bool true) ∧ Two u w' g7 g8 CS CK from fun W hW => (KL2.out W t' (FU.out.1.trans (hW.1.mono FU.out.1.size)) (FU.out.2.2.below hW.1)).mono fun _ _ h => ⟨h.1, hW.call h.2⟩)
  have hTT : (T.toList == T.toList) = true := beq_self_eq_true _
  have eA := HAS.out.1
  have eK := HAK.out.1
  clear KT1 KT2 KS KK KRO KRK KX KRX KL1 KL2 HR HM HV HAS HAK i1 i2 hb0
  subst eA eK
  go_wp2
  refine wp_region_held_drew (S := fun W => W.rangeAt g7 0 CS ∧ W.rangeAt g8 0 CK) (by kernel_rfl) ⟨F0.out.2.1, F0.out.2.2.1⟩ (fun hHeld => ?_)
  refine wpAnyH_take (i := 0) (v := .agg CS.toArray) rfl (by kernel_rfl) (by kernel_rfl) (by kernel_rfl) (fun _ _ _ h => h) (yieldsIf_load_mid (by rfl) _ _ rfl _ _ rfl _ _ (fun _ h => h.1) p1 rfl PS.out) hHeld ?_
  simp only [List.getElem_toArray, List.getElem_cons_zero, Act.put, List.setIfInBounds_toArray, List.set_cons_zero, List.set_cons_succ]
  refine wpAnyH_take (i := 1) (v := .slice a n1 cap) rfl (by kernel_rfl) (by kernel_rfl) (by kernel_rfl) (fun _ _ _ h => h) (Or.inl ⟨by rfl, fun W3 hS => by go_simp⟩) hHeld ?_
  simp only [List.getElem_toArray, List.getElem_cons_succ, List.getElem_cons_zero, Act.put, List.setIfInBounds_toArray, List.set_cons_zero, List.set_cons_succ]
  refine wpAnyH_all (rs := [2]) (by kernel_rfl) (by simp) ?_
  intro i hi
  obtain rfl : i = 2 := by simpa using hi
  refine wpOp_intro' rfl (fun K hK => ?_)
  clear hi
  go_simp
  refine (K2.out _ F0.out).mono ?_
  rintro e x1 ⟨rfl, hx⟩
  have F1 := Lib.hid hx
  refine hK _ _ ⟨⟨hx.2.1, hx.2.2.1⟩, ?_⟩
  have R1 : x1.rangeAt g7 0 CS ∧ x1.rangeAt g8 0 CK := ⟨hx.2.1, hx.2.2.1⟩
  clear hK K hx F0 hHeld
  refine wpAnyH_take (i := 3) (v := .bool true) rfl (by kernel_rfl) (by kernel_rfl) (by kernel_rfl) (fun _ _ _ h => h) (Or.inl ⟨by rfl, fun W3 hS => by go_simp; try rw [EQS.out]; try rfl⟩) R1 ?_
  simp only [List.getElem_toArray, List.getElem_cons_succ, List.getElem_cons_zero, Act.put, List.setIfInBounds_toArray, List.set_cons_zero, List.set_cons_succ]
  refine wpAnyH_take (i := 4) (v := .bool true) rfl (by kernel_rfl) (by kernel_rfl) (by kernel_rfl) (fun _ _ _ h => h) (Or.inl ⟨by rfl, fun W3 hS => by go_simp⟩) R1 ?_
  simp only [List.getElem_toArray, List.getElem_cons_succ, List.getElem_cons_zero, Act.put, List.setIfInBounds_toArray, List.set_cons_zero, List.set_cons_succ]
  refine wpAnyH_take (i := 5) (v := .agg CK.toArray) rfl (by kernel_rfl) (by kernel_rfl) (by kernel_rfl) (fun _ _ _ h => h) (yieldsIf_load_mid (by rfl) _ _ rfl _ _ rfl _ _ (fun _ h => h.2) p1 rfl PK.out) R1 ?_
  simp only [List.getElem_toArray, List.getElem_cons_succ, List.getElem_cons_zero, Act.put, List.setIfInBounds_toArray, List.set_cons_zero, List.set_cons_succ]
  refine wpAnyH_take (i := 6) (v := .slice a' n2 cap') rfl (by kernel_rfl) (by kernel_rfl) (by kernel_rfl) (fun _ _ _ h => h) (Or.inl ⟨by rfl, fun W3 hS => by go_simp⟩) R1 ?_
  simp only [List.getElem_toArray, List.getElem_cons_succ, List.getElem_cons_zero, Act.put, List.setIfInBounds_toArray, List.set_cons_zero, List.set_cons_succ]
  refine wpAnyH_take (i := 7) (v := .slice a n1 cap) rfl (by kernel_rfl) (by kernel_rfl) (by kernel_rfl) (fun _ _ _ h => h) (Or.inl ⟨by rfl, fun W3 hS => by go_simp⟩) R1 ?_
  simp only [List.getElem_toArray, List.getElem_cons_succ, List.getElem_cons_zero, Act.put, List.setIfInBounds_toArray, List.set_cons_zero, List.set_cons_succ]
  refine wpAnyH_all (rs := [8]) (by kernel_rfl) (by simp) ?_
  intro i hi
  obtain rfl : i = 8 := by simpa using hi
  refine wpOp_intro' rfl (fun K hK => ?_)
  clear hi
  go_simp
  refine (K8.out _ F1.out).mono ?_
  rintro e x2 ⟨rfl, hx⟩
  have F2 := Lib.hid hx
  refine hK _ _ ⟨⟨hx.2.1, hx.2.2.1⟩, ?_⟩
  have R2 : x2.rangeAt g7 0 CS ∧ x2.rangeAt g8 0 CK := ⟨hx.2.1, hx.2.2.1⟩
  clear hK K hx F1 R1
  refine wpAnyH_take (i := 9) (v := .bool true) rfl (by kernel_rfl) (by kernel_rfl) (by kernel_rfl) (fun _ _ _ h => h) (Or.inl ⟨by rfl, fun W3 hS => by go_simp; try rw [EQK.out]; try rfl⟩) R2 ?_
  simp only [List.getElem_toArray, List.getElem_cons_succ, List.getElem_cons_zero, Act.put, List.setIfInBounds_toArray, List.set_cons_zero, List.set_cons_succ]
  refine wpAnyH_take (i := 10) (v := .bool true) rfl (by kernel_rfl) (by kernel_rfl) (by kernel_rfl) (fun _ _ _ h => h) (Or.inl ⟨by rfl, fun W3 hS => by go_simp⟩) R2 ?_
  simp only [List.getElem_toArray, List.getElem_cons_succ, List.getElem_cons_zero, Act.put, List.setIfInBounds_toArray, List.set_cons_zero, List.set_cons_succ]
  refine wpAnyH_take (i := 11) (v := .bool true) rfl (by kernel_rfl) (by kernel_rfl) (by kernel_rfl) (fun _ _ _ h => h) (Or.inl ⟨by rfl, fun W3 hS => by go_simp⟩) R2 ?_
  simp only [List.getElem_toArray, List.getElem_cons_succ, List.getElem_cons_zero, Act.put, List.setIfInBounds_toArray, List.set_cons_zero, List.set_cons_succ]
  refine wpAnyH_take (i := 12) (v := .agg CS.toArray) rfl (by kernel_rfl) (by kernel_rfl) (by kernel_rfl) (fun _ _ _ h => h) (yieldsIf_load_mid (by rfl) _ _ rfl _ _ rfl _ _ (fun _ h => h.1) p1 rfl PS.out) R2 ?_
  simp only [List.getElem_toArray, List.getElem_cons_succ, List.getElem_cons_zero, Act.put, List.setIfInBounds_toArray, List.set_cons_zero, List.set_cons_succ]
  refine wpAnyH_take (i := 14) (v := .agg CS.toArray) rfl (by kernel_rfl) (by kernel_rfl) (by kernel_rfl) (fun _ _ _ h => h) (yieldsIf_load_mid (by rfl) _ _ rfl _ _ rfl _ _ (fun _ h => h.1) p1 rfl PS.out) R2 ?_
  simp only [List.getElem_toArray, List.getElem_cons_succ, List.getElem_cons_zero, Act.put, List.setIfInBounds_toArray, List.set_cons_zero, List.set_cons_succ]
  refine wpAnyH_all (rs := [13]) (by kernel_rfl) (by simp) ?_
  intro i hi
  obtain rfl : i = 13 := by simpa using hi
  refine wpOp_intro' rfl (fun K hK => ?_)
  clear hi
  go_simp
  refine (K13.out _ F2.out).mono ?_
  rintro e x3 ⟨rfl, hx⟩
  have F3 := Lib.hid hx
  refine hK _ _ ⟨⟨hx.2.1, hx.2.2.1⟩, ?_⟩
  have R3 : x3.rangeAt g7 0 CS ∧ x3.rangeAt g8 0 CK := ⟨hx.2.1, hx.2.2.1⟩
  clear hK K hx F2 R2
  refine wpAnyH_all (rs := [15]) (by kernel_rfl) (by simp) ?_
  intro i hi
  obtain rfl : i = 15 := by simpa using hi
  refine wpOp_intro' rfl (fun K hK => ?_)
  clear hi
  go_simp
  refine (K15.out _ F3.out).mono ?_
  rintro e x4 ⟨rfl, hx⟩
  have F4 := Lib.hid hx
  refine hK _ _ ⟨⟨hx.2.1, hx.2.2.1⟩, ?_⟩
  have R4 : x4.rangeAt g7 0 CS ∧ x4.rangeAt g8 0 CK := ⟨hx.2.1, hx.2.2.1⟩
  clear hK K hx F3 R3
  refine wpAnyH_take (i := 16) (v := .bool true) rfl (by kernel_rfl) (by kernel_rfl) (by kernel_rfl) (fun _ _ _ h => h) (Or.inl ⟨by rfl, fun W3 hS => by go_simp⟩) R4 ?_
  simp only [List.getElem_toArray, List.getElem_cons_succ, List.getElem_cons_zero, Act.put, List.setIfInBounds_toArray, List.set_cons_zero, List.set_cons_succ]
  refine wpAnyH_take (i := 17) (v := .bool true) rfl (by kernel_rfl) (by kernel_rfl) (by kernel_rfl) (fun _ _ _ h => h) (Or.inl ⟨by rfl, fun W3 hS => by go_simp⟩) R4 ?_
  simp only [List.getElem_toArray, List.getElem_cons_succ, List.getElem_cons_zero, Act.put, List.setIfInBounds_toArray, List.set_cons_zero, List.set_cons_succ]
  refine wpAnyH_take (i := 18) (v := .bool true) rfl (by kernel_rfl) (by kernel_rfl) (by kernel_rfl) (fun _ _ _ h => h) (Or.inl ⟨by rfl, fun W3 hS => by go_simp⟩) R4 ?_
  simp only [List.getElem_toArray, List.getElem_cons_succ, List.getElem_cons_zero, Act.put, List.setIfInBounds_toArray, List.set_cons_zero, List.set_cons_succ]
  refine wpAnyH_take (i := 19) (v := t) rfl (by kernel_rfl) (by kernel_rfl) (by kernel_rfl) (fun _ _ _ h => h) (Or.inl ⟨by rfl, fun W3 hS => by go_simp⟩) R4 ?_
  simp only [List.getElem_toArray, List.getElem_cons_succ, List.getElem_cons_zero, Act.put, List.setIfInBounds_toArray, List.set_cons_zero, List.set_cons_succ]
  refine wpAnyH_take (i := 20) (v := .slice a n1 cap) rfl (by kernel_rfl) (by kernel_rfl) (by kernel_rfl) (fun _ _ _ h => h) (Or.inl ⟨by rfl, fun W3 hS => by go_simp⟩) R4 ?_
  simp only [List.getElem_toArray, List.getElem_cons_succ, List.getElem_cons_zero, Act.put, List.setIfInBounds_toArray, List.set_cons_zero, List.set_cons_succ]
  refine wpAnyH_all (rs := [21]) (by kernel_rfl) (by simp) ?_
  intro i hi
  obtain rfl : i = 21 := by simpa using hi
  refine wpOp_intro' rfl (fun K hK => ?_)
  clear hi
  go_simp
  refine (K21.out _ F4.out).mono ?_
  rintro e x5 ⟨rfl, hx⟩
  have F5 := Lib.hid hx
  refine hK _ _ ⟨⟨hx.2.1, hx.2.2.1⟩, ?_⟩
  have R5 : x5.rangeAt g7 0 CS ∧ x5.rangeAt g8 0 CK := ⟨hx.2.1, hx.2.2.1⟩
  clear hK K hx F4 R4
  refine wpAnyH_take (i := 22) (v := .bool true) rfl (by kernel_rfl) (by kernel_rfl) (by kernel_rfl) (fun _ _ _ h => h) (Or.inl ⟨by rfl, fun W3 hS => by go_simp⟩) R5 ?_
  simp only [List.getElem_toArray, List.getElem_cons_succ, List.getElem_cons_zero, Act.put, List.setIfInBounds_toArray, List.set_cons_zero, List.set_cons_succ]
  refine wpAnyH_take (i := 23) (v := .bool true) rfl (by kernel_rfl) (by kernel_rfl) (by kernel_rfl) (fun _ _ _ h => h) (Or.inl ⟨by rfl, fun W3 hS => by go_simp⟩) R5 ?_
  simp only [List.getElem_toArray, List.getElem_cons_succ, List.getElem_cons_zero, Act.put, List.setIfInBounds_toArray, List.set_cons_zero, List.set_cons_succ]
  refine wpAnyH_take (i := 24) (v := t') rfl (by kernel_rfl) (by kernel_rfl) (by kernel_rfl) (fun _ _ _ h => h) (Or.inl ⟨by rfl, fun W3 hS => by go_simp⟩) R5 ?_
  simp only [List.getElem_toArray, List.getElem_cons_succ, List.getElem_cons_zero, Act.put, List.setIfInBounds_toArray, List.set_cons_zero, List.set_cons_succ]
  refine wpAnyH_take (i := 25) (v := .slice a' n2 cap') rfl (by kernel_rfl) (by kernel_rfl) (by kernel_rfl) (fun _ _ _ h => h) (Or.inl ⟨by rfl, fun W3 hS => by go_simp⟩) R5 ?_
  simp only [List.getElem_toArray, List.getElem_cons_succ, List.getElem_cons_zero, Act.put, List.setIfInBounds_toArray, List.set_cons_zero, List.set_cons_succ]
  refine wpAnyH_all (rs := [26]) (by kernel_rfl) (by simp) ?_
  intro i hi
  obtain rfl : i = 26 := by simpa using hi
  refine wpOp_intro' rfl (fun K hK => ?_)
  clear hi
  go_simp
  refine (K26.out _ F5.out).mono ?_
  rintro e x6 ⟨rfl, hx⟩
  have F6 := Lib.hid hx
  refine hK _ _ ⟨⟨hx.2.1, hx.2.2.1⟩, ?_⟩
  have R6 : x6.rangeAt g7 0 CS ∧ x6.rangeAt g8 0 CK := ⟨hx.2.1, hx.2.2.1⟩
  clear hK K hx F5 R5
  refine wpAnyH_take (i := 27) (v := .bool true) rfl (by kernel_rfl) (by kernel_rfl) (by kernel_rfl) (fun _ _ _ h => h) (Or.inl ⟨by rfl, fun W3 hS => by go_simp⟩) R6 ?_
  simp only [List.getElem_toArray, List.getElem_cons_succ, List.getElem_cons_zero, Act.put, List.setIfInBounds_toArray, List.set_cons_zero, List.set_cons_succ]
  refine wpAnyH_take (i := 28) (v := .bool true) rfl (by kernel_rfl) (by kernel_rfl) (by kernel_rfl) (fun _ _ _ h => h) (Or.inl ⟨by rfl, fun W3 hS => by go_simp⟩) R6 ?_
  simp only [List.getElem_toArray, List.getElem_cons_succ, List.getElem_cons_zero, Act.put, List.setIfInBounds_toArray, List.set_cons_zero, List.set_cons_succ]
  refine wpAnyH_done (by kernel_rfl) ?_ _
  go_wp2
  go_ret
  exact ⟨rfl, FU.out.1.trans (F6.out.1.mono FU.out.1.size)⟩
end Go.Proofs.YtjlmhpokamdkhaaDoor
