/- Sums: the law on the two rounds of a sum with a key. -/
import Derived.Test.YtnbdohajlemidaaDoorShW
import Derived.Test.YtnbdohajlemidaaDoorShV
namespace Go.Proofs.YtnbdohajlemidaaDoor
open Go Go.Proofs Go.RowKit Go.Shelf

attribute [local go_sem] Oper.semAt_some
set_option maxRecDepth 100000
/-- alive, and no more -/
theorem alive_also (w : World) (hV : HasV w) : ∀ W, Below w.heap.size w W → Calls Tryd.prog 15 #[] W fun e w' => e = .returned (.bool true) ∧ Below w.heap.size w w' := fun W hW =>
  (alive_any W (hV.below hW)).mono fun _ _ h => ⟨h.1, hW.trans (h.2.mono hW.size)⟩
set_option maxHeartbeats 4000000 in
theorem inner_all (l m : List UInt8) (v v' : Value) (w : World) (hR : RdB w v l) (hM : RdB w v' m) (hV : HasV w) :
    Calls Tryd.prog 5 #[v, v'] w fun e w' => e = .returned (.bool true) ∧ Below w.heap.size w w' := by
  have KA := Lib.hid (alive_also w hV)
  have hb := Lib.hid (Below.refl w.heap.size w)
  obtain ⟨a, cap, rfl, hcap⟩ := hR.form
  obtain ⟨a', cap', rfl, hcap'⟩ := hM.form
  obtain ⟨n1, hn1⟩ : ∃ n, n = l.length := ⟨_, rfl⟩
  obtain ⟨n2, hn2⟩ : ∃ n, n = m.length := ⟨_, rfl⟩
  by_cases h1 : 64 < l.length
  · have i1 : (64 : Int) < (n1 : Int) := by omega
    rw [← hn1, ← hn2]
    clear hR hM hV hcap hcap' hn1 hn2 h1
    go_enter Tryd.func5, Tryd.ntmps5
    go_wp2_with (go_at_call 15; (with_reducible refine (KA.out _ hb.out).mono ?_); clear hb; rintro e w3 ⟨rfl, hx⟩; have hb := Lib.hid hx; clear hx)
    go_ret
    exact ⟨rfl, hb.out⟩
  by_cases h2 : 3000 < m.length
  · have i1 : ¬ (64 : Int) < (n1 : Int) := by omega
    have i2 : (3000 : Int) < (n2 : Int) := by omega
    rw [← hn1, ← hn2]
    clear hR hM hV hcap hcap' hn1 hn2 h1 h2
    go_enter Tryd.func5, Tryd.ntmps5
    go_wp2_with (go_at_call 15; (with_reducible refine (KA.out _ hb.out).mono ?_); clear hb; rintro e w3 ⟨rfl, hx⟩; have hb := Lib.hid hx; clear hx)
    go_ret
    exact ⟨rfl, hb.out⟩
  have i1 : ¬ (64 : Int) < (n1 : Int) := by omega
  have i2 : ¬ (3000 : Int) < (n2 : Int) := by omega
  obtain ⟨i0, hi0, hz0, hz1, hz2⟩ := info_parts info_u8'
  obtain ⟨K, hK⟩ : ∃ k : List UInt8, k = l ++ List.replicate (64 - l.length) 0 := ⟨_, rfl⟩
  have hKl : K.length = 64 := by rw [hK]; simp; omega
  obtain ⟨M1, hM1⟩ : ∃ k : List UInt8, k = Sh.masked K 54 := ⟨_, rfl⟩
  obtain ⟨M2, hM2⟩ : ∃ k : List UInt8, k = Sh.masked K 92 := ⟨_, rfl⟩
  obtain ⟨S1, hS1⟩ : ∃ k : List UInt8, k = Sh.sha (M1 ++ m) := ⟨_, rfl⟩
  obtain ⟨S2, hS2⟩ : ∃ k : List UInt8, k = Sh.keyed l m := ⟨_, rfl⟩
  have hS12 : Sh.sha (M2 ++ S1) = S2 := by rw [hS2, Sh.keyed_inner l m (by omega), hS1, hM1, hM2, hK]
  have hS1l : S1.length = 32 := by rw [hS1, Sh.length_sha]
  have hS2l : S2.length = 32 := by rw [hS2, Sh.length_keyed]
  have hM1l : M1.length = 64 := by rw [hM1, Sh.length_masked, hKl]
  have hM2l : M2.length = 64 := by rw [hM2, Sh.length_masked, hKl]
  have KO1 := Lib.hid (show ∀ v W, Below w.heap.size w W → RdB W v (M1 ++ m) → Calls Tryd.prog 8 #[v] W fun e w' => e = .returned (.agg (S1.map bv).toArray) ∧ Below W.heap.size W w' by
    intro v W hW hr; rw [hS1]; exact of_any _ v W (by rw [List.length_append, hM1l]; omega) hr (hV.below hW))
  have KO2 := Lib.hid (show ∀ v W, Below w.heap.size w W → RdB W v (M2 ++ S1) → Calls Tryd.prog 8 #[v] W fun e w' => e = .returned (.agg (S2.map bv).toArray) ∧ Below W.heap.size W w' by
    intro v W hW hr; rw [← hS12]; exact of_any _ v W (by rw [List.length_append, hM2l]; omega) hr (hV.below hW))
  have KK := Lib.hid (show ∀ W, Below w.heap.size w W → Calls Tryd.prog 9 #[.slice a l.length cap, .slice a' m.length cap'] W fun e w' => e = .returned (.agg (S2.map bv).toArray) ∧ Below W.heap.size W w' by
    intro W hW; rw [hS2]; exact keyed_any l m _ _ W (by omega) (by omega) (hR.below hW) (hM.below hW) (hV.below hW))
  have eqq : ∀ W, (Op.equalIn 10000 24 (.agg (S2.map bv).toArray) (.agg (S2.map bv).toArray)).run Tryd.prog W = .ok true W := fun W => by
    rw [eq32 S2 S2 hS2l hS2l W]; congr 1; exact beq_self_eq_true _
  obtain ⟨A1, hA1⟩ : ∃ X, X = (S1.map bv).toArray := ⟨_, rfl⟩
  obtain ⟨A2, hA2⟩ : ∃ X, X = (S2.map bv).toArray := ⟨_, rfl⟩
  rw [← hA1] at KO1
  rw [← hA2] at KO2 KK eqq
  have HA1 := Lib.hid (show A1 = (S1.map bv).toArray ∧ S1.length = 32 ∧ A1.size = 32 ∧ A1.all (·.oneCell') = true from ⟨hA1, hS1l, by rw [hA1]; simpa using hS1l, by rw [hA1]; exact one_bv _⟩)
  have HR := Lib.hid (show RdB w (.slice a n1 cap) l by rw [hn1]; exact hR)
  have HM := Lib.hid (show RdB w (.slice a' n2 cap') m by rw [hn2]; exact hM)
  have HI := Lib.hid hi0
  have HZ := Lib.hid hz0
  have HZ1 := Lib.hid hz1
  have HZ2 := Lib.hid hz2
  have HK := Lib.hid (show K = l ++ List.replicate (64 - l.length) 0 ∧ K.length = 64 ∧ l.length ≤ 64 ∧ m.length ≤ 3000 from ⟨hK, hKl, by omega, by omega⟩)
  have HMM := Lib.hid (show M1 = Sh.masked K 54 ∧ M2 = Sh.masked K 92 ∧ M1.length = 64 ∧ M2.length = 64 from ⟨hM1, hM2, hM1l, hM2l⟩)
  have HN := Lib.hid (show n1 = l.length ∧ n2 = m.length from ⟨hn1, hn2⟩)
  rw [← hn1, ← hn2] at KK ⊢
  clear hA1 hA2 hR hM hV hcap hcap' h1 h2 hi0 hz0 hz1 hz2 hK hKl hM1 hM2 hS1 hS2 hS12 hS1l hS2l hM1l hM2l hn1 hn2
  go_enter Tryd.func5, Tryd.ntmps5
  go_wp2_with (first
    | (go_at_call 15; (with_reducible refine (KA.out _ hb.out).mono ?_); clear hb; rintro e w3 ⟨rfl, hx⟩; have hb := Lib.hid hx; clear hx)
    | (at_make; have q4 := R4; clear q4; go_loud (refine wpList_make_full _ rfl (.const (.int .i64 64)) (.const (.int .i64 64)) 22 rfl w.heap.size 5 i0 (.int .u8 0) 1 Tryd.underlying22 HI.out HZ.out HZ1.out .i64 .i64 _ _ 64 rfl rfl (by omega) (by omega) (by rw [HZ2.out]; omega) (by unfold maxLen; omega) hb.out.size ?_); intro w5 hown5 hgrow5; have R5 := Lib.hid (show Row w5 w4.heap.size 5 ((List.replicate 64 (0 : UInt8)).map bv) by have := own_row hown5; rw [made64] at this; exact this); have hn45 := Lib.hid (show w3.heap.size ≠ w4.heap.size from Nat.ne_of_lt R4.out.lt); have R4 := Lib.hid (show Row w5 w3.heap.size 5 ((List.replicate 64 (0 : UInt8)).map bv) from (hgrow5.block _ R4.out.lt (by simp)).trans R4.out); have hl4 := Lib.hid (show w.heap.size ≤ w4.heap.size from hb.out.size); have hb := Lib.hid (hb.out.grown hgrow5 hb.out.size (fun k e => by cases e)); clear hown5 hgrow5; have hcp1 := copy_key R4.out (HR.out.below hb.out) HN.out.1 HK.out.2.2.1 HK.out.1; have hb2 := Lib.hid (below_setRow hb.out hl3.out (K.map bv).toArray); have hcp2 := copy_key (R5.out.aside hn45.out.symm (K.map bv).toArray) (HR.out.below hb2.out) HN.out.1 HK.out.2.2.1 HK.out.1)
    | (at_make; go_loud (refine wpList_make_full _ rfl (.const (.int .i64 64)) (.const (.int .i64 64)) 22 rfl w.heap.size 5 i0 (.int .u8 0) 1 Tryd.underlying22 HI.out HZ.out HZ1.out .i64 .i64 _ _ 64 rfl rfl (by omega) (by omega) (by rw [HZ2.out]; omega) (by unfold maxLen; omega) hb.out.size ?_); intro w4 hown4 hgrow4; have R4 := Lib.hid (show Row w4 w3.heap.size 5 ((List.replicate 64 (0 : UInt8)).map bv) by have := own_row hown4; rw [made64] at this; exact this); have hl3 := Lib.hid hb.out.size; have hb := Lib.hid (hb.out.grown hgrow4 hb.out.size (fun k e => by cases e)); clear hown4 hgrow4))
  obtain ⟨w7, hw7⟩ : ∃ W, W = (w5.setRow w3.heap.size (K.map bv).toArray).setRow w4.heap.size (K.map bv).toArray := ⟨_, rfl⟩
  obtain ⟨g1, hg1⟩ : ∃ g, g = w3.heap.size := ⟨_, rfl⟩
  obtain ⟨g2, hg2⟩ : ∃ g, g = w4.heap.size := ⟨_, rfl⟩
  have HF := Lib.hid (show Row w7 g1 5 (K.map bv) ∧ Row w7 g2 5 (K.map bv) ∧ Below w.heap.size w w7 by
    rw [hw7, hg1, hg2]
    exact ⟨(R4.out.setRow (K.map bv)).aside hn45.out _, (R5.out.aside hn45.out.symm _).setRow (K.map bv), below_setRow hb2.out hl4.out _⟩)
  have h12 : g1 ≠ g2 := by rw [hg1, hg2]; exact hn45.out
  have HL := Lib.hid (show w.heap.size ≤ g1 ∧ w.heap.size ≤ g2 from ⟨by rw [hg1]; exact hl3.out, by rw [hg2]; exact hl4.out⟩)
  rw [← hw7, ← hg1, ← hg2]
  clear hw7 hg1 hg2 R4 R5 hn45 hl3 hl4 hb hb2 hcp1 hcp2 i1 i2
  have k0 : ((0 : Nat) : Int) = 0 := rfl
  have k54 : ∀ x : UInt8, bits .xor .u8 (ib x) 54 = ib (x ^^^ 54) := fun x => ib_xor x 54
  have k92 : ∀ x : UInt8, bits .xor .u8 (ib x) 92 = ib (x ^^^ 92) := fun x => ib_xor x 92
  go_loopg [7] 64 (fun g i wr => ∃ k : Nat, k + g = 64 ∧ i = .int .i64 (k : Int) ∧ Hid (Row wr g1 5 ((Sh.masked (K.take k) 54 ++ K.drop k).map bv) ∧ Row wr g2 5 ((Sh.masked (K.take k) 92 ++ K.drop k).map bv) ∧ Below w.heap.size w wr))
  case atStart => exact ⟨0, rfl, rfl, Lib.hid HF.out⟩
  case round =>
    clear HF k0
    obtain ⟨k, hk, rfl, HU⟩ := hrel
    by_cases hlt : k < 64
    · have n0 : (0 : Int) ≤ (k : Int) := by omega
      have l0 : (k : Int) < 64 := by omega
      have w0 : IntKind.i64.wrap ((k : Int) + 1) = ((k + 1 : Nat) : Int) := i64n (k + 1) (by omega)
      obtain ⟨c, hc⟩ : ∃ c, c = K.getD k 0 := ⟨_, rfl⟩
      have c1 := HU.out.1.cell k _ (mask_get K 54 k (by have := HK.out.2.1; omega))
      have c2 := HU.out.2.1.cell k _ (mask_get K 92 k (by have := HK.out.2.1; omega))
      rw [← hc] at c1 c2
      have f1 := HU.out.1.frozen k
      have R2 := HU.out.2.1.other (b := g1) (o := k) h12.symm (.int .u8 (ib (c ^^^ 54)))
      have c3 := R2.cell k (.int .u8 (ib c)) (by rw [hc]; exact mask_get K 92 k (by have := HK.out.2.1; omega))
      have f3 := R2.frozen k
      have R2 := Lib.hid R2
      have HC := Lib.hid hc
      clear hc
      go_wp2
      go_roundg (64 - (k + 1))
      case measure => omega
      case rel =>
        have hKl := HK.out.2.1
        refine ⟨k + 1, by omega, rfl, Lib.hid ⟨?_, ?_, ?_⟩⟩
        · have e := HU.out.1.set k (.int .u8 (ib (c ^^^ 54)))
          rw [row_set, HC.out, maskSet _ _ _ (by omega), ← HC.out] at e
          exact e.other h12 _
        · have e := R2.out.set k (.int .u8 (ib (c ^^^ 92)))
          rw [row_set] at e
          rw [HC.out] at e
          rw [maskSet _ _ _ (by omega), ← HC.out] at e
          exact e
        · exact (HU.out.2.2.setCell (p := ⟨g1, k, none⟩) HL.out.1 _).setCell (p := ⟨g2, k, none⟩) HL.out.2 _
    · obtain rfl : k = 64 := by omega
      have k64 : ((64 : Nat) : Int) = 64 := rfl
      have hKl := HK.out.2.1
      have HG := Lib.hid (show Row wr g1 5 (M1.map bv) ∧ Row wr g2 5 (M2.map bv) ∧ Below w.heap.size w wr by
        have h := HU.out
        rw [List.take_of_length_le (by omega), List.drop_of_length_le (by omega), List.append_nil, List.append_nil, ← HMM.out.1, ← HMM.out.2.1] at h
        exact h)
      have o1 := row_own HG.out.1 HMM.out.2.2.1 HL.out.1 (by decide)
      have o2 := row_own HG.out.2.1 HMM.out.2.2.2 HL.out.2 (by decide)
      obtain ⟨v1, W1, hap1, ho1, hgr1⟩ := append_run o1 (HM.out.below HG.out.2.2) HG.out.2.2.size (by have := HMM.out; have := HK.out; omega)
      have hap1 := Lib.hid hap1
      have hb1 := Lib.hid (grown_bel HG.out.2.2 o1 hgr1)
      have hr1 := Lib.hid (own_rdb ho1)
      have o2 := Lib.hid (show OwnB W1 w.heap.size (.slice (some ⟨g2, 0, none⟩) 64 64) M2 from row_own (Row.lt HG.out.2.1 |> fun h => (hgr1.block g2 h (by simp [Value.ownBlock]; exact fun e => h12 e.symm)).trans HG.out.2.1) HMM.out.2.2.2 HL.out.2 (by decide))
      clear ho1 hgr1 o1 HU HG hKl hlt hk k54 k92
      go_wp2_with (first
        | (at_builtin; have q2 := hap2; clear q2; refine Lib.wpList_append_run _ rfl _ _ _ _ rfl _ _ rfl rfl _ _ hap2.out ?_)
        | (at_builtin; refine Lib.wpList_append_run _ rfl _ _ _ _ rfl _ _ rfl rfl _ _ hap1.out ?_)
        | (go_at_call 8; have q2 := hap2; clear q2; (with_reducible refine (KO2.out v2 W2 hb2.out hr2.out).mono ?_); rintro e w9 ⟨rfl, hx⟩; have hb3 := Lib.hid (hb2.out.trans (hx.mono hb2.out.size)); clear hx)
        | (go_at_call 8; (with_reducible refine (KO1.out v1 W1 hb1.out hr1.out).mono ?_); rintro e w8 ⟨rfl, hx⟩; have hb8 := hb1.out.trans (hx.mono hb1.out.size); have ow8 := own_below (own_below o2.out hx) ((Below.refl w8.heap.size w8).alloc (Nat.le_refl _) (.cells A1 24)); have hb8 := hb8.alloc hb8.size (.cells A1 24); have rs : RdB (w8.alloc (.cells A1 24)) (.slice (some ⟨w8.heap.size, 0, none⟩) 32 32) S1 := (by rw [HA1.out.1]; exact Row.rdb (Row.new w8 24 (S1.map bv)) HA1.out.2.1); obtain ⟨v2, W2, hap2, ho2, hgr2⟩ := append_run ow8 rs hb8.size (by have := HMM.out; have := HA1.out.2.1; omega); have hap2 := Lib.hid hap2; have hb2 := Lib.hid (grown_bel hb8 ow8 hgr2); have hr2 := Lib.hid (own_rdb ho2); clear ho2 hgr2 hb8 ow8 rs hx)
        | (go_at_call 9; (with_reducible refine (KK.out _ hb3.out).mono ?_); rintro e w10 ⟨rfl, hx⟩; have hb4 := Lib.hid (hb3.out.trans (hx.mono hb3.out.size)); clear hx)
        | (refine wpList_store_row rfl 24 _ _ rfl w8.heap.size A1 rfl rfl 24 #[.int .u8 0, .int .u8 0, .int .u8 0, .int .u8 0, .int .u8 0, .int .u8 0, .int .u8 0, .int .u8 0, .int .u8 0, .int .u8 0, .int .u8 0, .int .u8 0, .int .u8 0, .int .u8 0, .int .u8 0, .int .u8 0, .int .u8 0, .int .u8 0, .int .u8 0, .int .u8 0, .int .u8 0, .int .u8 0, .int .u8 0, .int .u8 0, .int .u8 0, .int .u8 0, .int .u8 0, .int .u8 0, .int .u8 0, .int .u8 0, .int .u8 0, .int .u8 0] (heap_n0 w8 _ _) (by rw [HA1.out.2.2.1]; exact info_s) (by rw [HA1.out.2.2.1]; rfl) HA1.out.2.2.2 ?_; rw [World.setRow_alloc_new]))
      go_ret
      exact ⟨rfl, hb4.out⟩
end Go.Proofs.YtnbdohajlemidaaDoor
