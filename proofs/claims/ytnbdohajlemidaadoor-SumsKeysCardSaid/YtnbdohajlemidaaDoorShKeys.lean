/- Sums: the law on which keys are as one. -/
import Derived.Test.YtnbdohajlemidaaDoorShX
import Derived.Test.YtnbdohajlemidaaDoorShInner
namespace Go.Proofs.YtnbdohajlemidaaDoor
open Go Go.Proofs Go.RowKit Go.Shelf

attribute [local go_sem] Oper.semAt_some
set_option maxRecDepth 100000
/-- a row that a later call reads: it stays -/
def Stay (w W : World) (g : Nat) (l : List Value) : Prop := W.rangeAt g 0 l ∧ g < W.heap.size ∧ Below w.heap.size w W
theorem Stay.call {w W W' : World} {g : Nat} {l : List Value} (h : Stay w W g l) (hb : Below W.heap.size W W') : Stay w W' g l :=
  ⟨range_below h.1 h.2.1 hb, Nat.lt_of_lt_of_le h.2.1 hb.size, h.2.2.trans (hb.mono h.2.2.size)⟩
set_option maxHeartbeats 4000000 in
theorem keys_all (l m : List UInt8) (v v' : Value) (x : Int) (w : World) (hR : RdB w v l) (hM : RdB w v' m) (hx : (Lit.int .u8 x).wf = true) (hV : HasV w) :
    Calls Tryd.prog 4 #[v, v', .int .u8 x] w fun e w' => e = .returned (.bool true) ∧ Below w.heap.size w w' := by
  have KA := Lib.hid (alive_also w hV)
  have hb := Lib.hid (Below.refl w.heap.size w)
  obtain ⟨a, cap, rfl, hcap⟩ := hR.form
  obtain ⟨a', cap', rfl, hcap'⟩ := hM.form
  obtain ⟨n1, hn1⟩ : ∃ n, n = l.length := ⟨_, rfl⟩
  obtain ⟨n2, hn2⟩ : ∃ n, n = m.length := ⟨_, rfl⟩
  by_cases h1 : 3000 < l.length
  · have i1 : (3000 : Int) < (n1 : Int) := by omega
    rw [← hn1, ← hn2]
    clear hR hM hV hcap hcap' hn1 hn2 h1
    go_enter Tryd.func4, Tryd.ntmps4
    go_wp2_with (go_at_call 15; (with_reducible refine (KA.out _ hb.out).mono ?_); clear hb; rintro e w3 ⟨rfl, hx⟩; have hb := Lib.hid hx; clear hx)
    go_ret
    exact ⟨rfl, hb.out⟩
  by_cases h2 : 3000 < m.length
  · have i1 : ¬ (3000 : Int) < (n1 : Int) := by omega
    have i2 : (3000 : Int) < (n2 : Int) := by omega
    rw [← hn1, ← hn2]
    clear hR hM hV hcap hcap' hn1 hn2 h1 h2
    go_enter Tryd.func4, Tryd.ntmps4
    go_wp2_with (go_at_call 15; (with_reducible refine (KA.out _ hb.out).mono ?_); clear hb; rintro e w3 ⟨rfl, hx⟩; have hb := Lib.hid hx; clear hx)
    go_ret
    exact ⟨rfl, hb.out⟩
  have i1 : ¬ (3000 : Int) < (n1 : Int) := by omega
  have i2 : ¬ (3000 : Int) < (n2 : Int) := by omega
  obtain ⟨S, hS⟩ : ∃ k : List UInt8, k = Sh.keyed l m := ⟨_, rfl⟩
  have hSl : S.length = 32 := by rw [hS, Sh.length_keyed]
  obtain ⟨SL, hSL⟩ : ∃ X, X = S.map bv := ⟨_, rfl⟩
  have KK := Lib.hid (show ∀ W, Below w.heap.size w W → Calls Tryd.prog 9 #[.slice a n1 cap, .slice a' n2 cap'] W fun e w' => e = .returned (.agg SL.toArray) ∧ Below W.heap.size W w' by
    intro W hW; rw [hSL, hS, hn1, hn2]; exact keyed_any l m _ _ W (by omega) (by omega) (hR.below hW) (hM.below hW) (hV.below hW))
  have KK2 := Lib.hid (show ∀ (u : Value) (k : List UInt8) W, Below w.heap.size w W → k.length ≤ 3000 → Sh.keyed k m = S → RdB W u k → Calls Tryd.prog 9 #[u, .slice a' n2 cap'] W fun e w' => e = .returned (.agg SL.toArray) ∧ Below W.heap.size W w' by
    intro u k W hW hk he hr; rw [hSL, ← he, hn2]; exact keyed_any k m _ _ W (by omega) (by omega) hr (hM.below hW) (hV.below hW))
  have eqq : ∀ W, (Op.equalIn 10000 24 (.agg SL.toArray) (.agg SL.toArray)).run Tryd.prog W = .ok true W := fun W => by
    rw [hSL, eq32 S S hSl hSl W]; congr 1; exact beq_self_eq_true _
  have p1 := Tryd.underlying24
  have p2 : (Tryd.prog.info? 24).map (·.size) = some SL.length := by rw [hSL, List.length_map, hSl]; exact info_s
  have p3 : SL.length = 32 := by rw [hSL, List.length_map, hSl]
  have HSA := Lib.hid (show SL.toArray.all (·.oneCell') = true by rw [hSL]; exact one_bv _)
  obtain ⟨SA, hSA⟩ : ∃ X, X = SL.toArray := ⟨_, rfl⟩
  have HSS := Lib.hid (show SA = SL.toArray ∧ SA.size = 32 ∧ SA.all (·.oneCell') = true ∧ S = Sh.keyed l m from ⟨hSA, by rw [hSA]; simpa using p3, by rw [hSA]; exact HSA.out, hS⟩)
  rw [← hSA] at KK
  have HN := Lib.hid (show n1 = l.length ∧ n2 = m.length from ⟨hn1, hn2⟩)
  by_cases h3 : 64 < l.length
  · have i3 : (64 : Int) < (n1 : Int) := by omega
    obtain ⟨QL, hQL⟩ : ∃ X, X = (Sh.sha l).map bv := ⟨_, rfl⟩
    obtain ⟨QA, hQA⟩ : ∃ X, X = QL.toArray := ⟨_, rfl⟩
    have HQ := Lib.hid (show QA = QL.toArray ∧ QL = (Sh.sha l).map bv ∧ QA.size = 32 ∧ QA.all (·.oneCell') = true from ⟨hQA, hQL, by rw [hQA, hQL]; simp [Sh.length_sha], by rw [hQA, hQL]; exact one_bv _⟩)
    have KO := Lib.hid (show ∀ W, Below w.heap.size w W → Calls Tryd.prog 8 #[.slice a n1 cap] W fun e w' => e = .returned (.agg QA) ∧ Below W.heap.size W w' by
      intro W hW; rw [hQA, hQL, hn1]; exact of_any l _ W (by omega) (hR.below hW) (hV.below hW))
    have hks := Lib.hid (show Sh.keyed (Sh.sha l) m = S by rw [hS]; exact Sh.keyed_sum l m h3)
    rw [← hn1, ← hn2]
    clear hR hM hV hcap hcap' hn1 hn2 h1 h2 h3 hS hSl hSL hSA hQL hQA hx
    go_enter Tryd.func4, Tryd.ntmps4
    go_wp2_with (first
      | (go_at_call 15; (with_reducible refine (KA.out _ hb.out).mono ?_); clear hb; rintro e w3 ⟨rfl, hx⟩; have hb := Lib.hid hx; clear hx)
      | (go_at_call 9; (with_reducible refine (KK.out _ hb.out).mono ?_); rintro e w4 ⟨rfl, hx⟩; have hb4 := Lib.hid (hb.out.trans (hx.mono hb.out.size)); clear hx hb; have hb := Lib.hid (hb4.out.alloc hb4.out.size (.cells SA 24)))
      | (go_at_call 8; (with_reducible refine (KO.out _ hb.out).mono ?_); rintro e w5 ⟨rfl, hx⟩; have st := Lib.hid (Stay.call (w := w) (W := w4.alloc (.cells SA 24)) (g := w4.heap.size) (l := SL) ⟨by rw [HSS.out.1]; exact (Row.new w4 24 SL).range, by simp, hb.out⟩ hx); clear hx)
      | (refine wpList_store_row rfl 24 _ _ rfl w4.heap.size SA rfl rfl 24 #[.int .u8 0, .int .u8 0, .int .u8 0, .int .u8 0, .int .u8 0, .int .u8 0, .int .u8 0, .int .u8 0, .int .u8 0, .int .u8 0, .int .u8 0, .int .u8 0, .int .u8 0, .int .u8 0, .int .u8 0, .int .u8 0, .int .u8 0, .int .u8 0, .int .u8 0, .int .u8 0, .int .u8 0, .int .u8 0, .int .u8 0, .int .u8 0, .int .u8 0, .int .u8 0, .int .u8 0, .int .u8 0, .int .u8 0, .int .u8 0, .int .u8 0, .int .u8 0] (heap_n0 w4 _ _) (by rw [HSS.out.2.1]; exact info_s) (by rw [HSS.out.2.1]; rfl) HSS.out.2.2.1 ?_; rw [World.setRow_alloc_new])
      | (refine wpList_store_row rfl 24 _ _ rfl w5.heap.size QA rfl rfl 24 #[.int .u8 0, .int .u8 0, .int .u8 0, .int .u8 0, .int .u8 0, .int .u8 0, .int .u8 0, .int .u8 0, .int .u8 0, .int .u8 0, .int .u8 0, .int .u8 0, .int .u8 0, .int .u8 0, .int .u8 0, .int .u8 0, .int .u8 0, .int .u8 0, .int .u8 0, .int .u8 0, .int .u8 0, .int .u8 0, .int .u8 0, .int .u8 0, .int .u8 0, .int .u8 0, .int .u8 0, .int .u8 0, .int .u8 0, .int .u8 0, .int .u8 0, .int .u8 0] (heap_n0 w5 _ _) (by rw [HQ.out.2.2.1]; exact info_s) (by rw [HQ.out.2.2.1]; rfl) HQ.out.2.2.2 ?_; rw [World.setRow_alloc_new]))
    obtain ⟨g4, hg4⟩ : ∃ g, g = w4.heap.size := ⟨_, rfl⟩
    obtain ⟨g5, hg5⟩ : ∃ g, g = w5.heap.size := ⟨_, rfl⟩
    obtain ⟨u, hu⟩ : ∃ u, u = w5.alloc (.cells QA 24) := ⟨_, rfl⟩
    have ST := Lib.hid (show Stay w u g4 SL ∧ RdB u (.slice (some ⟨g5, 0, none⟩) 32 32) (Sh.sha l) by
      rw [hu, hg4, hg5, HQ.out.1, HQ.out.2.1]
      exact ⟨st.out.call ((Below.refl _ _).alloc (Nat.le_refl _) _), Row.rdb (Row.new w5 24 ((Sh.sha l).map bv)) (Sh.length_sha l)⟩)
    rw [← hu, ← hg5, ← hg4]
    clear hu hg4 hg5 st hb hb4
    have KF := Lib.hid (show ∀ W, Stay w W g4 SL → RdB W (.slice (some ⟨g5, 0, none⟩) 32 32) (Sh.sha l) → Calls Tryd.prog 9 #[.slice (some ⟨g5, 0, none⟩) 32 32, .slice a' n2 cap'] W fun e w' => e = .returned (.agg SL.toArray) ∧ Stay w w' g4 SL by
      intro W hW hr
      exact (KK2.out _ (Sh.sha l) W hW.2.2 (by rw [Sh.length_sha]; omega) hks.out hr).mono fun _ _ h => ⟨h.1, hW.call h.2⟩)
    have ud := Lib.hid (show Stay w u.drew g4 SL ∧ RdB u.drew (.slice (some ⟨g5, 0, none⟩) 32 32) (Sh.sha l) from ⟨ST.out.1.call ((Below.refl _ _).drew), ST.out.2.below ((Below.refl _ _).drew)⟩)
    go_region_held3 (fun W => W.rangeAt g4 0 SL)
      (first
        | exact hs8.out.1
        | exact ud.out.1.1
        | fail)
      (first
        | (go_at_call 9; (with_reducible refine (KF.out _ ud.out.1 ud.out.2).mono ?_); rintro e w8 ⟨rfl, hx⟩; have hs8 := Lib.hid hx; clear hx))
    all_goals
      go_wp2
      go_ret
      exact ⟨rfl, hs8.out.2.2⟩
  · have i3 : ¬ (64 : Int) < (n1 : Int) := by omega
    obtain ⟨d, hd⟩ : ∃ d : Nat, d = 65 - l.length := ⟨_, rfl⟩
    have hx2 : 0 ≤ x ∧ x ≤ 255 := by
      simp [Lit.wf, IntKind.min, IntKind.max, IntKind.signed, IntKind.bits] at hx
      exact ⟨by omega, by omega⟩
    obtain ⟨r, hr⟩ : ∃ r : Nat, r = x.toNat % d := ⟨_, rfl⟩
    have hrd : r < d := by rw [hr]; exact Nat.mod_lt _ (by omega)
    have e1 : IntKind.i64.wrap x = x := IntWalk.i64_in _ (by omega)
    have e2 : IntKind.i64.wrap (65 - (n1 : Int)) = (d : Int) := by rw [show (65 : Int) - (n1 : Int) = (d : Int) by omega]; exact i64n _ (by omega)
    have e3 : x % (d : Int) = (r : Int) := by rw [hr, Int.natCast_emod, Int.toNat_of_nonneg hx2.1]
    have e4 : Int.tmod x (d : Int) = (r : Int) := by rw [Int.tmod_eq_emod_of_nonneg hx2.1]; exact e3
    have e5 : IntKind.i64.wrap (r : Int) = (r : Int) := i64n _ (by omega)
    have e6 : ((d : Int) == 0) = false := by simp; omega
    have e7 : ¬ (d : Int) = 0 := by omega
    have e8 : ¬ d = 0 := by omega
    have hkw := Lib.hid (show Sh.keyed (l ++ List.replicate r 0) m = S ∧ (l ++ List.replicate r (0 : UInt8)).length ≤ 3000 from ⟨by rw [hS]; exact Sh.keyed_wide l m r (by omega), by simp; omega⟩)
    have HR := Lib.hid (show RdB w (.slice a n1 cap) l by rw [hn1]; exact hR)
    have HD := Lib.hid (show l.length ≤ 64 ∧ r ≤ 64 from ⟨by omega, by omega⟩)
    rw [← hn1, ← hn2]
    clear hR hM hV hcap hcap' hn1 hn2 h1 h2 h3 hS hSl hSL hSA hx hd hr hrd
    go_enter Tryd.func4, Tryd.ntmps4
    go_wp2_with (first
      | (go_at_call 15; (with_reducible refine (KA.out _ hb.out).mono ?_); clear hb; rintro e w3 ⟨rfl, hx⟩; have hb := Lib.hid hx; clear hx)
      | (go_at_call 9; (with_reducible refine (KK.out _ hb.out).mono ?_); rintro e w4 ⟨rfl, hx⟩; have hb4 := Lib.hid (hb.out.trans (hx.mono hb.out.size)); clear hx hb; have hb := Lib.hid (hb4.out.alloc hb4.out.size (.cells SA 24)))
      | (refine wpList_store_row rfl 24 _ _ rfl w4.heap.size SA rfl rfl 24 #[.int .u8 0, .int .u8 0, .int .u8 0, .int .u8 0, .int .u8 0, .int .u8 0, .int .u8 0, .int .u8 0, .int .u8 0, .int .u8 0, .int .u8 0, .int .u8 0, .int .u8 0, .int .u8 0, .int .u8 0, .int .u8 0, .int .u8 0, .int .u8 0, .int .u8 0, .int .u8 0, .int .u8 0, .int .u8 0, .int .u8 0, .int .u8 0, .int .u8 0, .int .u8 0, .int .u8 0, .int .u8 0, .int .u8 0, .int .u8 0, .int .u8 0, .int .u8 0] (heap_n0 w4 _ _) (by rw [HSS.out.2.1]; exact info_s) (by rw [HSS.out.2.1]; rfl) HSS.out.2.2.1 ?_; rw [World.setRow_alloc_new]))
    obtain ⟨g4, hg4⟩ : ∃ g, g = w4.heap.size := ⟨_, rfl⟩
    obtain ⟨u, hu⟩ : ∃ u, u = w4.alloc (.cells SA 24) := ⟨_, rfl⟩
    have ST : Stay w u g4 SL := by
      rw [hu, hg4, HSS.out.1]
      rw [HSS.out.1] at hb
      exact ⟨(Row.new w4 24 SL).range, by simp, hb.out⟩
    rw [← hu, ← hg4]
    clear hu hg4 hb hb4
    have S0 : Stay w u.drew g4 SL := ST.call ((Below.refl _ _).drew)
    have o0 : OwnB u.drew u.drew.heap.size (.slice none 0 0) [] := World.ownsRow_nil u.drew u.drew.heap.size 5 1
    obtain ⟨v1, W1, hap1, ho1, hg1⟩ := append_run o0 (HR.out.below S0.2.2) (Nat.le_refl _) (by have := HD.out; simp; omega)
    rw [List.nil_append] at ho1
    have b1 : Below u.drew.heap.size u.drew W1 := (Below.refl _ _).grown hg1 (Nat.le_refl _) (fun k e => ((World.ownsRow.lt o0) k e).1)
    obtain ⟨v2, W2, hap2, ho2, hg2⟩ := append_zeros ho1 r HD.out.1 HD.out.2 b1.size
    have b2 : Below u.drew.heap.size u.drew W2 := b1.grown hg2 b1.size (fun k e => ((World.ownsRow.lt ho1) k e).1)
    have S2 := Lib.hid (show Stay w W2 g4 SL ∧ RdB W2 v2 (l ++ List.replicate r 0) from ⟨S0.call b2, own_rdb ho2⟩)
    have hap1 := Lib.hid hap1
    have hap2 := Lib.hid hap2
    clear o0 ho1 hg1 b1 ho2 hg2 b2 S0 ST
    go_region_held3 (fun _ => True) (trivial)
      (first
        | (rw [if_pos (by rfl)]; refine Lib.wp_append_run _ _ _ _ _ rfl _ _ rfl rfl _ _ hap1.out ?_)
        | (rw [if_pos (by rfl)]; refine Lib.wp_append_run _ _ _ _ _ rfl _ _ rfl rfl _ _ hap2.out ?_))
    all_goals
      go_wp2
      have KF := Lib.hid (show ∀ W, Stay w W g4 SL → RdB W v2 (l ++ List.replicate r 0) → Calls Tryd.prog 9 #[v2, .slice a' n2 cap'] W fun e w' => e = .returned (.agg SL.toArray) ∧ Stay w w' g4 SL by
        intro W hW hr
        exact (KK2.out v2 _ W hW.2.2 hkw.out.2 hkw.out.1 hr).mono fun _ _ h => ⟨h.1, hW.call h.2⟩)
      have ud := Lib.hid (show Stay w W2.drew g4 SL ∧ RdB W2.drew v2 (l ++ List.replicate r 0) from ⟨S2.out.1.call ((Below.refl _ _).drew), S2.out.2.below ((Below.refl _ _).drew)⟩)
      go_region_held3 (fun W => W.rangeAt g4 0 SL)
        (first
          | exact hs8.out.1
          | exact ud.out.1.1
          | fail)
        (first
          | (go_at_call 9; (with_reducible refine (KF.out _ ud.out.1 ud.out.2).mono ?_); rintro e w8 ⟨rfl, hx⟩; have hs8 := Lib.hid hx; clear hx))
    all_goals
      go_wp2
      go_ret
      exact ⟨rfl, hs8.out.2.2⟩
end Go.Proofs.YtnbdohajlemidaaDoor
