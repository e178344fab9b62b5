/- The difference of two numbers; the greatest that divides two small ones. Numbers of 64 bits and great ones: word, Of, Back; the greatest that .. -/
import Derived.Deep.QuietTactic
import Derived.BigQuiet
import Derived.Test.YtgmbaamfobhceaaGreatGCmp
import Derived.Test.YtgmbaamfobhceaaGreatGBlend
set_option linter.unusedSimpArgs false
set_option linter.unusedVariables false
set_option maxRecDepth 100000
set_option maxHeartbeats 4000000
namespace Go.Proofs.YtgmbaamfobhceaaGreat
open Go Go.Proofs Go.RowKit Go.Shelf Nu
def subNo : Value := .tuple #[.slice none 0 0, .int .i64 1]
theorem sub_bad {w : World} {va vb : Value} {la lb : List Nat} (ha : Reads w va la) (hb : Reads w vb lb) (hla : la.length ≤ 100000) (hlb : lb.length ≤ 100000) (hsa : Sm la) (hsb : Sm lb) (h : chk la = false ∨ chk lb = false ∨ val la < val lb) :
  Calls Tryz.prog 191 #[va, vb] w fun e w' => e = .returned subNo ∧ Below w.heap.size w w' := by
 have k1 := check_any ha (by omega)
 have k2 := check_any hb (by omega)
 have kc := cmp_any ha hb hla hlb hsa hsb
 obtain ⟨a1, c1, rfl⟩ := ha.form
 obtain ⟨b1, d1, rfl⟩ := hb.form
 clear ha hb
 cases hc : chk la with
 | false =>
  rw [hc] at k1
  clear kc
  go_enter Tryz.func191, Tryz.ntmps191
  go_wp2_with (go_at_call 61; refine k1.mono ?_; rintro e w' ⟨rfl, rfl⟩)
  go_ret2
  exact ⟨rfl, Below.refl _ _⟩
 | true =>
  rw [hc] at k1
  cases hd : chk lb with
  | false =>
   rw [hd] at k2
   clear kc
   go_enter Tryz.func191, Tryz.ntmps191
   go_wp2_with (first
    | (go_at_call 61; with_reducible refine k1.mono ?_; clear k1; rintro e w' ⟨rfl, rfl⟩)
    | (go_at_call 61; with_reducible refine k2.mono ?_; clear k2; rintro e w' ⟨rfl, rfl⟩))
   go_ret2
   exact ⟨rfl, Below.refl _ _⟩
  | true =>
   have hlt : val la < val lb := by
    rcases h with h | h | h
    · rw [hc] at h; cases h
    · rw [hd] at h; cases h
    · exact h
   rw [hd] at k2
   rw [nv_chk hc, nv_chk hd, show sgn (val la) (val lb) = -1 by simp [sgn, hlt]] at kc
   clear h hlt
   go_enter Tryz.func191, Tryz.ntmps191
   go_wp2_with (first
    | (go_at_call 61; with_reducible refine k1.mono ?_; clear k1; rintro e w' ⟨rfl, rfl⟩)
    | (go_at_call 61; with_reducible refine k2.mono ?_; clear k2; rintro e w' ⟨rfl, rfl⟩)
    | (go_at_call 108; refine kc.mono ?_; rintro e w1 ⟨rfl, hb1⟩))
   go_ret2
   exact ⟨rfl, hb1⟩
theorem sub_any {w : World} {va vb : Value} {la lb : List Nat} (ha : Reads w va la) (hb : Reads w vb lb) (hla : la.length ≤ 100000) (hlb : lb.length ≤ 100000) (hsa : Sm la) (hsb : Sm lb) (hc : chk la = true) (hd : chk lb = true) (h : val lb ≤ val la) :
  Calls Tryz.prog 191 #[va, vb] w fun e w' => ∃ v, e = .returned (.tuple #[v, .int .i64 0]) ∧ Fresh w' w.heap.size v (digs (val la - val lb)) ∧ Below w.heap.size w w' := by
 have k1 := check_any ha (by omega)
 have k2 := check_any hb (by omega)
 have kc := cmp_any ha hb hla hlb hsa hsb
 rw [hc] at k1
 rw [hd] at k2
 obtain ⟨z, hz⟩ : ∃ z, z = sgn (val la) (val lb) := ⟨_, rfl⟩
 have hz2 : ¬ z < 0 := by rw [hz]; simp [sgn]; split <;> (try split) <;> omega
 rw [nv_chk hc, nv_chk hd, ← hz] at kc
 have kb : ∀ W, Below w.heap.size w W → _ := fun W hW => blend_any (ha.below hW) (hb.below hW) hla hlb hsa hsb 1 1 (by omega) (by omega) (by omega) (by
  have := val_lt hsa
  have h2 : 4294967296 ^ la.length ≤ 4294967296 ^ max la.length lb.length := Nat.pow_le_pow_right (by decide) (by omega)
  omega)
 rw [show (1 * val la - 1 * val lb) = val la - val lb by omega] at kb
 obtain ⟨a1, c1, rfl⟩ := ha.form
 obtain ⟨b1, d1, rfl⟩ := hb.form
 clear ha hb hz h
 go_enter Tryz.func191, Tryz.ntmps191
 go_wp2_with (first
  | (go_at_call 61; with_reducible refine k1.mono ?_; clear k1; rintro e w' ⟨rfl, rfl⟩)
  | (go_at_call 61; with_reducible refine k2.mono ?_; clear k2; rintro e w' ⟨rfl, rfl⟩)
  | (go_at_call 108; refine kc.mono ?_; rintro e w1 ⟨rfl, hb1⟩)
  | (go_at_call 147; refine (kb _ hb1).mono ?_; rintro e w2 ⟨v, rfl, hF, hb2⟩))
 go_ret2
 exact ⟨v, rfl, hF.mono hb1.size, hb1.trans (hb2.mono hb1.size)⟩
end Go.Proofs.YtgmbaamfobhceaaGreat
namespace Go.Proofs.YtgmbaamfobhceaaGreat
open Go Go.Proofs Go.RowKit Go.Shelf Nu
attribute [local go_sem] Oper.semAt_some
def WordInv (w : World) (l : List Nat) (va : Value) (k : Nat) (W : World) : Prop :=
 (∃ n : Nat, n = val (l.drop (l.length - k)) ∧ n < 4294967296 ^ k ∧ Boxed W w.heap.size 130 (.int .u64 n)) ∧ Boxed W (w.heap.size + 1) 40 va ∧ Below w.heap.size w W
theorem word_any {w : World} {v : Value} {l : List Nat} (h : Reads w v l) (hl : l.length ≤ 2) (hs : Sm l) :
  Calls Tryz.prog 116 #[v] w fun e w' => e = .returned (.int .u64 (val l : Nat)) ∧ Below w.heap.size w w' := by
 obtain ⟨a1, c1, rfl⟩ := h.form
 obtain ⟨ba, oa, hba, hca⟩ := h.addr
 refine (callsIn_wide (n := 0)).1 ?_
 refine callsIn_of_wp_marks Tryz.func116 rfl trivial ?_ rfl
 simp only [Tryz.ntmps116, List.size_toArray, List.length_cons, List.length_nil, Nat.reduceAdd, Nat.reduceSub, Array.replicate_succ, Array.replicate_zero, List.push_toArray, List.append_toArray, List.nil_append, List.cons_append]
 refine wpIn_wide.2 ?_
 go_wp2_with (go_at_call 143; refine (back_any _ _ _ _).mono ?_; rintro e w' ⟨rfl, rfl⟩)
 refine (wpIn_wide (n := 0)).1 ?_
 refine wp_rangeAt (gf := 167) rfl (enters_of Tryz.func167 (by kernel_rfl) rfl)
  (back_iter l.length ba oa c1 (w.heap.size + 1) a1 (fun j => l.getD j 0) (by omega) (fun h => (hba h).1)) (fun _ => rfl)
  (WordInv w l (.slice a1 l.length c1)) (fun _ _ => False) ?own (fun _ _ _ _ h _ _ => h) ?reads ?start ?round ?done ?stop
 case own =>
  rintro k W W' row ⟨⟨n, h1, h2, h3⟩, h4, h5⟩ hg hr
  exact ⟨⟨n, h1, h2, keepBox h3 hg hr⟩, keepBox h4 hg hr, keepBelow h5 (Nat.le_refl _) (by simp; omega) hg hr⟩
 case reads =>
  rintro k W ⟨_, h4, h5⟩
  exact ⟨h4.cell, fun hk => (h5.cell (p := ⟨ba, oa + (l.length - 1 - k), none⟩) (hba (by omega)).2).trans (hca _ (by omega))⟩
 case start =>
  exact ⟨⟨0, by simp [val], by simp, (Boxed.new w _ _).alloc _⟩, boxed_new1 w _ _ _, ((Below.refl _ w).alloc (Nat.le_refl _) _).alloc (by simp) _⟩
 case round =>
  intro lp k W hk
  obtain ⟨j, hj⟩ : ∃ j, j = l.length - 1 - k := ⟨_, rfl⟩
  have hx := hs.getD j
  obtain ⟨x, hxe⟩ : ∃ x, x = l.getD j 0 := ⟨_, rfl⟩
  dsimp only
  rw [← hj, ← hxe]
  rw [← hxe] at hx
  have HX := Lib.hid hxe
  have HJ := Lib.hid hj
  have hk2 : k ≤ 1 := by omega
  clear hxe h hs hba hca hj
  gi_wp2
  refine NextRound.mk ?_
  rintro W2 ⟨⟨n, h1, h2, h3⟩, h4, h5⟩
  have hn : n < 4294967296 := Nat.lt_of_lt_of_le h2 (Nat.le_trans (Nat.pow_le_pow_right (by decide) hk2) (by decide))
  have H1 := Lib.hid h1
  have H2 := Lib.hid h2
  have r1 := h3.cell
  have r2 := h3.frozen
  clear h1 h2
  gi_wp2
  refine ⟨(KeepsOthers.setCell _ _ _).from _, ⟨n * 4294967296 + x, ?_, ?_, ?_⟩, h4.other (by omega) _, h5.setCell (p := ⟨w.heap.size, 0, none⟩) (Nat.le_refl _) _⟩
  · have hj := HJ.out
    have e : l.drop j = x :: l.drop (l.length - k) := by
     rw [show l.length - k = j + 1 by omega, List.drop_eq_getElem_cons (by omega), HX.out, List.getD_eq_getElem?_getD, List.getElem?_eq_getElem (by omega)]; rfl
    rw [show l.length - (k + 1) = j by omega, e, val, H1.out]
    omega
  · rw [Nat.pow_succ]; have := H2.out; omega
  · rw [← or_shl n x hn hx]
    exact h3.set _
 case done =>
  rintro D W hD ⟨⟨n, h1, h2, h3⟩, h4, h5⟩ hK
  have r1 := h3.cell
  rw [Nat.sub_self, List.drop_zero] at h1
  have H1 := Lib.hid h1
  clear h1 h hba hca
  go_wp2
  refine ⟨by simp, .inl ⟨_, _, rfl, run_takeDeferred hK, ?_⟩⟩
  exact ⟨_, results_tmp rfl _ _ _, by rw [← H1.out]; rfl, below_left _ h5 (by simp at hD; omega) hK rfl⟩
 case stop =>
  rintro D c W _ h _
  exact h.elim
theorem of_any (n : Nat) (hn : n < 18446744073709551616) (w : World) :
  Calls Tryz.prog 109 #[.int .u64 n] w fun e w' => ∃ v, e = .returned v ∧ Fresh w' w.heap.size v (digs n) ∧ Below w.heap.size w w' := by
 have hF : Fresh (w.alloc (.cells #[.int .u32 (n % 4294967296 : Nat), .int .u32 (n / 4294967296 : Nat)] 127)) w.heap.size (.slice (some ⟨w.heap.size, 0, none⟩) 2 2) [n % 4294967296, n / 4294967296] :=
  ⟨rfl, .inr ⟨w.heap.size, 2, _, rfl, Nat.le_refl _, World.alloc_heap_new w _, Nat.le_refl _, small_max (by omega), rfl, rfl⟩⟩
 have hsm : Sm [n % 4294967296, n / 4294967296] := Sm.cons (by omega) (Sm.cons (by omega) Sm.nil)
 have hR := hF.trim' rfl hsm
 have ev : val [n % 4294967296, n / 4294967296] = n := by simp [val]; omega
 rw [ev] at hR
 have kt := trim_fresh hF rfl (by simp)
 go_enter Tryz.func109, Tryz.ntmps109
 rw [show ((n % 4294967296 : Nat) : Int) = (n : Int) % 4294967296 by omega, show ((n / 4294967296 : Nat) : Int) = (n : Int) / 4294967296 by omega] at kt hR
 go_wp2_with (go_at_call 112; refine kt.mono ?_; rintro e w' ⟨rfl, rfl⟩)
 go_ret
 exact ⟨_, rfl, hR, (Below.refl _ _).alloc (Nat.le_refl _) _⟩
theorem ext_getD {la lb : List Nat} (hl : la.length = lb.length) (h : ∀ i, i < la.length → la.getD i 0 = lb.getD i 0) : la = lb := by
 apply List.ext_getElem hl
 intro i h1 h2
 have := h i h1
 rw [List.getD_eq_getElem?_getD, List.getD_eq_getElem?_getD, List.getElem?_eq_getElem h1, List.getElem?_eq_getElem h2] at this
 simpa using this
theorem sameNat_any {w : World} {va vb : Value} {la lb : List Nat} (ha : Reads w va la) (hb : Reads w vb lb) (hla : la.length ≤ 1000000) (_hlb : lb.length ≤ 1000000) :
   Calls Tryz.prog 68 #[va, vb] w fun e w' => e = .returned (.bool (decide (la = lb))) ∧ ∃ n, w' = w.drewN n := by
 obtain ⟨R, hR⟩ : ∃ R : Bool, R = decide (la = lb) := ⟨_, rfl⟩
 rw [← hR]
 have HR := Lib.hid hR
 clear hR
 obtain ⟨a1, c1, rfl⟩ := ha.form
 obtain ⟨b1, d1, rfl⟩ := hb.form
 obtain ⟨ba, oa, hba, hca⟩ := ha.addr
 obtain ⟨bb, ob, hbb, hcb⟩ := hb.addr
 by_cases hl : la.length = lb.length
 rotate_left
 · have h0 : R = false := by rw [HR.out]; simp; intro e; exact hl (by rw [e])
   have hq : ((la.length : Int) != (lb.length : Int)) = true := by simp; omega
   clear ha hb hba hca hbb hcb
   rw [h0]
   clear h0
   go_enter Tryz.func68, Tryz.ntmps68
   go_wp2
   go_ret
   exact ⟨rfl, 0, rfl⟩
 · have HL := Lib.hid hl
   obtain ⟨N, hN⟩ : ∃ N, N = la.length := ⟨_, rfl⟩
   have HN := Lib.hid hN
   have hN1 : N ≤ 1000000 := by omega
   rw [← hl, ← hN] at hbb hcb ⊢
   rw [← hN] at hba hca
   clear ha hb hl hN
   go_enter Tryz.func68, Tryz.ntmps68
   go_wp2
   go_loopw [5] (fun x wr => ∃ k n : Nat, k ≤ N ∧ x = .int .i64 k ∧ Hid (∀ i, i < k → la.getD i 0 = lb.getD i 0) ∧ wr = w.drewN n) (fun x _ => N - (intOf x).toNat)
   case atStart => exact ⟨0, 0, Nat.zero_le _, rfl, Lib.hid (fun i hi => by omega), rfl⟩
   case round =>
    obtain ⟨k, n, hk, rfl, hs, rfl⟩ := hrel
    by_cases hlt : k < N
    · have r1 := hca k hlt
      have r2 := hcb k hlt
      have e1 := (hba (by omega)).1
      have e2 := (hbb (by omega)).1
      obtain ⟨x, hxe⟩ : ∃ x, x = la.getD k 0 := ⟨_, rfl⟩
      obtain ⟨y, hye⟩ : ∃ y, y = lb.getD k 0 := ⟨_, rfl⟩
      rw [← hxe] at r1
      rw [← hye] at r2
      have HX := Lib.hid hxe
      have HY := Lib.hid hye
      clear hxe hye hca hcb hba hbb
      subst e1 e2
      by_cases hxy : x = y
      · have hq : ((x : Int) != (y : Int)) = false := by simp [hxy]
        have HXY := Lib.hid hxy
        clear hxy
        go_wp2
        go_quiet (fail)
        go_wp2
        go_roundw
        case rel =>
         refine ⟨k + 1, _, by omega, by simp, Lib.hid fun i hi => ?_, rfl⟩
         by_cases e : i = k
         · subst e; rw [← HX.out, ← HY.out]; exact HXY.out
         · exact hs.out i (by omega)
        case measure => simp [intOf]; omega
      · have hq : ((x : Int) != (y : Int)) = true := by simp; omega
        have h0 : R = false := by
         rw [HR.out]; simp; intro e; exact hxy (by rw [HX.out, HY.out, e])
        clear hxy
        go_wp2
        go_quiet (fail)
        go_wp2
        go_ret
        exact ⟨by rw [h0]; rfl, _, World.drewN_drewN ..⟩
    · have h0 : R = true := by
        rw [HR.out]; simp; exact ext_getD HL.out (fun i hi => hs.out i (by have := HN.out; omega))
      clear hca hcb hba hbb
      go_wp2
      go_ret
      exact ⟨by rw [h0]; rfl, n, rfl⟩
theorem clone_any {w : World} {v : Value} {l : List Nat} (h : Reads w v l) (hl : l.length ≤ 1000000) :
   Calls Tryz.prog 113 #[v] w fun e w' => ∃ v', e = .returned v' ∧ Fresh w' w.heap.size v' l ∧ Below w.heap.size w w' := by
 obtain ⟨i0, hi, hz0, hz1, hz2⟩ := info_parts info_u32
 rcases h with ⟨rfl, rfl⟩ | ⟨b, off, cap, rfl, hb, hcap, hc⟩ | ⟨x, rfl, rfl⟩
 · have hq := fun (W : World) => Lib.run_eql_slice_nil (P := Tryz.prog) W 40 127 none 0 0 0 0 Tryz.underlying40
   simp only [Option.isNone_none] at hq
   go_enter Tryz.func113, Tryz.ntmps113
   go_wp2
   go_ret
   exact ⟨_, rfl, Fresh.nil _ _, Below.refl _ _⟩
 · have hq := fun (W : World) => Lib.run_eql_slice_nil (P := Tryz.prog) W 40 127 (some ⟨b, off, none⟩) l.length cap 0 0 Tryz.underlying40
   simp only [Option.isNone_some] at hq
   have hF0 : Fresh (w.alloc (.cells #[] 127)) w.heap.size (.slice (some ⟨w.heap.size, 0, none⟩) 0 0) [] :=
    ⟨rfl, .inr ⟨w.heap.size, 0, _, rfl, Nat.le_refl _, World.alloc_heap_new w _, Nat.le_refl _, Nat.zero_le _, rfl, rfl⟩⟩
   have hcs : ∀ j u, (l.map u32v)[j]? = some u → (w.alloc (.cells #[] 127)).cell? ((⟨b, off, none⟩ : Addr).add j) = some u := by
    intro j u hu
    rw [List.getElem?_map] at hu
    have hj : j < l.length := by
     rcases Nat.lt_or_ge j l.length with h | h
     · exact h
     · rw [List.getElem?_eq_none h] at hu; cases hu
    rw [Addr.add_lit, World.cell?_of_block (w := w) (Below.heap_alloc w _ b hb), hc j hj]
    rw [List.getElem?_eq_getElem hj] at hu
    simp at hu
    rw [← hu, List.getD_eq_getElem?_getD, List.getElem?_eq_getElem hj]; rfl
   have HCS := Lib.hid hcs
   clear hcs hc
   go_enter Tryz.func113, Tryz.ntmps113
   go_wp2_with (at_builtin; go_loud (refine wpList_append_own _ rfl _ _ 40 rfl w.heap.size 127 i0 (.int .u32 0) 1 4 Tryz.underlying40 hi hz0 hz1 hz2 rfl (by decide) _ _ _ rfl hF0 ⟨b, off, none⟩ l.length cap (l.map u32v) rfl (by simp) HCS.out (by intro u hu; obtain ⟨z, _, rfl⟩ := List.mem_map.1 hu; rfl) (small_max (by simp; omega)) (by simp; omega) (by simp) ?_); intro v' w3 hown' hgrow _)
   go_ret
   exact ⟨_, rfl, by unfold Fresh; simpa using hown', ((Below.refl _ _).alloc (Nat.le_refl _) _).grown hgrow (by simp) (fun j e => by cases e; exact Nat.le_refl _)⟩
 · have hq := fun (W : World) => Lib.run_eql_slice_nil (P := Tryz.prog) W 40 127 (some x) 0 0 0 0 Tryz.underlying40
   simp only [Option.isNone_some] at hq
   have hF0 : Fresh (w.alloc (.cells #[] 127)) w.heap.size (.slice (some ⟨w.heap.size, 0, none⟩) 0 0) [] :=
    ⟨rfl, .inr ⟨w.heap.size, 0, _, rfl, Nat.le_refl _, World.alloc_heap_new w _, Nat.le_refl _, Nat.zero_le _, rfl, rfl⟩⟩
   go_enter Tryz.func113, Tryz.ntmps113
   go_wp2_with (at_builtin; go_loud (refine wpList_append_own _ rfl _ _ 40 rfl w.heap.size 127 i0 (.int .u32 0) 1 4 Tryz.underlying40 hi hz0 hz1 hz2 rfl (by decide) _ _ _ rfl hF0 x 0 0 [] rfl (by simp) (by simp) (by simp) (small_max (by simp)) (by simp) (by simp) ?_); intro v' w3 hown' hgrow _)
   go_ret
   exact ⟨_, rfl, by unfold Fresh; simpa using hown', ((Below.refl _ _).alloc (Nat.le_refl _) _).grown hgrow (by simp) (fun j e => by cases e; exact Nat.le_refl _)⟩
def PartInv (w : World) (g : Nat) (post : List Value) (l : List Nat) (dv : Nat) (va : Value) (k : Nat) (W : World) : Prop :=
 (∃ (cur : List Nat) (r : Nat), Blk W g [] cur post ∧ cur.length = l.length ∧ Sm cur ∧ r < dv ∧ cur.take (l.length - k) = l.take (l.length - k) ∧ val (l.drop (l.length - k)) = dv * val (cur.drop (l.length - k)) + r ∧ Boxed W (w.heap.size + 1 + 1) 130 (.int .u64 r)) ∧
 Boxed W w.heap.size 40 va ∧ Boxed W (w.heap.size + 1) 127 (.int .u32 dv) ∧ Boxed W (w.heap.size + 1 + 1 + 1) 40 va ∧ w.grownBy W (some g)
theorem part_facts {dv r x : Nat} (hr : r < dv) (hd : dv < 4294967296) (hx : x < 4294967296) :
  ∃ m q r' : Nat, m = r * 4294967296 + x ∧ q = m / dv ∧ r' = m % dv ∧ bits BinOp.or IntKind.u64 ((r : Int) * 4294967296) (x : Int) = (m : Int) ∧ (m : Int) / (dv : Int) = (q : Int) ∧ (m : Int) % (dv : Int) = (r' : Int) ∧ q < 4294967296 ∧ r' < dv ∧ m = dv * q + r' ∧ m < 18446744073709551616 := by
 refine ⟨r * 4294967296 + x, (r * 4294967296 + x) / dv, (r * 4294967296 + x) % dv, rfl, rfl, rfl, or_shl r x (by omega) hx, (Int.natCast_ediv _ _).symm, (Int.natCast_emod _ _).symm, ?_, Nat.mod_lt _ (by omega), (Nat.div_add_mod _ _).symm, by omega⟩
 refine Nat.div_lt_of_lt_mul ?_
 have := Nat.mul_le_mul_right 4294967296 (show r + 1 ≤ dv by omega)
 omega
theorem divPart_full {w : World} {base g cap dv : Nat} {l : List Nat} (hF : Fresh w base (.slice (some ⟨g, 0, none⟩) l.length cap) l) (hl : l.length ≤ 100000) (hs : Sm l) (hd : 0 < dv) (hd2 : dv < 4294967296) :
  Calls Tryz.prog 148 #[.slice (some ⟨g, 0, none⟩) l.length cap, .int .u32 dv] w fun e w' => ∃ v', e = .returned (.tuple #[v', .int .u32 (val l % dv : Nat)]) ∧ Fresh w' base v' (digs (val l / dv)) ∧ Below base w w' ∧ w.grownBy w' (some g) ∧ (v'.ownBlock = none ∨ v'.ownBlock = some g) := by
 obtain ⟨post, hb, hbg, hpc, hcm⟩ := hF.blk rfl
 have hgw := hb.lt
 have hncap : l.length ≤ cap := by omega
 obtain ⟨n, hn⟩ : ∃ n, n = l.length := ⟨_, rfl⟩
 have HN := Lib.hid hn
 rw [← hn] at hl hncap ⊢
 clear hn hF
 refine (callsIn_wide (n := 0)).1 ?_
 refine callsIn_of_wp_marks Tryz.func148 rfl trivial ?_ rfl
 simp only [Tryz.ntmps148, List.size_toArray, List.length_cons, List.length_nil, Nat.reduceAdd, Nat.reduceSub, Array.replicate_succ, Array.replicate_zero, List.push_toArray, List.append_toArray, List.nil_append, List.cons_append]
 refine wpIn_wide.2 ?_
 go_wp2_with (go_at_call 143; refine (back_any _ _ _ _).mono ?_; rintro e w' ⟨rfl, rfl⟩)
 refine (wpIn_wide (n := 0)).1 ?_
 refine wp_rangeAt (gf := 167) rfl (enters_of Tryz.func167 (by kernel_rfl) rfl)
  (back_iter n g 0 cap (w.heap.size + 1 + 1 + 1) _ (fun j => l.getD j 0) (by omega) (fun _ => rfl)) (fun _ => rfl)
  (PartInv w g post l dv (.slice (some ⟨g, 0, none⟩) n cap)) (fun _ _ => False) ?own (fun _ _ _ _ h _ _ => h) ?reads ?start ?round ?done ?stop
 case own =>
  rintro k W W' r ⟨⟨cur, c, h1, h2, h3, h4, h5, h6, h7⟩, g1, g2, g3, g4⟩ hg hr
  exact ⟨⟨cur, c, h1.keep hg hr, h2, h3, h4, h5, h6, keepBox h7 hg hr⟩, keepBox g1 hg hr, keepBox g2 hg hr, keepBox g3 hg hr, grown_keep g4 (by simp; omega) hg hr⟩
 case reads =>
  rintro k W ⟨⟨cur, c, h1, h2, h3, h4, h5, h6, h7⟩, g1, g2, g3, g4⟩
  refine ⟨g3.cell, fun hk => ?_⟩
  have hn := HN.out
  have e := h1.cell (o := 0) rfl (n - 1 - k) (by omega)
  have e2 := congrArg (fun t => t.getD (n - 1 - k) 0) h5
  simp only [List.getD_eq_getElem?_getD, List.getElem?_take] at e2
  rw [if_pos (by omega), if_pos (by omega), ← List.getD_eq_getElem?_getD, ← List.getD_eq_getElem?_getD] at e2
  rw [e2] at e
  exact e
 case start =>
  have hn := HN.out
  refine ⟨⟨l, 0, (((hb.alloc _).alloc _).alloc _).alloc _, rfl, hs, hd, by simp, by simp [val], (boxed_new2 w _ _ _ _).alloc _⟩, (((Boxed.new w _ _).alloc _).alloc _).alloc _, ((boxed_new1 w _ _ _).alloc _).alloc _, boxed_new3 w _ _ _ _ _, ?_⟩
  exact grown_alloc (grown_alloc (grown_alloc (grown_alloc (grown_refl w _) _) _) _) _
 case round =>
  intro lp k W hk
  obtain ⟨j, hj⟩ : ∃ j, j = n - 1 - k := ⟨_, rfl⟩
  have hx := hs.getD j
  obtain ⟨x, hxe⟩ : ∃ x, x = l.getD j 0 := ⟨_, rfl⟩
  dsimp only
  rw [← hj, ← hxe]
  rw [← hxe] at hx
  have HX := Lib.hid hxe
  have HJ := Lib.hid hj
  have hjn : j < n := by omega
  clear hxe hj hb hs
  gi_wp2
  refine NextRound.mk ?_
  rintro W2 ⟨⟨cur, r, h1, h2, h3, h4, h5, h6, h7⟩, g1, g2, g3, g4⟩
  have hjc : j < cur.length := by rw [h2, ← HN.out]; exact hjn
  obtain ⟨m, q, r', e1, e2, e3, hor, hdiv, hmod, hq, hr', hmq, hmb⟩ := part_facts h4 hd2 hx
  have r1 := h1.cell (o := 0) rfl j hjc
  have r2 := h1.frozen j
  rw [Nat.zero_add] at r1
  obtain ⟨y, hy⟩ : ∃ y, y = cur.getD j 0 := ⟨_, rfl⟩
  rw [← hy] at r1
  clear hy
  have E1 := Lib.hid e1
  have HMQ := Lib.hid hmq
  have H2 := Lib.hid h2
  have H5 := Lib.hid h5
  have H6 := Lib.hid h6
  have q1 := h7.cell
  have q2 := h7.frozen
  have q3 := g1.cell
  have q4 := g2.cell
  have u1 := w64_of dv (by omega)
  have u2 := w64_of q (by omega)
  have u3 := w32_of q hq
  have u4 : ¬ (dv : Int) = 0 := by omega
  have u5 : ¬ dv = 0 := by omega
  clear e1 e2 e3 hmq h2 h5 h6
  gi_wp2_with (refine region_tail_in (Lets.round lp) 8 (by kernel_rfl) (by kernel_rfl) (Stop.of ?_))
  refine Stop.mk ?_
  simp only [List.take_succ_cons, List.take_zero, List.drop_succ_cons, List.drop_zero]
  iterate 8 still_step
  refine wpStill_nil ?_
  gi_wp2
  have hgS : g ≠ w.heap.size + 1 + 1 := by omega
  have hn := HN.out
  have hjj : l.length - (k + 1) = j := by have := HJ.out; omega
  have hjk : l.length - k = j + 1 := by have := HJ.out; omega
  have h5 := H5.out
  have h6 := H6.out
  rw [hjk] at h5 h6
  refine ⟨((((KeepsOthers.setCell W2 _ _).trans (KeepsOthers.setCell _ _ _)).trans (KeepsOthers.setCell _ _ _)).trans (KeepsOthers.drew _)).from _,
    ⟨cur.set j q, r', ?_, ?_, h3.set _ _ hq, hr', ?_, ?_, ?_⟩, ?_, ?_, ?_, ?_⟩
  · have e := ((h1.box hgS (.int .u64 (m : Int))).set (o := 0) rfl j q hjc).box hgS (.int .u64 (r' : Int))
    rw [Nat.zero_add] at e
    exact e
  · rw [List.length_set]; exact H2.out
  · rw [hjj, List.take_set, List.set_eq_of_length_le (by rw [List.length_take]; omega)]
    have := congrArg (List.take j) h5
    simpa [List.take_take] using this
  · have hl1 : l.drop j = x :: l.drop (j + 1) := by
      rw [List.drop_eq_getElem_cons (by omega), HX.out, List.getD_eq_getElem?_getD, List.getElem?_eq_getElem (by omega)]; rfl
    have hc1 : (cur.set j q).drop j = q :: cur.drop (j + 1) := by
      rw [List.drop_eq_getElem_cons (by simpa using hjc), set_drop]
      simp
    rw [hjj, hl1, hc1, val, val, h6]
    have e1 := E1.out
    have e2 := HMQ.out
    generalize val (cur.drop (j + 1)) = Z
    grind
  · exact (boxed_row (h7.set _) (by omega) _).set _
  · exact (boxed_row (g1.other (by omega) _) (by omega) _).other (by omega) _
  · exact (boxed_row (g2.other (by omega) _) (by omega) _).other (by omega) _
  · exact (boxed_row (g3.other (by omega) _) (by omega) _).other (by omega) _
  · exact grown_drew (grown_box (grown_setCell (grown_box g4 (by omega) _) _ _) (by omega) _)
 case done =>
  rintro D W hD ⟨⟨cur, r, h1, h2, h3, h4, h5, h6, h7⟩, g1, g2, g3, g4⟩ hK
  have hn := HN.out
  rw [← hn, Nat.sub_self, List.drop_zero, List.drop_zero] at h6
  have hcl : cur.length = n := by omega
  have hW := h1.fresh (base := base) (cap := cap) hbg (by omega) hcm
  rw [hcl] at hW
  have kt := unflip (trim_fresh (W := W.drew) hW hcl.symm (by omega))
  have hR := hW.trim' hcl.symm h3
  have e1 : val cur = val l / dv := by
    rw [h6, Nat.mul_comm, Nat.add_comm, Nat.add_mul_div_right _ _ hd, Nat.div_eq_of_lt h4]; omega
  have e2 : r = val l % dv := by
    rw [h6, Nat.mul_comm, Nat.add_comm, Nat.add_mul_mod_self_right, Nat.mod_eq_of_lt h4]
  rw [e1] at hR
  have HE2 := Lib.hid e2
  have q1 := h7.cell
  have q3 := g1.cell
  have u1 := w32_of r (by omega)
  have u2 : r < 4294967296 := by omega
  clear h5 h6 hcl hn e1 e2 hb hs
  go_wp2_with fail
  refine (wpIn_wide (n := 0)).1 ?_
  refine region_tail_in Lets.wide 5 (by kernel_rfl) (by kernel_rfl) ?_
  simp only [List.take_succ_cons, List.take_zero, List.drop_succ_cons, List.drop_zero]
  still_step
  still_call kt
  clear kt
  still_step
  still_step
  still_step
  refine wpStill_nil ?_
  gi_wp2
  go_wp2
  refine ⟨by simp, .inl ⟨_, _, rfl, run_takeDeferred (w := W.drew) hK, ?_⟩⟩
  refine ⟨_, results_tmp2 rfl _ _ _, _, ?_, Fresh.left (W := W.drew) _ hR hK rfl, ?_, grown_left (W := W.drew) _ (grown_drew g4) (by simp at hD; omega) hK rfl, by unfold trimV; split <;> simp [Value.ownBlock]⟩
  · rw [← HE2.out]; rfl
  · refine (((Below.refl base w).grown g4 (by omega) (fun j e => by cases e; exact hbg)).drew).grown (grownBy_putObj' W.drew D _) ?_ (fun j e => ?_)
    · have := g4.size; show base ≤ W.heap.size; omega
    · cases e; simp at hD; omega
 case stop =>
  rintro D c W _ h _
  exact h.elim
theorem divPart_some {w : World} {base g cap dv : Nat} {l : List Nat} (hF : Fresh w base (.slice (some ⟨g, 0, none⟩) l.length cap) l) (hl : l.length ≤ 100000) (hs : Sm l) (hd : 0 < dv) (hd2 : dv < 4294967296) :
  Calls Tryz.prog 148 #[.slice (some ⟨g, 0, none⟩) l.length cap, .int .u32 dv] w fun e w' => ∃ v', e = .returned (.tuple #[v', .int .u32 (val l % dv : Nat)]) ∧ Fresh w' base v' (digs (val l / dv)) ∧ Below base w w' :=
 (divPart_full hF hl hs hd hd2).mono fun _ _ ⟨v', h1, h2, h3, _⟩ => ⟨v', h1, h2, h3⟩
end Go.Proofs.YtgmbaamfobhceaaGreat
