/- A grid's rows, from the last one up: what each round is handed. Stairs that begin at each column: what they make of a column, from the last row .. -/
import Derived.Test.YtgmbaamfobhceaaGreatGGrL
import Derived.Test.YtgmbaamfobhceaaGreatGIter
import Derived.Test.YtgmbaamfobhceaaGreatGVecM
set_option linter.unusedSimpArgs false
set_option linter.unusedVariables false
set_option maxRecDepth 100000
set_option maxHeartbeats 8000000
namespace Go.Proofs.YtgmbaamfobhceaaGreat
section
open Go Go.Proofs Go.RowKit Go.Shelf Nu
attribute [local go_sem] Oper.semAt_some
theorem gback_iter (N b off cap Bs : Nat) (a : Option Addr) (A : Nat → Option Addr) (L C : Nat → Nat) (hN : N ≤ 1000000) (ha : 0 < N → a = some ⟨b, off, none⟩) :
  IterAt Tryz.prog 138 #[.pointer (some ⟨Bs, 0, none⟩)] N (fun k => #[.int .i64 (N - 1 - k : Nat), .slice (A (N - 1 - k)) (L (N - 1 - k)) (C (N - 1 - k))])
   (fun k W => W.cell? ⟨Bs, 0, none⟩ = some (.slice a N cap) ∧ (k < N → W.cell? ⟨b, off + (N - 1 - k), none⟩ = some (.slice (A (N - 1 - k)) (L (N - 1 - k)) (C (N - 1 - k))))) := by
 intro l J Jx W hB hJd hY h0
 have hbox := (hB 0 W h0).1
 refine callsIn_of_wp Tryz.func138 rfl trivial ?_ rfl
 simp only [Tryz.ntmps138, List.size_toArray, List.length_cons, List.length_nil, Nat.reduceAdd, Nat.reduceSub, Array.replicate_succ, Array.replicate_zero, List.push_toArray, List.append_toArray, List.nil_append, List.cons_append]
 gi_wp2
 gi_loopw [3] (fun i wr => ∃ m k : Nat, m + k = N ∧ i = .int .i64 ((m : Int) - 1) ∧ J k wr) (fun i _ => (intOf i + 1).toNat)
 case atStart => exact ⟨N, 0, by omega, rfl, h0⟩
 case round =>
  obtain ⟨m, k, hmk, rfl, hJs⟩ := hrel
  cases m with
  | zero =>
   obtain rfl : k = N := by omega
   clear hB hY hJd
   gi_wp2
   go_end0
   exact ⟨⟨_, rfl⟩, .inl hJs⟩
  | succ m =>
   obtain ⟨fn, tmps, assign, body, hy, hR⟩ := hY k wr hJs (by omega)
   have hcx := (hB k wr hJs).2 (by omega)
   have hbx := (hB k wr hJs).1
   obtain rfl := ha (by omega)
   have em : N - 1 - k = m := by omega
   rw [em] at hy hcx
   clear hB hY ha em hbox hJd
   generalize A m = ya at *
   generalize L m = yl at *
   generalize C m = yc at *
   have e1 : ((m + 1 : Nat) : Int) - 1 = (m : Int) := by omega
   rw [e1]
   clear e1
   have hmk' : m + 1 + k ≤ N := by omega
   have HMK := Lib.hid hmk
   clear hmk
   gi_wp2
   refine ⟨rfl, hR.mono ?_⟩
   rintro e W3 (⟨rfl, hJ3⟩ | ⟨rfl, hJx3⟩)
   · gi_wp2
     go_roundw
     case rel => exact ⟨m, k + 1, by have := HMK.out; omega, by simp, hJ3⟩
     case measure => simp [intOf]
   · gi_wp2
     refine bodyPost_ret (results_none rfl _ _ _) rfl ?_
     exact ⟨⟨_, rfl⟩, .inr hJx3⟩
theorem gback_any (a : Option Addr) (n ca : Nat) (w : World) :
  Calls Tryz.prog 98 #[.slice a n ca] w fun e w' => e = .returned (.func (.func 138) #[] #[.pointer (some ⟨w.heap.size, 0, none⟩)]) ∧ w' = w.alloc (.cells #[.slice a n ca] 70) := by
 go_enter Tryz.func98, Tryz.ntmps98
 go_wp2
 go_ret
 exact ⟨rfl, rfl⟩
end
section
open Go Go.Proofs Go.RowKit Go.Shelf Nu
set_option linter.unusedVariables false
set_option linter.unusedSimpArgs false
def mid (r : List Rat) (n j : Nat) : List Rat := (r.take n).drop j
def sol (R : List (List Rat)) (n : Nat) : Nat → List Rat
 | 0 => []
 | k + 1 => (((R.getD (n - (k + 1)) []).getD n 0 - dot (mid (R.getD (n - (k + 1)) []) n (n - k)) (sol R n k)) / (R.getD (n - (k + 1)) []).getD (n - (k + 1)) 0) :: sol R n k
theorem sol_len (R : List (List Rat)) (n k : Nat) : (sol R n k).length = k := by
 induction k with
 | zero => rfl
 | succ k ih => show (sol R n k).length + 1 = k + 1; rw [ih]
end
section
open Go Go.Proofs Go.RowKit Go.Shelf Nu
set_option linter.unusedVariables false
set_option linter.unusedSimpArgs false
set_option maxRecDepth 100000
attribute [local go_sem] Oper.semAt_some
theorem rats_tail {W0 : World} {b n c k : Nat} {qs : List Qr} (h : VReads W0 (.slice (some ⟨b, 0, none⟩) n c) qs) (hk : k ≤ n) (h0 : 0 < n) :
   VReads W0 (.slice (if c = k then some ⟨b, 0, none⟩ else some ⟨b, k * 3, none⟩) (n - k) (c - k)) (qs.drop k) := by
 obtain ⟨hn, hc, b', o', hA, hel⟩ := h.addr
 by_cases hck : c = k
 · rw [if_pos hck, List.drop_of_length_le (by omega), show n - k = 0 by omega, show c - k = 0 by omega]
   exact .inr (.inr ⟨⟨b, 0, none⟩, rfl, rfl⟩)
 · rw [if_neg hck]
   exact h.drop k _ _ _ rfl rfl (by omega) (by omega) (by omega)
theorem rats_mid {W0 : World} {b o n c k m : Nat} {qs : List Qr} (h : VReads W0 (.slice (some ⟨b, o, none⟩) n c) qs) (hk : k ≤ m) (hm : m < n) :
  VReads W0 (.slice (some ⟨b, o + k * 3, none⟩) (m - k) (c - k)) ((qs.take m).drop k) := by
 have h2 := (h.drop k (n - k) (c - k) (o + k * 3) rfl rfl rfl (by omega) (by omega)).take (m - k) (by omega)
 rwa [← List.drop_take] at h2
theorem back_fill {T : List Rat} {zs : List Zr} {K k : Nat} {z : Zr} {x : Rat} (hk : k < K) (hT : T.length = k) (h : zs.map (·.1) = List.replicate (K - k) (false, [], []) ++ T.map qr) (hz : z.1 = qr x) : (zs.set (K - 1 - k) z).map (·.1) = List.replicate (K - (k + 1)) (false, [], []) ++ (x :: T).map qr := by
 obtain ⟨m, hm⟩ : ∃ m, K - k = m + 1 := ⟨K - k - 1, by omega⟩
 rw [List.map_set, h, hm, show K - 1 - k = m by omega, show K - (k + 1) = m by omega, List.replicate_succ', List.append_assoc, List.set_append_right _ _ (by rw [List.length_replicate]; exact Nat.le_refl _), List.length_replicate, Nat.sub_self, hz]
 rfl
def rowA (vs : List Value) (j : Nat) : Option Addr := match vs[j]? with | some (.slice a _ _) => a | _ => none
def rowC (vs : List Value) (j : Nat) : Nat := match vs[j]? with | some (.slice _ _ c) => c | _ => 0
theorem GR.row {W : World} {base g n cap : Nat} {vs : List Value} {R : List (List Rat)} (h : GR W base g n cap vs R) {k : Nat} (hk : k < n) : ∃ r, R[k]? = some r ∧ vs[k]? = some (.slice (rowA vs k) r.length (rowC vs k)) ∧ VReads W (.slice (rowA vs k) r.length (rowC vs k)) (r.map qr) ∧ W.cell? ⟨g, k, none⟩ = some (.slice (rowA vs k) r.length (rowC vs k)) := by
 obtain ⟨a, c, r, e1, e2, e3, e4, _⟩ := h.at hk
 have ha : rowA vs k = a := by unfold rowA; rw [e2]
 have hc : rowC vs k = c := by unfold rowC; rw [e2]
 rw [ha, hc]
 exact ⟨r, e1, e2, e3, e4⟩
theorem boxN_row {W : World} {B g o : Nat} {t : TypeId} {cs : Array Value} (h : BoxN W B t cs) (hne : B ≠ g) (x : Value) : BoxN (W.setCell ⟨g, o, none⟩ x) B t cs := (Below.heap_setCell W ⟨g, o, none⟩ x B hne).trans h
theorem calm {c : Code} {Q : Exit → Act → World → Prop} {a : Act} {w : World} (h : c.wp Tryz.prog (fun e a w => e = .normal ∧ Q .normal a w) a w) : c.wp Tryz.prog Q a w :=
 Code.wp_mono (fun e a w h => by obtain ⟨rfl, h⟩ := h; exact h) h
theorem cell_three {W : World} {g k : Nat} {u0 u1 u2 v : Value} {p : Addr} (h : W.cell? p = some v) (hp : p.block ≠ g) : (((W.setCell ⟨g, k, none⟩ u0).setCell ⟨g, k + 1, none⟩ u1).setCell ⟨g, k + 2, none⟩ u2).cell? p = some v := by
 have c : ∀ (W : World) (j : Nat) (u : Value), W.cell? p = some v → (W.setCell ⟨g, j, none⟩ u).cell? p = some v := fun W j u e => (World.cell?_of_block (w := W) (Below.heap_setCell W ⟨g, j, none⟩ u p.block hp)).trans e
 exact c _ _ _ (c _ _ _ (c _ _ _ h))
theorem VF.put' {W : World} {base g cap k n : Nat} {zs : List Zr} (h : VF W base (.slice (some ⟨g, 0, none⟩) n cap) zs) (hn : zs.length = n) (hk : k < n) (z : Zr) (hz : ZIn W z) :
  VF (((W.setCell ⟨g, k * 3, none⟩ (.bool z.1.1)).setCell ⟨g, k * 3 + 1, none⟩ (.slice z.2.1.1 z.1.2.1.length z.2.1.2)).setCell ⟨g, k * 3 + 2, none⟩ (.slice z.2.2.1 z.1.2.2.length z.2.2.2)) base (.slice (some ⟨g, 0, none⟩) n cap) (zs.set k z) := by
 subst hn; exact h.put hk z hz
def SolI (w : World) (R : List (List Rat)) (K b1 b2 xb bs : Nat) (gs : Value) (k : Nat) (W : World) : Prop :=
  (∃ zs : List Zr, zs.map (·.1) = List.replicate (K - k) (false, [], []) ++ (sol R K k).map qr ∧ VF W w.heap.size (.slice (some ⟨xb, 0, none⟩) K K) zs) ∧
  Boxed W b1 3 (.int .i64 (K : Int)) ∧ Boxed W b2 30 (.slice (some ⟨xb, 0, none⟩) K K) ∧ Boxed W bs 70 gs ∧ Below w.heap.size w W
theorem SolI.own {w : World} {R : List (List Rat)} {K b1 b2 xb bs M : Nat} {gs : Value} (hM : w.heap.size ≤ M) : OwnFrom M (SolI w R K b1 b2 xb bs gs) := by
 rintro k W W' row ⟨⟨zs, h0, h1⟩, h2, h3, h4, h5⟩ hg hr
 exact ⟨⟨zs, h0, h1.off hg hr⟩, keepBox h2 hg hr, keepBox h3 hg hr, keepBox h4 hg hr, keepBelow h5 (Nat.le_refl _) hM hg hr⟩
theorem gback_box (a : Option Addr) (n ca : Nat) (w : World) :
  Calls Tryz.prog 98 #[.slice a n ca] w fun e w' => ∃ s, e = .returned (.func (.func 138) #[] #[.pointer (some ⟨s, 0, none⟩)]) ∧ Boxed w' s 70 (.slice a n ca) ∧ w.heap.size ≤ s ∧ Below w.heap.size w w' := by
 refine (gback_any a n ca w).mono ?_
 rintro e w' ⟨rfl, rfl⟩
 exact ⟨_, rfl, Boxed.new w _ _, Nat.le_refl _, (Below.refl _ _).alloc (Nat.le_refl _) _⟩
def steep (R : List (List Rat)) (K : Nat) : Prop := ∀ j, j < K → (R.getD j []).length = K + 1 ∧ (R.getD j []).getD j 0 ≠ 0 ∧ wts (R.getD j []) + wts (sol R K (K - 1 - j)) ≤ 2900
theorem g_solved {w : World} {base B g n cap' K lc : Nat} {la : Option Addr} {R : List (List Rat)} {vs : List Value} (hB : BoxN w B 74 #[.slice (some ⟨g, 0, none⟩) n cap', .slice la K lc]) (hG : GR w base g n cap' vs R) (hK : K ≤ n) (hn : n ≤ 1000) (hs : steep R K) :
    Calls Tryz.prog 51 #[.pointer (some ⟨B, 0, none⟩)] w fun e w' => ∃ va vc, e = .returned (.slice va K vc) ∧ VReads w' (.slice va K vc) ((sol R K K).map qr) ∧ Below w.heap.size w w' := by
  obtain ⟨i0, hi, hz0, hz1, hz2⟩ := info_parts info_rat
  have hcap : n ≤ cap' := by
    rcases hG.own.2 with ⟨e, _⟩ | ⟨g', cap2, cur, e, _, _, hx, _⟩
    · cases e
    · cases e; exact hx
  have hgl := hG.lt.2
  have z0 := hB.cell 0 _ rfl
  have z1 := hB.cell 1 _ rfl
  have HB := Lib.hid hB
  have HG := Lib.hid hG
  have HS := Lib.hid hs
  clear hB hG hs
  refine (callsIn_wide (n := 0)).1 ?_
  refine callsIn_of_wp_marks Tryz.func51 rfl trivial ?_ rfl
  simp only [Tryz.ntmps51, List.size_toArray, List.length_cons, List.length_nil, Nat.reduceAdd, Nat.reduceSub, Array.replicate_succ, Array.replicate_zero, List.push_toArray, List.append_toArray, List.nil_append, List.cons_append]
  refine wpIn_wide.2 ?_
  go_wp2_with (first
    | (at_make; go_loud (refine wpList_make_ratn hi hz0 hz1 hz2 _ rfl _ _ rfl w.heap.size .i64 .i64 K rfl rfl (by omega) (by simp) ?_); intro w2 hV2 hgrow2; have HV2 := Lib.hid hV2; have HG2 := Lib.hid hgrow2; have HW2 := Lib.hid (show Below w.heap.size w w2 from ((Below.refl _ _).alloc (Nat.le_refl _) _).grown hgrow2 (by simp) (fun _ e => by cases e)); clear hV2 hgrow2)
    | fail)
  have hxb0 := HV2.out
  simp only [World.size_alloc] at hxb0
  obtain ⟨xb, hxb⟩ : ∃ xb, xb = w.heap.size + 1 := ⟨_, rfl⟩
  rw [← hxb] at hxb0 ⊢
  have hx2 : xb < w2.heap.size := (hxb0.lt (g := xb) rfl).2
  obtain ⟨w3, hw3⟩ : ∃ w3, w3 = w2.alloc (.cells #[.slice (some ⟨xb, 0, none⟩) K K] 30) := ⟨_, rfl⟩
  have HB1 := Lib.hid (show Boxed w3 w.heap.size 3 (.int .i64 (K : Int)) from hw3 ▸ (((Boxed.new w _ _).kept HG2.out (by simp)).alloc _))
  have HB2 := Lib.hid (show Boxed w3 w2.heap.size 30 (.slice (some ⟨xb, 0, none⟩) K K) from hw3 ▸ Boxed.new w2 _ _)
  have HV := Lib.hid (show VF w3 w.heap.size (.slice (some ⟨xb, 0, none⟩) K K) (List.replicate K z0r) from hw3 ▸ hxb0.alloc _)
  have HW := Lib.hid (show Below w.heap.size w w3 from hw3 ▸ HW2.out.alloc HW2.out.size _)
  have hs3 : w3.heap.size = w2.heap.size + 1 := by rw [hw3, World.size_alloc]
  rw [← hw3]
  obtain ⟨b2, hb2⟩ : ∃ b2, b2 = w2.heap.size := ⟨_, rfl⟩
  rw [← hb2] at HB2 hx2 hs3 ⊢
  have HX := Lib.hid (And.intro hxb (And.intro hx2 hs3))
  clear HG2 HV2 HW2 hw3 hxb0 hb2 z0 z1 hxb hx2 hs3
  have HC := Lib.hid (fun (W : World) (r : Below w3.heap.size w3 W) => show W.cell? ⟨B, 0, none⟩ = some (.slice (some ⟨g, 0, none⟩) n cap') ∧ W.cell? ⟨w.heap.size, 0, none⟩ = some (.int .i64 (K : Int)) from ⟨((HB.out.under HW.out).under r).cell 0 _ rfl, (boxed_under HB1.out r).cell⟩)
  have KB := Lib.hid (fun (W : World) (r : Below w3.heap.size w3 W) => (gback_box (some ⟨g, 0, none⟩) K cap' W).mono (R' := fun e w' => ∃ s, e = .returned (.func (.func 138) #[] #[.pointer (some ⟨s, 0, none⟩)]) ∧ Boxed w' s 70 (.slice (some ⟨g, 0, none⟩) K cap') ∧ w3.heap.size ≤ s ∧ Below W.heap.size W w') (fun e w' ⟨s, h1, h2, h3, h4⟩ => ⟨s, h1, h2, Nat.le_trans r.size h3, h4⟩))
  have n0 : (0 : Int) ≤ (K : Int) := by omega
  have n1 : (K : Int) ≤ (cap' : Int) := by omega
  refine calm ?_
  have M : Mem w3 [] [] w3 := Mem.start w3
  refine region_mem (S := (fun (W : World) => W.cell? ⟨B, 0, none⟩ = some (.slice (some ⟨g, 0, none⟩) n cap') ∧ W.cell? ⟨w.heap.size, 0, none⟩ = some (.int .i64 (K : Int)))) M (by kernel_rfl) ?_
  intro V0 M
  have hS0 : (fun (W : World) => W.cell? ⟨B, 0, none⟩ = some (.slice (some ⟨g, 0, none⟩) n cap') ∧ W.cell? ⟨w.heap.size, 0, none⟩ = some (.int .i64 (K : Int))) V0 := ⟨(HC.out _ M.below).1, (HC.out _ M.below).2⟩
  refine wtk 0 (.pointer (some ⟨B, 0, none⟩)) rfl (fun _ _ _ h => nomatch h.1) (Or.inl ⟨by rfl, fun W3 hS => by go_simp⟩) hS0 ?_
  try simp only [Act.put, List.setIfInBounds_toArray, List.set_cons_zero, List.set_cons_succ]
  refine wtk 1 (.pointer (some ⟨B, 0, none⟩)) rfl (fun _ _ _ h => nomatch h.1) (Or.inl ⟨by rfl, fun W3 hS => by go_simp⟩) hS0 ?_
  try simp only [Act.put, List.setIfInBounds_toArray, List.set_cons_zero, List.set_cons_succ]
  refine wtk 2 (.pointer (some ⟨B, 0, none⟩)) rfl (fun _ _ _ h => nomatch h.1) (Or.inl ⟨by rfl, fun W3 hS => by go_simp⟩) hS0 ?_
  try simp only [Act.put, List.setIfInBounds_toArray, List.set_cons_zero, List.set_cons_succ]
  refine wtk 3 (.slice (some ⟨g, 0, none⟩) n cap') rfl (fun _ _ _ h => nomatch h.1) (Or.inl ⟨by rfl, fun W3 hS => by obtain ⟨hS0, hS1⟩ := hS; go_simp⟩) hS0 ?_
  try simp only [Act.put, List.setIfInBounds_toArray, List.set_cons_zero, List.set_cons_succ]
  refine wtk 4 (.int .i64 (K : Int)) rfl (fun _ _ _ h => nomatch h.1) (Or.inl ⟨by rfl, fun W3 hS => by obtain ⟨hS0, hS1⟩ := hS; go_simp⟩) hS0 ?_
  try simp only [Act.put, List.setIfInBounds_toArray, List.set_cons_zero, List.set_cons_succ]
  refine wtk 5 (.slice (some ⟨g, 0, none⟩) K cap') rfl (fun _ _ _ h => nomatch h.1) (Or.inl ⟨by rfl, fun W3 hS => by go_simp⟩) hS0 ?_
  try simp only [Act.put, List.setIfInBounds_toArray, List.set_cons_zero, List.set_cons_succ]
  clear hS0
  refine one_op 6 rfl (fun K1 hK => ?_)
  go_simp
  refine (KB.out _ M.below).mono ?_
  rintro e V1_6 ⟨bs, rfl, hbs, hsb, rr⟩
  have M' := M.up rr
  clear M rr 
  have M := M'; clear M'
  refine hK _ _ ⟨⟨(HC.out _ M.below).1, (HC.out _ M.below).2⟩, ?_⟩
  clear hK K1
  refine wdn ?_
  refine ⟨rfl, ?_⟩
  have HB1 := Lib.hid (boxed_under HB1.out M.below)
  have HB2 := Lib.hid (boxed_under HB2.out M.below)
  have HV := Lib.hid (HV.out.below M.below)
  have HW := Lib.hid (then_below HW.out M.below)
  have HBS := Lib.hid hbs
  have hsz : w.heap.size ≤ V1_6.heap.size := HW.out.size
  have HSB := Lib.hid (show b2 < bs from by have := HX.out.2.2; omega)
  clear M hbs hsb HC KB
  obtain ⟨V, hV⟩ : ∃ V, V = V1_6 := ⟨_, rfl⟩
  rw [← hV] at HB1 HB2 HV HW HBS hsz ⊢
  clear hV
  go_wp2_with fail
  refine (wpIn_wide (n := 0)).1 ?_
  refine wp_rangeAt (gf := 138) rfl (enters_of Tryz.func138 (by kernel_rfl) rfl)
    (gback_iter K g 0 cap' bs (some ⟨g, 0, none⟩) (rowA vs) (fun j => (R.getD j []).length) (rowC vs) (by omega) (fun _ => rfl)) (fun _ => rfl)
    (SolI w R K w.heap.size b2 xb bs (.slice (some ⟨g, 0, none⟩) K cap')) (fun _ _ => False) (SolI.own hsz) (fun _ _ _ _ h _ _ => h) ?reads ?start ?round ?done ?stop
  case reads =>
    rintro k W ⟨-, -, -, h4, h5⟩
    refine ⟨h4.cell, fun hk => ?_⟩
    obtain ⟨r, e1, e2, e3, e4⟩ := HG.out.row (k := K - 1 - k) (by omega)
    rw [Nat.zero_add, show (R.getD (K - 1 - k) []) = r by rw [List.getD_eq_getElem?_getD, e1]; rfl]
    exact (h5.cell (p := ⟨g, K - 1 - k, none⟩) hgl).trans e4
  case start => exact ⟨⟨List.replicate K z0r, by simp [z0r, sol], HV.out⟩, HB1.out, HB2.out, HBS.out, HW.out⟩
  case round =>
    as_aux_lemma =>
    intro l k W hk
    obtain ⟨j, hj⟩ : ∃ j, j = K - 1 - k := ⟨_, rfl⟩
    obtain ⟨r, er, evs, hv, ecell⟩ := HG.out.row (k := j) (by omega)
    have hget : R.getD j [] = r := by rw [List.getD_eq_getElem?_getD, er]; rfl
    obtain ⟨hrl, hnz, hwr⟩ := HS.out j (by omega)
    rw [hget] at hrl hnz hwr
    rw [hrl] at hv
    obtain ⟨-, hc1, rb, ro, hA, hel⟩ := hv.addr
    obtain ⟨era, hrb⟩ := hA (by omega)
    dsimp only
    rw [← hj, hget, hrl, era]
    rw [era] at hv
    obtain ⟨rc, hrc⟩ : ∃ rc, rc = rowC vs j := ⟨_, rfl⟩
    rw [← hrc] at hv hc1 ⊢
    have hjk : K - (j + 1) = k := by omega
    have hsol : sol R K (k + 1) = ((r.getD K 0 - dot (mid r K (j + 1)) (sol R K k)) / r.getD j 0) :: sol R K k := by
      show ((R.getD (K - (k + 1)) []).getD K 0 - dot (mid (R.getD (K - (k + 1)) []) K (K - k)) (sol R K k)) / (R.getD (K - (k + 1)) []).getD (K - (k + 1)) 0 :: sol R K k = _
      rw [show K - (k + 1) = j by omega, show K - k = j + 1 by omega, hget]
    have hm1 := rats_mid hv (k := j + 1) (m := K) (by omega) (by omega)
    have hmm : VReads w (.slice (some ⟨rb, ro + (j + 1) * 3, none⟩) k (rc - (j + 1))) ((mid r K (j + 1)).map qr) := by
      rw [hjk, ← List.map_take, ← List.map_drop] at hm1; exact hm1
    obtain ⟨T, hT⟩ : ∃ T, T = dot (mid r K (j + 1)) (sol R K k) := ⟨_, rfl⟩
    have hwk : wts r + wts (sol R K k) ≤ 2900 := by rw [show K - 1 - j = k by omega] at hwr; exact hwr
    have hwm : wts (mid r K (j + 1)) ≤ wts r := by
      have h1 := wts_take_drop r K
      have h2 := wts_take_drop (r.take K) (j + 1)
      unfold mid; omega
    have hwT : wt T ≤ 2901 := by
      have h1 := wt_rsum (zmul (mid r K (j + 1)) (sol R K k))
      have h2 := wts_zmul (mid r K (j + 1)) (sol R K k)
      rw [hT]; unfold dot; omega
    have hqX := hel K (qr (r.getD K 0)) (at_qr (by omega))
    have hqY := hel j (qr (r.getD j 0)) (at_qr (by omega))
    have hwX : wt (r.getD K 0) ≤ 2900 := by
      have := wt_mem (l := r) (x := r.getD K 0) (by rw [List.getD_eq_getElem?_getD, List.getElem?_eq_getElem (by omega)]; exact List.getElem_mem _)
      omega
    have hwY : wt (r.getD j 0) ≤ 2900 := by
      have := wt_mem (l := r) (x := r.getD j 0) (by rw [List.getD_eq_getElem?_getD, List.getElem?_eq_getElem (by omega)]; exact List.getElem_mem _)
      omega
    rw [← hT] at hsol
    obtain ⟨X, hX⟩ : ∃ X, X = r.getD K 0 := ⟨_, rfl⟩
    obtain ⟨Y, hY⟩ : ∃ Y, Y = r.getD j 0 := ⟨_, rfl⟩
    rw [← hX] at hsol hqX hwX
    rw [← hY] at hsol hqY hwY hnz
    obtain ⟨xa, x1, xa', x2, cx0, cx1, cx2, gx1, gx2⟩ := hqX
    obtain ⟨ya, y1, ya', y2, cy0, cy1, cy2, gy1, gy2⟩ := hqY
    have hwU : wt (X - T) ≤ 5801 := by have := wt_sub X T; omega
    have fX := fit_qr (X := X) (by omega)
    have fY := fit_qr (X := Y) (by omega)
    have fT := fit_qr (X := T) (by omega)
    have fU := fit_qr (X := X - T) (by omega)
    have KD := Lib.hid (fun (W : World) (r0 : Below w.heap.size w W) {p : Option Addr} (hx : VReads W (.slice p k k) ((sol R K k).map qr)) => show Calls Tryz.prog 27 #[.slice (some ⟨rb, ro + (j + 1) * 3, none⟩) k (rc - (j + 1)), .slice p k k] W fun e w' => ∃ a c a' c', e = .returned (.tuple #[.agg #[.bool (qr T).1, .slice a (qr T).2.1.length c, .slice a' (qr T).2.2.length c'], .int .i64 0]) ∧ Reads w' (.slice a (qr T).2.1.length c) (qr T).2.1 ∧ Reads w' (.slice a' (qr T).2.2.length c') (qr T).2.2 ∧ Below W.heap.size W w' from by rw [hT]; exact v_dot (hmm.below r0) hx (by omega))
    have KS := Lib.hid (fun (W : World) {p1 o1 p2 o2 : Option Addr} {q1 r1 q2 r2 : Nat} (g1 : Reads W (.slice p1 (qr X).2.1.length q1) (qr X).2.1) (g2 : Reads W (.slice o1 (qr X).2.2.length r1) (qr X).2.2) (g3 : Reads W (.slice p2 (qr T).2.1.length q2) (qr T).2.1) (g4 : Reads W (.slice o2 (qr T).2.2.length r2) (qr T).2.2) => r_sub (qr_can X).is (qr_can T).is (qr_can (X - T)) rfl fX.2.1 fX.2.2 fT.2.1 fT.2.2 g1 g2 g3 g4)
    have KV := Lib.hid (fun (W : World) {p1 o1 p2 o2 : Option Addr} {q1 r1 q2 r2 : Nat} (g1 : Reads W (.slice p1 (qr (X - T)).2.1.length q1) (qr (X - T)).2.1) (g2 : Reads W (.slice o1 (qr (X - T)).2.2.length r1) (qr (X - T)).2.2) (g3 : Reads W (.slice p2 (qr Y).2.1.length q2) (qr Y).2.1) (g4 : Reads W (.slice o2 (qr Y).2.2.length r2) (qr Y).2.2) => r_div_ok (qr_can (X - T)) (qr_can Y) hnz (qr_can ((X - T) / Y)) rfl fU.2.1 fU.2.2 fY.2.1 fY.2.2 g1 g2 g3 g4)
    obtain ⟨qZ, hqZ⟩ : ∃ q, q = qr ((X - T) / Y) := ⟨_, rfl⟩
    obtain ⟨qU, hqU⟩ : ∃ q, q = qr (X - T) := ⟨_, rfl⟩
    obtain ⟨qT, hqT⟩ : ∃ q, q = qr T := ⟨_, rfl⟩
    obtain ⟨qX, hqX⟩ : ∃ q, q = qr X := ⟨_, rfl⟩
    obtain ⟨qY, hqY⟩ : ∃ q, q = qr Y := ⟨_, rfl⟩
    rw [← hqU, ← hqY, ← hqZ] at KV
    rw [← hqU, ← hqT, ← hqX] at KS
    rw [← hqT] at KD
    rw [← hqX] at cx0 cx1 cx2 gx1 gx2
    rw [← hqY] at cy0 cy1 cy2 gy1 gy2
    have HSOL := Lib.hid hsol
    have HRB := Lib.hid hrb
    have HQZ := Lib.hid hqZ
    have HGX := Lib.hid (And.intro gx1 (And.intro gx2 (And.intro gy1 gy2)))
    have HCW := Lib.hid (show ∀ W, Below w.heap.size w W → W.cell? ⟨rb, ro + K * 3, none⟩ = some (.bool qX.1) ∧ W.cell? ⟨rb, ro + K * 3 + 1, none⟩ = some (.slice xa qX.2.1.length x1) ∧ W.cell? ⟨rb, ro + K * 3 + 2, none⟩ = some (.slice xa' qX.2.2.length x2) ∧ W.cell? ⟨rb, ro + j * 3, none⟩ = some (.bool qY.1) ∧ W.cell? ⟨rb, ro + j * 3 + 1, none⟩ = some (.slice ya qY.2.1.length y1) ∧ W.cell? ⟨rb, ro + j * 3 + 2, none⟩ = some (.slice ya' qY.2.2.length y2) from fun W r0 => ⟨(r0.cell (p := ⟨rb, ro + K * 3, none⟩) hrb).trans cx0, (r0.cell (p := ⟨rb, ro + K * 3 + 1, none⟩) hrb).trans cx1, (r0.cell (p := ⟨rb, ro + K * 3 + 2, none⟩) hrb).trans cx2, (r0.cell (p := ⟨rb, ro + j * 3, none⟩) hrb).trans cy0, (r0.cell (p := ⟨rb, ro + j * 3 + 1, none⟩) hrb).trans cy1, (r0.cell (p := ⟨rb, ro + j * 3 + 2, none⟩) hrb).trans cy2⟩)
    have HJ := Lib.hid (And.intro hj (And.intro hjk hc1))
    have w0 : IntKind.i64.wrap ((j : Int) + 1) = ((j + 1 : Nat) : Int) := IntWalk.i64_in _ (by omega)
    have i0' : (0 : Int) ≤ (j : Int) := by omega
    have i1' : (j : Int) < (K : Int) := by omega
    have i2' : (j : Int) < ((K + 1 : Nat) : Int) := by omega
    have i3' : (K : Int) < ((K + 1 : Nat) : Int) := by omega
    have i4' : ¬ ((K : Int) + 1 ≤ (K : Int)) := by omega
    have i5' : ¬ ((K : Int) + 1 ≤ (j : Int)) := by omega
    clear hsol hqZ hqU hqT hqX hqY gx1 gx2 gy1 gy2 cx0 cx1 cx2 cy0 cy1 cy2 hel hA hv hm1 hmm hT hwk hwm hwT hwX hwY hX hY hnz hwr hwU fX fY fT fU hget hrl er evs ecell hj hjk hc1 era hrc hrb HV HW HBS HB1 HB2
    gi_wp2
    refine NextRound.mk ?_
    rintro W2 ⟨⟨zs, hz, hV⟩, hb1, hb2, hbs, hbel⟩
    have hzl : zs.length = K := by
      have := congrArg List.length hz
      rw [List.length_map, List.length_append, List.length_replicate, List.length_map, sol_len] at this
      omega
    have hxv := rats_tail (W0 := W2) (by have := hV.fresh.reads; rw [hz] at this; exact this) (k := j + 1) (by have := HJ.out.1; omega) (by omega)
    obtain ⟨xp, hxp⟩ : ∃ p, (if K = j + 1 then some (⟨xb, 0, none⟩ : Addr) else some ⟨xb, (j + 1) * 3, none⟩) = p := ⟨_, rfl⟩
    rw [hxp] at hxv
    have hxd : VReads W2 (.slice xp k k) ((sol R K k).map qr) := by
      rw [HJ.out.2.1, List.drop_append_of_le_length (by rw [List.length_replicate]; have := HJ.out.1; omega), List.drop_of_length_le (by rw [List.length_replicate]; have := HJ.out.1; omega), List.nil_append] at hxv
      exact hxv
    have HXD := Lib.hid hxd
    have HZ := Lib.hid (And.intro hz hzl)
    have HV := Lib.hid hV
    have HB1 := Lib.hid hb1
    have HB2 := Lib.hid hb2
    have HBS := Lib.hid hbs
    have HW := Lib.hid hbel
    have HC := Lib.hid (fun (W : World) (r : Below W2.heap.size W2 W) => show W.cell? ⟨w.heap.size, 0, none⟩ = some (.int .i64 (K : Int)) ∧ W.cell? ⟨b2, 0, none⟩ = some (.slice (some ⟨xb, 0, none⟩) K K) from ⟨(boxed_under HB1.out r).cell, (boxed_under HB2.out r).cell⟩)
    clear hz hzl hV hb1 hb2 hbs hbel hxd hxv
    have s1 : K ≤ rc := by have := HJ.out.2.2; omega
    have s2 : (0 : Int) ≤ (j : Int) + 1 := by omega
    have s3 : (j : Int) + 1 ≤ (K : Int) := by omega
    have s4 : ¬ rc = j + 1 := by have := HJ.out.2.2; omega
    have s5 := HJ.out.2.1
    have HI := Lib.hid (And.intro i0' (And.intro i1' (And.intro i2' (And.intro i3' (And.intro i4' i5')))))
    have HN := Lib.hid (And.intro n0 (And.intro n1 (And.intro hK (And.intro hn (And.intro hcap (And.intro hgl (And.intro hsz hk)))))))
    clear i0' i1' i2' i3' i4' i5' n0 n1 hK hn hcap hgl hsz hk
    gi_wp2_with (refine region_held_in (Lets.round l) (fun (W : World) => W.cell? ⟨w.heap.size, 0, none⟩ = some (.int .i64 (K : Int)) ∧ W.cell? ⟨b2, 0, none⟩ = some (.slice (some ⟨xb, 0, none⟩) K K)) (by kernel_rfl) (by kernel_rfl) (by rintro ⟨_, _, h⟩; exact h) (Stop.of ?_))
    refine Stop.mk ?_
    have M : Mem W2 [] [] W2.drew := (Mem.start W2).drew
    obtain ⟨V0, hV0⟩ : ∃ V0, V0 = W2.drew := ⟨_, rfl⟩
    rw [← hV0] at M ⊢
    clear hV0
    have hS0 : (fun (W : World) => W.cell? ⟨w.heap.size, 0, none⟩ = some (.int .i64 (K : Int)) ∧ W.cell? ⟨b2, 0, none⟩ = some (.slice (some ⟨xb, 0, none⟩) K K)) V0 := ⟨(HC.out _ M.below).1, (HC.out _ M.below).2⟩
    refine wtk 0 (.slice (some ⟨rb, ro, none⟩) (K + 1) rc) rfl (fun _ _ _ h => h) (Or.inl ⟨by rfl, fun W3 hS => by go_simp⟩) hS0 ?_
    try simp only [Act.put, List.setIfInBounds_toArray, List.set_cons_zero, List.set_cons_succ]
    refine wtk 1 (.int .i64 (j : Int)) rfl (fun _ _ _ h => h) (Or.inl ⟨by rfl, fun W3 hS => by go_simp⟩) hS0 ?_
    try simp only [Act.put, List.setIfInBounds_toArray, List.set_cons_zero, List.set_cons_succ]
    refine wtk 2 (.int .i64 ((j + 1 : Nat) : Int)) rfl (fun _ _ _ h => h) (Or.inl ⟨by rfl, fun W3 hS => by go_simp⟩) hS0 ?_
    try simp only [Act.put, List.setIfInBounds_toArray, List.set_cons_zero, List.set_cons_succ]
    refine wtk 3 (.int .i64 (K : Int)) rfl (fun _ _ _ h => h) (Or.inl ⟨by rfl, fun W3 hS => by obtain ⟨hS0, hS1⟩ := hS; go_simp⟩) hS0 ?_
    try simp only [Act.put, List.setIfInBounds_toArray, List.set_cons_zero, List.set_cons_succ]
    refine wtk 4 (.slice (some ⟨rb, ro + (j + 1) * 3, none⟩) k (rc - (j + 1))) rfl (fun _ _ _ h => h) (Or.inl ⟨by rfl, fun W3 hS => by go_simp⟩) hS0 ?_
    try simp only [Act.put, List.setIfInBounds_toArray, List.set_cons_zero, List.set_cons_succ]
    refine wtk 5 (.slice (some ⟨xb, 0, none⟩) K K) rfl (fun _ _ _ h => h) (Or.inl ⟨by rfl, fun W3 hS => by obtain ⟨hS0, hS1⟩ := hS; go_simp⟩) hS0 ?_
    try simp only [Act.put, List.setIfInBounds_toArray, List.set_cons_zero, List.set_cons_succ]
    refine wtk 6 (.int .i64 (j : Int)) rfl (fun _ _ _ h => h) (Or.inl ⟨by rfl, fun W3 hS => by go_simp⟩) hS0 ?_
    try simp only [Act.put, List.setIfInBounds_toArray, List.set_cons_zero, List.set_cons_succ]
    refine wtk 7 (.int .i64 ((j + 1 : Nat) : Int)) rfl (fun _ _ _ h => h) (Or.inl ⟨by rfl, fun W3 hS => by go_simp⟩) hS0 ?_
    try simp only [Act.put, List.setIfInBounds_toArray, List.set_cons_zero, List.set_cons_succ]
    refine wtk 8 (.slice xp k k) rfl (fun _ _ _ h => h) (Or.inl ⟨by rfl, fun W3 hS => by go_simp⟩) hS0 ?_
    try simp only [Act.put, List.setIfInBounds_toArray, List.set_cons_zero, List.set_cons_succ]
    clear hS0
    refine two_op 9 13 ?_ ?_
    · refine wpOp_intro rfl (fun K1 hK => ?_)
      go_simp
      refine (KD.out _ (then_below HW.out M.below) (HXD.out.below M.below)).mono ?_
      rintro e V1_9 ⟨a, e3, a', e4, rfl, g1, g2, rr⟩
      have M' := ((M.up rr).add g1).add g2
      clear M rr g1 g2
      have M := M'; clear M'
      refine hK _ _ ⟨⟨(HC.out _ M.below).1, (HC.out _ M.below).2⟩, ?_⟩
      clear hK K1
      have hS0 : (fun (W : World) => W.cell? ⟨w.heap.size, 0, none⟩ = some (.int .i64 (K : Int)) ∧ W.cell? ⟨b2, 0, none⟩ = some (.slice (some ⟨xb, 0, none⟩) K K)) _ := ⟨(HC.out _ M.below).1, (HC.out _ M.below).2⟩
      refine wtk 10 (.tuple #[.agg #[.bool qT.1, .slice a qT.2.1.length e3, .slice a' qT.2.2.length e4], .int .i64 0]) rfl (fun _ _ _ h => h) (Or.inl ⟨by rfl, fun W3 hS => by go_simp⟩) hS0 ?_
      try simp only [Act.put, List.setIfInBounds_toArray, List.set_cons_zero, List.set_cons_succ]
      refine wtk 11 (.agg #[.bool qT.1, .slice a qT.2.1.length e3, .slice a' qT.2.2.length e4]) rfl (fun _ _ _ h => h) (Or.inl ⟨by rfl, fun W3 hS => by go_simp⟩) hS0 ?_
      try simp only [Act.put, List.setIfInBounds_toArray, List.set_cons_zero, List.set_cons_succ]
      refine wtk 12 (.int .i64 0) rfl (fun _ _ _ h => h) (Or.inl ⟨by rfl, fun W3 hS => by go_simp⟩) hS0 ?_
      try simp only [Act.put, List.setIfInBounds_toArray, List.set_cons_zero, List.set_cons_succ]
      clear hS0
      refine one_op 13 rfl (fun K2 hK => ?_)
      go_simp
      obtain ⟨b5, V2_13, hV, hb, M'⟩ := M.fresh 44 [.bool false, .slice none 0 0, .slice none 0 0]
      rw [← hV, ← hb]
      clear M hV hb; have M := M'; clear M'
      refine hK _ _ ⟨⟨(HC.out _ M.below).1, (HC.out _ M.below).2⟩, ?_⟩
      clear hK K2
      have f0_0 := M.fr 0 rfl 0; have f0_1 := M.fr 0 rfl 1; have f0_2 := M.fr 0 rfl 2
      have z0_0 := M.cell 0 rfl 0 rfl; have z0_1 := M.cell 0 rfl 1 rfl; have z0_2 := M.cell 0 rfl 2 rfl
      refine one_op 14 rfl (fun Ks3 hK => ?_)
      go_simp
      have M' := (((M.put 0 rfl rfl 0 (.bool qT.1)).put 0 rfl rfl 1 (.slice a qT.2.1.length e3)).put 0 rfl rfl 2 (.slice a' qT.2.2.length e4))
      clear M f0_0 z0_0 f0_1 z0_1 f0_2 z0_2
      have M : Mem W2 [(b5, 44, [.bool qT.1, .slice a qT.2.1.length e3, .slice a' qT.2.2.length e4])] [(.slice a' qT.2.2.length e4, qT.2.2), (.slice a qT.2.1.length e3, qT.2.1)] _ := M'
      clear M'
      refine hK _ _ ⟨⟨(HC.out _ M.below).1, (HC.out _ M.below).2⟩, ?_⟩
      clear hK Ks3
      have hS0 : (fun (W : World) => W.cell? ⟨w.heap.size, 0, none⟩ = some (.int .i64 (K : Int)) ∧ W.cell? ⟨b2, 0, none⟩ = some (.slice (some ⟨xb, 0, none⟩) K K)) _ := ⟨(HC.out _ M.below).1, (HC.out _ M.below).2⟩
      refine wtk 15 (.int .i64 0) rfl (fun _ _ _ h => h) (Or.inl ⟨by rfl, fun W3 hS => by go_simp⟩) hS0 ?_
      try simp only [Act.put, List.setIfInBounds_toArray, List.set_cons_zero, List.set_cons_succ]
      clear hS0
      refine wdn ?_
      as_aux_lemma =>
        have HM6 := Lib.hid (M.box 0 rfl)
        have HB5x := Lib.hid (And.intro (M.at 0 rfl) (HV.out.lt (g := xb) rfl).2)
        have g5 := (M.get 1 rfl)
        have g6 := (M.get 0 rfl)
        have HB6 := Lib.hid M.below
        generalize hW5 : (World.setCell _ _ _) = W5 at HM6 g5 g6 HB6 ⊢
        skip
        clear M hW5 KD HXD hxp s1 s2 s3 s4 s5 w0
        obtain ⟨i0', i1', i2', i3', i4', i5'⟩ := HI.out
        have HC7 := Lib.hid (fun (W : World) (r : Below W5.heap.size W5 W) => HCW.out W (then_below HW.out (then_below HB6.out r)))
        have HC8 := Lib.hid (fun (W : World) (r : Below W5.heap.size W5 W) => HC.out W (then_below HB6.out r))
        gi_wp2_with (refine region_held_in (Lets.round l) (fun (W : World) => W.cell? ⟨w.heap.size, 0, none⟩ = some (.int .i64 (K : Int)) ∧ W.cell? ⟨b2, 0, none⟩ = some (.slice (some ⟨xb, 0, none⟩) K K) ∧ W.cell? ⟨rb, ro + K * 3, none⟩ = some (.bool qX.1) ∧ W.cell? ⟨rb, ro + K * 3 + 1, none⟩ = some (.slice xa qX.2.1.length x1) ∧ W.cell? ⟨rb, ro + K * 3 + 2, none⟩ = some (.slice xa' qX.2.2.length x2) ∧ W.cell? ⟨rb, ro + j * 3, none⟩ = some (.bool qY.1) ∧ W.cell? ⟨rb, ro + j * 3 + 1, none⟩ = some (.slice ya qY.2.1.length y1) ∧ W.cell? ⟨rb, ro + j * 3 + 2, none⟩ = some (.slice ya' qY.2.2.length y2) ∧ BoxN W b5 44 #[.bool qT.1, .slice a qT.2.1.length e3, .slice a' qT.2.2.length e4]) (by kernel_rfl) (by kernel_rfl) (by rintro ⟨_, _, h⟩; exact h) (Stop.of ?_))
        refine Stop.mk ?_
        have M : Mem W5 [] [(.slice ya' qY.2.2.length y2, qY.2.2), (.slice ya qY.2.1.length y1, qY.2.1), (.slice xa' qX.2.2.length x2, qX.2.2), (.slice xa qX.2.1.length x1, qX.2.1), (.slice a' qT.2.2.length e4, qT.2.2), (.slice a qT.2.1.length e3, qT.2.1)] W5.drew := by
          have hb := then_below HW.out HB6.out
          exact (((((((Mem.start W5).add g5).add g6).add (HGX.out.1.below hb)).add (HGX.out.2.1.below hb)).add (HGX.out.2.2.1.below hb)).add (HGX.out.2.2.2.below hb)).drew
        obtain ⟨U0, hU0⟩ : ∃ V0, V0 = W5.drew := ⟨_, rfl⟩
        rw [← hU0] at M ⊢
        clear hU0 g5 g6
        have hS0 : (fun (W : World) => W.cell? ⟨w.heap.size, 0, none⟩ = some (.int .i64 (K : Int)) ∧ W.cell? ⟨b2, 0, none⟩ = some (.slice (some ⟨xb, 0, none⟩) K K) ∧ W.cell? ⟨rb, ro + K * 3, none⟩ = some (.bool qX.1) ∧ W.cell? ⟨rb, ro + K * 3 + 1, none⟩ = some (.slice xa qX.2.1.length x1) ∧ W.cell? ⟨rb, ro + K * 3 + 2, none⟩ = some (.slice xa' qX.2.2.length x2) ∧ W.cell? ⟨rb, ro + j * 3, none⟩ = some (.bool qY.1) ∧ W.cell? ⟨rb, ro + j * 3 + 1, none⟩ = some (.slice ya qY.2.1.length y1) ∧ W.cell? ⟨rb, ro + j * 3 + 2, none⟩ = some (.slice ya' qY.2.2.length y2) ∧ BoxN W b5 44 #[.bool qT.1, .slice a qT.2.1.length e3, .slice a' qT.2.2.length e4]) U0 := ⟨(HC8.out _ M.below).1, ⟨(HC8.out _ M.below).2, ⟨(HC7.out _ M.below).1, ⟨(HC7.out _ M.below).2.1, ⟨(HC7.out _ M.below).2.2.1, ⟨(HC7.out _ M.below).2.2.2.1, ⟨(HC7.out _ M.below).2.2.2.2.1, ⟨(HC7.out _ M.below).2.2.2.2.2, (HM6.out.under M.below)⟩⟩⟩⟩⟩⟩⟩⟩
        refine wtk 0 (.slice (some ⟨xb, 0, none⟩) K K) rfl (fun _ _ _ h => h) (Or.inl ⟨by rfl, fun W3 hS => by obtain ⟨hS0, hS1, hS2, hS3, hS4, hS5, hS6, hS7, hS8⟩ := hS; have d8_0 := hS8.cell 0 _ rfl; have d8_1 := hS8.cell 1 _ rfl; have d8_2 := hS8.cell 2 _ rfl; go_simp⟩) hS0 ?_
        try simp only [Act.put, List.setIfInBounds_toArray, List.set_cons_zero, List.set_cons_succ]
        refine wtk 1 (.int .i64 (j : Int)) rfl (fun _ _ _ h => h) (Or.inl ⟨by rfl, fun W3 hS => by go_simp⟩) hS0 ?_
        try simp only [Act.put, List.setIfInBounds_toArray, List.set_cons_zero, List.set_cons_succ]
        refine wtk 2 (.slice (some ⟨rb, ro, none⟩) (K + 1) rc) rfl (fun _ _ _ h => h) (Or.inl ⟨by rfl, fun W3 hS => by go_simp⟩) hS0 ?_
        try simp only [Act.put, List.setIfInBounds_toArray, List.set_cons_zero, List.set_cons_succ]
        refine wtk 3 (.int .i64 (K : Int)) rfl (fun _ _ _ h => h) (Or.inl ⟨by rfl, fun W3 hS => by obtain ⟨hS0, hS1, hS2, hS3, hS4, hS5, hS6, hS7, hS8⟩ := hS; have d8_0 := hS8.cell 0 _ rfl; have d8_1 := hS8.cell 1 _ rfl; have d8_2 := hS8.cell 2 _ rfl; go_simp⟩) hS0 ?_
        try simp only [Act.put, List.setIfInBounds_toArray, List.set_cons_zero, List.set_cons_succ]
        refine wtk 4 (.pointer (some ⟨rb, ro + K * 3, none⟩)) rfl (fun _ _ _ h => h) (Or.inl ⟨by rfl, fun W3 hS => by go_simp⟩) hS0 ?_
        try simp only [Act.put, List.setIfInBounds_toArray, List.set_cons_zero, List.set_cons_succ]
        refine wtk 5 (.agg #[.bool qX.1, .slice xa qX.2.1.length x1, .slice xa' qX.2.2.length x2]) rfl (fun _ _ _ h => h) (Or.inl ⟨by rfl, fun W3 hS => by obtain ⟨hS0, hS1, hS2, hS3, hS4, hS5, hS6, hS7, hS8⟩ := hS; have d8_0 := hS8.cell 0 _ rfl; have d8_1 := hS8.cell 1 _ rfl; have d8_2 := hS8.cell 2 _ rfl; go_simp⟩) hS0 ?_
        try simp only [Act.put, List.setIfInBounds_toArray, List.set_cons_zero, List.set_cons_succ]
        refine wtk 6 (.agg #[.bool qT.1, .slice a qT.2.1.length e3, .slice a' qT.2.2.length e4]) rfl (fun _ _ _ h => h) (Or.inl ⟨by rfl, fun W3 hS => by obtain ⟨hS0, hS1, hS2, hS3, hS4, hS5, hS6, hS7, hS8⟩ := hS; have d8_0 := hS8.cell 0 _ rfl; have d8_1 := hS8.cell 1 _ rfl; have d8_2 := hS8.cell 2 _ rfl; go_simp⟩) hS0 ?_
        try simp only [Act.put, List.setIfInBounds_toArray, List.set_cons_zero, List.set_cons_succ]
        refine wtk 8 (.slice (some ⟨rb, ro, none⟩) (K + 1) rc) rfl (fun _ _ _ h => h) (Or.inl ⟨by rfl, fun W3 hS => by go_simp⟩) hS0 ?_
        try simp only [Act.put, List.setIfInBounds_toArray, List.set_cons_zero, List.set_cons_succ]
        refine wtk 9 (.int .i64 (j : Int)) rfl (fun _ _ _ h => h) (Or.inl ⟨by rfl, fun W3 hS => by go_simp⟩) hS0 ?_
        try simp only [Act.put, List.setIfInBounds_toArray, List.set_cons_zero, List.set_cons_succ]
        refine wtk 10 (.pointer (some ⟨rb, ro + j * 3, none⟩)) rfl (fun _ _ _ h => h) (Or.inl ⟨by rfl, fun W3 hS => by go_simp⟩) hS0 ?_
        try simp only [Act.put, List.setIfInBounds_toArray, List.set_cons_zero, List.set_cons_succ]
        refine wtk 11 (.agg #[.bool qY.1, .slice ya qY.2.1.length y1, .slice ya' qY.2.2.length y2]) rfl (fun _ _ _ h => h) (Or.inl ⟨by rfl, fun W3 hS => by obtain ⟨hS0, hS1, hS2, hS3, hS4, hS5, hS6, hS7, hS8⟩ := hS; have d8_0 := hS8.cell 0 _ rfl; have d8_1 := hS8.cell 1 _ rfl; have d8_2 := hS8.cell 2 _ rfl; go_simp⟩) hS0 ?_
        try simp only [Act.put, List.setIfInBounds_toArray, List.set_cons_zero, List.set_cons_succ]
        clear hS0
        refine one_op 7 rfl (fun K1 hK => ?_)
        go_simp
        refine (KS.out _ (M.get 3 rfl) (M.get 2 rfl) (M.get 5 rfl) (M.get 4 rfl)).mono ?_
        rintro e X1_7 ⟨u1, u3, u2, u4, rfl, g1, g2, rr⟩
        have M' := ((M.up rr).add g1).add g2
        clear M rr g1 g2
        have M := M'; clear M'
        refine hK _ _ ⟨⟨(HC8.out _ M.below).1, ⟨(HC8.out _ M.below).2, ⟨(HC7.out _ M.below).1, ⟨(HC7.out _ M.below).2.1, ⟨(HC7.out _ M.below).2.2.1, ⟨(HC7.out _ M.below).2.2.2.1, ⟨(HC7.out _ M.below).2.2.2.2.1, ⟨(HC7.out _ M.below).2.2.2.2.2, (HM6.out.under M.below)⟩⟩⟩⟩⟩⟩⟩⟩, ?_⟩
        clear hK K1
        refine one_op 12 rfl (fun K2 hK => ?_)
        go_simp
        refine (KV.out _ (M.get 1 rfl) (M.get 0 rfl) (M.get 3 rfl) (M.get 2 rfl)).mono ?_
        rintro e X2_12 ⟨v1, v3, v2, v4, rfl, g1, g2, rr⟩
        have M' := ((M.up rr).add g1).add g2
        clear M rr g1 g2
        have M := M'; clear M'
        refine hK _ _ ⟨⟨(HC8.out _ M.below).1, ⟨(HC8.out _ M.below).2, ⟨(HC7.out _ M.below).1, ⟨(HC7.out _ M.below).2.1, ⟨(HC7.out _ M.below).2.2.1, ⟨(HC7.out _ M.below).2.2.2.1, ⟨(HC7.out _ M.below).2.2.2.2.1, ⟨(HC7.out _ M.below).2.2.2.2.2, (HM6.out.under M.below)⟩⟩⟩⟩⟩⟩⟩⟩, ?_⟩
        clear hK K2
        have hS0 : (fun (W : World) => W.cell? ⟨w.heap.size, 0, none⟩ = some (.int .i64 (K : Int)) ∧ W.cell? ⟨b2, 0, none⟩ = some (.slice (some ⟨xb, 0, none⟩) K K) ∧ W.cell? ⟨rb, ro + K * 3, none⟩ = some (.bool qX.1) ∧ W.cell? ⟨rb, ro + K * 3 + 1, none⟩ = some (.slice xa qX.2.1.length x1) ∧ W.cell? ⟨rb, ro + K * 3 + 2, none⟩ = some (.slice xa' qX.2.2.length x2) ∧ W.cell? ⟨rb, ro + j * 3, none⟩ = some (.bool qY.1) ∧ W.cell? ⟨rb, ro + j * 3 + 1, none⟩ = some (.slice ya qY.2.1.length y1) ∧ W.cell? ⟨rb, ro + j * 3 + 2, none⟩ = some (.slice ya' qY.2.2.length y2) ∧ BoxN W b5 44 #[.bool qT.1, .slice a qT.2.1.length e3, .slice a' qT.2.2.length e4]) _ := ⟨(HC8.out _ M.below).1, ⟨(HC8.out _ M.below).2, ⟨(HC7.out _ M.below).1, ⟨(HC7.out _ M.below).2.1, ⟨(HC7.out _ M.below).2.2.1, ⟨(HC7.out _ M.below).2.2.2.1, ⟨(HC7.out _ M.below).2.2.2.2.1, ⟨(HC7.out _ M.below).2.2.2.2.2, (HM6.out.under M.below)⟩⟩⟩⟩⟩⟩⟩⟩
        refine wtk 13 (.tuple #[.agg #[.bool qZ.1, .slice v1 qZ.2.1.length v3, .slice v2 qZ.2.2.length v4], .int .i64 0]) rfl (fun _ _ _ h => h) (Or.inl ⟨by rfl, fun W3 hS => by go_simp⟩) hS0 ?_
        try simp only [Act.put, List.setIfInBounds_toArray, List.set_cons_zero, List.set_cons_succ]
        refine wtk 14 (.agg #[.bool qZ.1, .slice v1 qZ.2.1.length v3, .slice v2 qZ.2.2.length v4]) rfl (fun _ _ _ h => h) (Or.inl ⟨by rfl, fun W3 hS => by go_simp⟩) hS0 ?_
        try simp only [Act.put, List.setIfInBounds_toArray, List.set_cons_zero, List.set_cons_succ]
        refine wtk 15 (.int .i64 0) rfl (fun _ _ _ h => h) (Or.inl ⟨by rfl, fun W3 hS => by go_simp⟩) hS0 ?_
        try simp only [Act.put, List.setIfInBounds_toArray, List.set_cons_zero, List.set_cons_succ]
        refine wtk 16 (.pointer (some ⟨xb, j * 3, none⟩)) rfl (fun _ _ _ h => h) (Or.inl ⟨by rfl, fun W3 hS => by go_simp⟩) hS0 ?_
        try simp only [Act.put, List.setIfInBounds_toArray, List.set_cons_zero, List.set_cons_succ]
        clear hS0
        have hb5 := then_below HB6.out M.below
        have hV5 := HV.out.below hb5
        obtain ⟨zz, -, k0, k1, k2, f0, f1, f2⟩ := hV5.at HZ.out.2 (k := j) (by omega)
        have HV5 := Lib.hid hV5
        have HB5 := Lib.hid hb5
        have HR1 := Lib.hid (M.get 1 rfl)
        have HR2 := Lib.hid (M.get 0 rfl)
        have HM := Lib.hid M.below
        clear M hV5 hb5
        refine one_op 17 rfl (fun Ks hK => ?_)
        go_simp
        refine hK _ _ ⟨?_, ?_⟩
        · have hx := HX.out
          have hr := HRB.out
          have hb5 := HB5x.out
          exact ⟨cell_three (HC8.out _ HM.out).1 (by dsimp only; omega), cell_three (HC8.out _ HM.out).2 (by dsimp only; omega), cell_three ((HC7.out _ HM.out).1) (by dsimp only; omega), cell_three ((HC7.out _ HM.out).2.1) (by dsimp only; omega), cell_three ((HC7.out _ HM.out).2.2.1) (by dsimp only; omega), cell_three ((HC7.out _ HM.out).2.2.2.1) (by dsimp only; omega), cell_three ((HC7.out _ HM.out).2.2.2.2.1) (by dsimp only; omega), cell_three ((HC7.out _ HM.out).2.2.2.2.2) (by dsimp only; omega), boxN_row (boxN_row (boxN_row (HM6.out.under HM.out) (by omega) _) (by omega) _) (by omega) _⟩
        clear hK Ks k0 k1 k2 f0 f1 f2
        refine wdn ?_
        have hx := HX.out
        have R0 := (((keeps_below HB5.out).trans (KeepsOthers.setCell _ ⟨xb, j * 3, none⟩ (.bool qZ.1))).trans (KeepsOthers.setCell _ ⟨xb, j * 3 + 1, none⟩ (.slice v1 qZ.2.1.length v3))).trans (KeepsOthers.setCell _ ⟨xb, j * 3 + 2, none⟩ (.slice v2 qZ.2.2.length v4))
        have R1 : (zs.set j (qZ, (v1, v3), (v2, v4))).map (·.1) = List.replicate (K - (k + 1)) (false, [], []) ++ (sol R K (k + 1)).map qr := by
          rw [HSOL.out, HJ.out.1]
          exact back_fill HN.out.2.2.2.2.2.2.2 (sol_len _ _ _) HZ.out.1 HQZ.out
        have R2 := HV5.out.put' HZ.out.2 (show j < K by omega) (qZ, (v1, v3), (v2, v4)) ⟨HR1.out, HR2.out⟩
        dsimp only at R2
        have R3 := boxN_row (g := xb) (o := j * 3 + 2) (boxN_row (g := xb) (o := j * 3 + 1) (boxN_row (g := xb) (o := j * 3) (boxed_under HB1.out HB5.out) (by omega) (.bool qZ.1)) (by omega) (.slice v1 qZ.2.1.length v3)) (by omega) (.slice v2 qZ.2.2.length v4)
        have R4 := boxN_row (g := xb) (o := j * 3 + 2) (boxN_row (g := xb) (o := j * 3 + 1) (boxN_row (g := xb) (o := j * 3) (boxed_under HB2.out HB5.out) (by omega) (.bool qZ.1)) (by omega) (.slice v1 qZ.2.1.length v3)) (by omega) (.slice v2 qZ.2.2.length v4)
        have R5 := boxN_row (g := xb) (o := j * 3 + 2) (boxN_row (g := xb) (o := j * 3 + 1) (boxN_row (g := xb) (o := j * 3) (boxed_under HBS.out HB5.out) (by have := HSB.out; omega) (.bool qZ.1)) (by have := HSB.out; omega) (.slice v1 qZ.2.1.length v3)) (by have := HSB.out; omega) (.slice v2 qZ.2.2.length v4)
        have R6 := (((then_below HW.out HB5.out).setCell (p := ⟨xb, j * 3, none⟩) (by dsimp only; omega) (.bool qZ.1)).setCell (p := ⟨xb, j * 3 + 1, none⟩) (by dsimp only; omega) (.slice v1 qZ.2.1.length v3)).setCell (p := ⟨xb, j * 3 + 2, none⟩) (by dsimp only; omega) (.slice v2 qZ.2.2.length v4)
        have R7 := And.intro (R0.from V.heap.size) (show SolI w R K w.heap.size b2 xb bs (.slice (some ⟨g, 0, none⟩) K cap') (k + 1) _ from ⟨⟨_, R1, R2⟩, R3, R4, R5, R6⟩)
        exact R7
    · refine wpOp_intro rfl (fun K1 hK => ?_)
      go_simp
      obtain ⟨b5, V1_13, hV, hb, M'⟩ := M.fresh 44 [.bool false, .slice none 0 0, .slice none 0 0]
      rw [← hV, ← hb]
      clear M hV hb; have M := M'; clear M'
      refine hK _ _ ⟨⟨(HC.out _ M.below).1, (HC.out _ M.below).2⟩, ?_⟩
      clear hK K1
      refine one_op 9 rfl (fun K4 hK => ?_)
      go_simp
      refine (KD.out _ (then_below HW.out M.below) (HXD.out.below M.below)).mono ?_
      rintro e V4_9 ⟨a, e3, a', e4, rfl, g1, g2, rr⟩
      have M' := ((M.up rr).add g1).add g2
      clear M rr g1 g2
      have M := M'; clear M'
      refine hK _ _ ⟨⟨(HC.out _ M.below).1, (HC.out _ M.below).2⟩, ?_⟩
      clear hK K4
      have hS0 : (fun (W : World) => W.cell? ⟨w.heap.size, 0, none⟩ = some (.int .i64 (K : Int)) ∧ W.cell? ⟨b2, 0, none⟩ = some (.slice (some ⟨xb, 0, none⟩) K K)) _ := ⟨(HC.out _ M.below).1, (HC.out _ M.below).2⟩
      refine wtk 10 (.tuple #[.agg #[.bool qT.1, .slice a qT.2.1.length e3, .slice a' qT.2.2.length e4], .int .i64 0]) rfl (fun _ _ _ h => h) (Or.inl ⟨by rfl, fun W3 hS => by go_simp⟩) hS0 ?_
      try simp only [Act.put, List.setIfInBounds_toArray, List.set_cons_zero, List.set_cons_succ]
      refine wtk 11 (.agg #[.bool qT.1, .slice a qT.2.1.length e3, .slice a' qT.2.2.length e4]) rfl (fun _ _ _ h => h) (Or.inl ⟨by rfl, fun W3 hS => by go_simp⟩) hS0 ?_
      try simp only [Act.put, List.setIfInBounds_toArray, List.set_cons_zero, List.set_cons_succ]
      refine wtk 12 (.int .i64 0) rfl (fun _ _ _ h => h) (Or.inl ⟨by rfl, fun W3 hS => by go_simp⟩) hS0 ?_
      try simp only [Act.put, List.setIfInBounds_toArray, List.set_cons_zero, List.set_cons_succ]
      clear hS0
      have f0_0 := M.fr 0 rfl 0; have f0_1 := M.fr 0 rfl 1; have f0_2 := M.fr 0 rfl 2
      have z0_0 := M.cell 0 rfl 0 rfl; have z0_1 := M.cell 0 rfl 1 rfl; have z0_2 := M.cell 0 rfl 2 rfl
      refine one_op 14 rfl (fun Ks5 hK => ?_)
      go_simp
      have M' := (((M.put 0 rfl rfl 0 (.bool qT.1)).put 0 rfl rfl 1 (.slice a qT.2.1.length e3)).put 0 rfl rfl 2 (.slice a' qT.2.2.length e4))
      clear M f0_0 z0_0 f0_1 z0_1 f0_2 z0_2
      have M : Mem W2 [(b5, 44, [.bool qT.1, .slice a qT.2.1.length e3, .slice a' qT.2.2.length e4])] [(.slice a' qT.2.2.length e4, qT.2.2), (.slice a qT.2.1.length e3, qT.2.1)] _ := M'
      clear M'
      refine hK _ _ ⟨⟨(HC.out _ M.below).1, (HC.out _ M.below).2⟩, ?_⟩
      clear hK Ks5
      have hS0 : (fun (W : World) => W.cell? ⟨w.heap.size, 0, none⟩ = some (.int .i64 (K : Int)) ∧ W.cell? ⟨b2, 0, none⟩ = some (.slice (some ⟨xb, 0, none⟩) K K)) _ := ⟨(HC.out _ M.below).1, (HC.out _ M.below).2⟩
      refine wtk 15 (.int .i64 0) rfl (fun _ _ _ h => h) (Or.inl ⟨by rfl, fun W3 hS => by go_simp⟩) hS0 ?_
      try simp only [Act.put, List.setIfInBounds_toArray, List.set_cons_zero, List.set_cons_succ]
      clear hS0
      refine wdn ?_
      as_aux_lemma =>
        have HM6 := Lib.hid (M.box 0 rfl)
        have HB5x := Lib.hid (And.intro (M.at 0 rfl) (HV.out.lt (g := xb) rfl).2)
        have g5 := (M.get 1 rfl)
        have g6 := (M.get 0 rfl)
        have HB6 := Lib.hid M.below
        generalize hW5 : (World.setCell _ _ _) = W5 at HM6 g5 g6 HB6 ⊢
        skip
        clear M hW5 KD HXD hxp s1 s2 s3 s4 s5 w0
        obtain ⟨i0', i1', i2', i3', i4', i5'⟩ := HI.out
        have HC7 := Lib.hid (fun (W : World) (r : Below W5.heap.size W5 W) => HCW.out W (then_below HW.out (then_below HB6.out r)))
        have HC8 := Lib.hid (fun (W : World) (r : Below W5.heap.size W5 W) => HC.out W (then_below HB6.out r))
        gi_wp2_with (refine region_held_in (Lets.round l) (fun (W : World) => W.cell? ⟨w.heap.size, 0, none⟩ = some (.int .i64 (K : Int)) ∧ W.cell? ⟨b2, 0, none⟩ = some (.slice (some ⟨xb, 0, none⟩) K K) ∧ W.cell? ⟨rb, ro + K * 3, none⟩ = some (.bool qX.1) ∧ W.cell? ⟨rb, ro + K * 3 + 1, none⟩ = some (.slice xa qX.2.1.length x1) ∧ W.cell? ⟨rb, ro + K * 3 + 2, none⟩ = some (.slice xa' qX.2.2.length x2) ∧ W.cell? ⟨rb, ro + j * 3, none⟩ = some (.bool qY.1) ∧ W.cell? ⟨rb, ro + j * 3 + 1, none⟩ = some (.slice ya qY.2.1.length y1) ∧ W.cell? ⟨rb, ro + j * 3 + 2, none⟩ = some (.slice ya' qY.2.2.length y2) ∧ BoxN W b5 44 #[.bool qT.1, .slice a qT.2.1.length e3, .slice a' qT.2.2.length e4]) (by kernel_rfl) (by kernel_rfl) (by rintro ⟨_, _, h⟩; exact h) (Stop.of ?_))
        refine Stop.mk ?_
        have M : Mem W5 [] [(.slice ya' qY.2.2.length y2, qY.2.2), (.slice ya qY.2.1.length y1, qY.2.1), (.slice xa' qX.2.2.length x2, qX.2.2), (.slice xa qX.2.1.length x1, qX.2.1), (.slice a' qT.2.2.length e4, qT.2.2), (.slice a qT.2.1.length e3, qT.2.1)] W5.drew := by
          have hb := then_below HW.out HB6.out
          exact (((((((Mem.start W5).add g5).add g6).add (HGX.out.1.below hb)).add (HGX.out.2.1.below hb)).add (HGX.out.2.2.1.below hb)).add (HGX.out.2.2.2.below hb)).drew
        obtain ⟨U0, hU0⟩ : ∃ V0, V0 = W5.drew := ⟨_, rfl⟩
        rw [← hU0] at M ⊢
        clear hU0 g5 g6
        have hS0 : (fun (W : World) => W.cell? ⟨w.heap.size, 0, none⟩ = some (.int .i64 (K : Int)) ∧ W.cell? ⟨b2, 0, none⟩ = some (.slice (some ⟨xb, 0, none⟩) K K) ∧ W.cell? ⟨rb, ro + K * 3, none⟩ = some (.bool qX.1) ∧ W.cell? ⟨rb, ro + K * 3 + 1, none⟩ = some (.slice xa qX.2.1.length x1) ∧ W.cell? ⟨rb, ro + K * 3 + 2, none⟩ = some (.slice xa' qX.2.2.length x2) ∧ W.cell? ⟨rb, ro + j * 3, none⟩ = some (.bool qY.1) ∧ W.cell? ⟨rb, ro + j * 3 + 1, none⟩ = some (.slice ya qY.2.1.length y1) ∧ W.cell? ⟨rb, ro + j * 3 + 2, none⟩ = some (.slice ya' qY.2.2.length y2) ∧ BoxN W b5 44 #[.bool qT.1, .slice a qT.2.1.length e3, .slice a' qT.2.2.length e4]) U0 := ⟨(HC8.out _ M.below).1, ⟨(HC8.out _ M.below).2, ⟨(HC7.out _ M.below).1, ⟨(HC7.out _ M.below).2.1, ⟨(HC7.out _ M.below).2.2.1, ⟨(HC7.out _ M.below).2.2.2.1, ⟨(HC7.out _ M.below).2.2.2.2.1, ⟨(HC7.out _ M.below).2.2.2.2.2, (HM6.out.under M.below)⟩⟩⟩⟩⟩⟩⟩⟩
        refine wtk 0 (.slice (some ⟨xb, 0, none⟩) K K) rfl (fun _ _ _ h => h) (Or.inl ⟨by rfl, fun W3 hS => by obtain ⟨hS0, hS1, hS2, hS3, hS4, hS5, hS6, hS7, hS8⟩ := hS; have d8_0 := hS8.cell 0 _ rfl; have d8_1 := hS8.cell 1 _ rfl; have d8_2 := hS8.cell 2 _ rfl; go_simp⟩) hS0 ?_
        try simp only [Act.put, List.setIfInBounds_toArray, List.set_cons_zero, List.set_cons_succ]
        refine wtk 1 (.int .i64 (j : Int)) rfl (fun _ _ _ h => h) (Or.inl ⟨by rfl, fun W3 hS => by go_simp⟩) hS0 ?_
        try simp only [Act.put, List.setIfInBounds_toArray, List.set_cons_zero, List.set_cons_succ]
        refine wtk 2 (.slice (some ⟨rb, ro, none⟩) (K + 1) rc) rfl (fun _ _ _ h => h) (Or.inl ⟨by rfl, fun W3 hS => by go_simp⟩) hS0 ?_
        try simp only [Act.put, List.setIfInBounds_toArray, List.set_cons_zero, List.set_cons_succ]
        refine wtk 3 (.int .i64 (K : Int)) rfl (fun _ _ _ h => h) (Or.inl ⟨by rfl, fun W3 hS => by obtain ⟨hS0, hS1, hS2, hS3, hS4, hS5, hS6, hS7, hS8⟩ := hS; have d8_0 := hS8.cell 0 _ rfl; have d8_1 := hS8.cell 1 _ rfl; have d8_2 := hS8.cell 2 _ rfl; go_simp⟩) hS0 ?_
        try simp only [Act.put, List.setIfInBounds_toArray, List.set_cons_zero, List.set_cons_succ]
        refine wtk 4 (.pointer (some ⟨rb, ro + K * 3, none⟩)) rfl (fun _ _ _ h => h) (Or.inl ⟨by rfl, fun W3 hS => by go_simp⟩) hS0 ?_
        try simp only [Act.put, List.setIfInBounds_toArray, List.set_cons_zero, List.set_cons_succ]
        refine wtk 5 (.agg #[.bool qX.1, .slice xa qX.2.1.length x1, .slice xa' qX.2.2.length x2]) rfl (fun _ _ _ h => h) (Or.inl ⟨by rfl, fun W3 hS => by obtain ⟨hS0, hS1, hS2, hS3, hS4, hS5, hS6, hS7, hS8⟩ := hS; have d8_0 := hS8.cell 0 _ rfl; have d8_1 := hS8.cell 1 _ rfl; have d8_2 := hS8.cell 2 _ rfl; go_simp⟩) hS0 ?_
        try simp only [Act.put, List.setIfInBounds_toArray, List.set_cons_zero, List.set_cons_succ]
        refine wtk 6 (.agg #[.bool qT.1, .slice a qT.2.1.length e3, .slice a' qT.2.2.length e4]) rfl (fun _ _ _ h => h) (Or.inl ⟨by rfl, fun W3 hS => by obtain ⟨hS0, hS1, hS2, hS3, hS4, hS5, hS6, hS7, hS8⟩ := hS; have d8_0 := hS8.cell 0 _ rfl; have d8_1 := hS8.cell 1 _ rfl; have d8_2 := hS8.cell 2 _ rfl; go_simp⟩) hS0 ?_
        try simp only [Act.put, List.setIfInBounds_toArray, List.set_cons_zero, List.set_cons_succ]
        refine wtk 8 (.slice (some ⟨rb, ro, none⟩) (K + 1) rc) rfl (fun _ _ _ h => h) (Or.inl ⟨by rfl, fun W3 hS => by go_simp⟩) hS0 ?_
        try simp only [Act.put, List.setIfInBounds_toArray, List.set_cons_zero, List.set_cons_succ]
        refine wtk 9 (.int .i64 (j : Int)) rfl (fun _ _ _ h => h) (Or.inl ⟨by rfl, fun W3 hS => by go_simp⟩) hS0 ?_
        try simp only [Act.put, List.setIfInBounds_toArray, List.set_cons_zero, List.set_cons_succ]
        refine wtk 10 (.pointer (some ⟨rb, ro + j * 3, none⟩)) rfl (fun _ _ _ h => h) (Or.inl ⟨by rfl, fun W3 hS => by go_simp⟩) hS0 ?_
        try simp only [Act.put, List.setIfInBounds_toArray, List.set_cons_zero, List.set_cons_succ]
        refine wtk 11 (.agg #[.bool qY.1, .slice ya qY.2.1.length y1, .slice ya' qY.2.2.length y2]) rfl (fun _ _ _ h => h) (Or.inl ⟨by rfl, fun W3 hS => by obtain ⟨hS0, hS1, hS2, hS3, hS4, hS5, hS6, hS7, hS8⟩ := hS; have d8_0 := hS8.cell 0 _ rfl; have d8_1 := hS8.cell 1 _ rfl; have d8_2 := hS8.cell 2 _ rfl; go_simp⟩) hS0 ?_
        try simp only [Act.put, List.setIfInBounds_toArray, List.set_cons_zero, List.set_cons_succ]
        clear hS0
        refine one_op 7 rfl (fun K1 hK => ?_)
        go_simp
        refine (KS.out _ (M.get 3 rfl) (M.get 2 rfl) (M.get 5 rfl) (M.get 4 rfl)).mono ?_
        rintro e X1_7 ⟨u1, u3, u2, u4, rfl, g1, g2, rr⟩
        have M' := ((M.up rr).add g1).add g2
        clear M rr g1 g2
        have M := M'; clear M'
        refine hK _ _ ⟨⟨(HC8.out _ M.below).1, ⟨(HC8.out _ M.below).2, ⟨(HC7.out _ M.below).1, ⟨(HC7.out _ M.below).2.1, ⟨(HC7.out _ M.below).2.2.1, ⟨(HC7.out _ M.below).2.2.2.1, ⟨(HC7.out _ M.below).2.2.2.2.1, ⟨(HC7.out _ M.below).2.2.2.2.2, (HM6.out.under M.below)⟩⟩⟩⟩⟩⟩⟩⟩, ?_⟩
        clear hK K1
        refine one_op 12 rfl (fun K2 hK => ?_)
        go_simp
        refine (KV.out _ (M.get 1 rfl) (M.get 0 rfl) (M.get 3 rfl) (M.get 2 rfl)).mono ?_
        rintro e X2_12 ⟨v1, v3, v2, v4, rfl, g1, g2, rr⟩
        have M' := ((M.up rr).add g1).add g2
        clear M rr g1 g2
        have M := M'; clear M'
        refine hK _ _ ⟨⟨(HC8.out _ M.below).1, ⟨(HC8.out _ M.below).2, ⟨(HC7.out _ M.below).1, ⟨(HC7.out _ M.below).2.1, ⟨(HC7.out _ M.below).2.2.1, ⟨(HC7.out _ M.below).2.2.2.1, ⟨(HC7.out _ M.below).2.2.2.2.1, ⟨(HC7.out _ M.below).2.2.2.2.2, (HM6.out.under M.below)⟩⟩⟩⟩⟩⟩⟩⟩, ?_⟩
        clear hK K2
        have hS0 : (fun (W : World) => W.cell? ⟨w.heap.size, 0, none⟩ = some (.int .i64 (K : Int)) ∧ W.cell? ⟨b2, 0, none⟩ = some (.slice (some ⟨xb, 0, none⟩) K K) ∧ W.cell? ⟨rb, ro + K * 3, none⟩ = some (.bool qX.1) ∧ W.cell? ⟨rb, ro + K * 3 + 1, none⟩ = some (.slice xa qX.2.1.length x1) ∧ W.cell? ⟨rb, ro + K * 3 + 2, none⟩ = some (.slice xa' qX.2.2.length x2) ∧ W.cell? ⟨rb, ro + j * 3, none⟩ = some (.bool qY.1) ∧ W.cell? ⟨rb, ro + j * 3 + 1, none⟩ = some (.slice ya qY.2.1.length y1) ∧ W.cell? ⟨rb, ro + j * 3 + 2, none⟩ = some (.slice ya' qY.2.2.length y2) ∧ BoxN W b5 44 #[.bool qT.1, .slice a qT.2.1.length e3, .slice a' qT.2.2.length e4]) _ := ⟨(HC8.out _ M.below).1, ⟨(HC8.out _ M.below).2, ⟨(HC7.out _ M.below).1, ⟨(HC7.out _ M.below).2.1, ⟨(HC7.out _ M.below).2.2.1, ⟨(HC7.out _ M.below).2.2.2.1, ⟨(HC7.out _ M.below).2.2.2.2.1, ⟨(HC7.out _ M.below).2.2.2.2.2, (HM6.out.under M.below)⟩⟩⟩⟩⟩⟩⟩⟩
        refine wtk 13 (.tuple #[.agg #[.bool qZ.1, .slice v1 qZ.2.1.length v3, .slice v2 qZ.2.2.length v4], .int .i64 0]) rfl (fun _ _ _ h => h) (Or.inl ⟨by rfl, fun W3 hS => by go_simp⟩) hS0 ?_
        try simp only [Act.put, List.setIfInBounds_toArray, List.set_cons_zero, List.set_cons_succ]
        refine wtk 14 (.agg #[.bool qZ.1, .slice v1 qZ.2.1.length v3, .slice v2 qZ.2.2.length v4]) rfl (fun _ _ _ h => h) (Or.inl ⟨by rfl, fun W3 hS => by go_simp⟩) hS0 ?_
        try simp only [Act.put, List.setIfInBounds_toArray, List.set_cons_zero, List.set_cons_succ]
        refine wtk 15 (.int .i64 0) rfl (fun _ _ _ h => h) (Or.inl ⟨by rfl, fun W3 hS => by go_simp⟩) hS0 ?_
        try simp only [Act.put, List.setIfInBounds_toArray, List.set_cons_zero, List.set_cons_succ]
        refine wtk 16 (.pointer (some ⟨xb, j * 3, none⟩)) rfl (fun _ _ _ h => h) (Or.inl ⟨by rfl, fun W3 hS => by go_simp⟩) hS0 ?_
        try simp only [Act.put, List.setIfInBounds_toArray, List.set_cons_zero, List.set_cons_succ]
        clear hS0
        have hb5 := then_below HB6.out M.below
        have hV5 := HV.out.below hb5
        obtain ⟨zz, -, k0, k1, k2, f0, f1, f2⟩ := hV5.at HZ.out.2 (k := j) (by omega)
        have HV5 := Lib.hid hV5
        have HB5 := Lib.hid hb5
        have HR1 := Lib.hid (M.get 1 rfl)
        have HR2 := Lib.hid (M.get 0 rfl)
        have HM := Lib.hid M.below
        clear M hV5 hb5
        refine one_op 17 rfl (fun Ks hK => ?_)
        go_simp
        refine hK _ _ ⟨?_, ?_⟩
        · have hx := HX.out
          have hr := HRB.out
          have hb5 := HB5x.out
          exact ⟨cell_three (HC8.out _ HM.out).1 (by dsimp only; omega), cell_three (HC8.out _ HM.out).2 (by dsimp only; omega), cell_three ((HC7.out _ HM.out).1) (by dsimp only; omega), cell_three ((HC7.out _ HM.out).2.1) (by dsimp only; omega), cell_three ((HC7.out _ HM.out).2.2.1) (by dsimp only; omega), cell_three ((HC7.out _ HM.out).2.2.2.1) (by dsimp only; omega), cell_three ((HC7.out _ HM.out).2.2.2.2.1) (by dsimp only; omega), cell_three ((HC7.out _ HM.out).2.2.2.2.2) (by dsimp only; omega), boxN_row (boxN_row (boxN_row (HM6.out.under HM.out) (by omega) _) (by omega) _) (by omega) _⟩
        clear hK Ks k0 k1 k2 f0 f1 f2
        refine wdn ?_
        have hx := HX.out
        have R0 := (((keeps_below HB5.out).trans (KeepsOthers.setCell _ ⟨xb, j * 3, none⟩ (.bool qZ.1))).trans (KeepsOthers.setCell _ ⟨xb, j * 3 + 1, none⟩ (.slice v1 qZ.2.1.length v3))).trans (KeepsOthers.setCell _ ⟨xb, j * 3 + 2, none⟩ (.slice v2 qZ.2.2.length v4))
        have R1 : (zs.set j (qZ, (v1, v3), (v2, v4))).map (·.1) = List.replicate (K - (k + 1)) (false, [], []) ++ (sol R K (k + 1)).map qr := by
          rw [HSOL.out, HJ.out.1]
          exact back_fill HN.out.2.2.2.2.2.2.2 (sol_len _ _ _) HZ.out.1 HQZ.out
        have R2 := HV5.out.put' HZ.out.2 (show j < K by omega) (qZ, (v1, v3), (v2, v4)) ⟨HR1.out, HR2.out⟩
        dsimp only at R2
        have R3 := boxN_row (g := xb) (o := j * 3 + 2) (boxN_row (g := xb) (o := j * 3 + 1) (boxN_row (g := xb) (o := j * 3) (boxed_under HB1.out HB5.out) (by omega) (.bool qZ.1)) (by omega) (.slice v1 qZ.2.1.length v3)) (by omega) (.slice v2 qZ.2.2.length v4)
        have R4 := boxN_row (g := xb) (o := j * 3 + 2) (boxN_row (g := xb) (o := j * 3 + 1) (boxN_row (g := xb) (o := j * 3) (boxed_under HB2.out HB5.out) (by omega) (.bool qZ.1)) (by omega) (.slice v1 qZ.2.1.length v3)) (by omega) (.slice v2 qZ.2.2.length v4)
        have R5 := boxN_row (g := xb) (o := j * 3 + 2) (boxN_row (g := xb) (o := j * 3 + 1) (boxN_row (g := xb) (o := j * 3) (boxed_under HBS.out HB5.out) (by have := HSB.out; omega) (.bool qZ.1)) (by have := HSB.out; omega) (.slice v1 qZ.2.1.length v3)) (by have := HSB.out; omega) (.slice v2 qZ.2.2.length v4)
        have R6 := (((then_below HW.out HB5.out).setCell (p := ⟨xb, j * 3, none⟩) (by dsimp only; omega) (.bool qZ.1)).setCell (p := ⟨xb, j * 3 + 1, none⟩) (by dsimp only; omega) (.slice v1 qZ.2.1.length v3)).setCell (p := ⟨xb, j * 3 + 2, none⟩) (by dsimp only; omega) (.slice v2 qZ.2.2.length v4)
        have R7 := And.intro (R0.from V.heap.size) (show SolI w R K w.heap.size b2 xb bs (.slice (some ⟨g, 0, none⟩) K cap') (k + 1) _ from ⟨⟨_, R1, R2⟩, R3, R4, R5, R6⟩)
        exact R7
  case done =>
    rintro D W hD ⟨⟨zs, hz, hV⟩, hb1, hb2, hbs, hbel⟩ hK'
    rw [Nat.sub_self] at hz
    have HZ := Lib.hid (show zs.map (·.1) = (sol R K K).map qr from hz)
    have HV := Lib.hid hV
    have HBEL := Lib.hid hbel
    have hc := hb2.cell
    clear hz hV hb1 hb2 hbs hbel
    go_wp2
    refine ⟨by simp, .inl ⟨_, _, rfl, run_takeDeferred hK', ?_⟩⟩
    refine ⟨_, results_tmp rfl _ _ _, _, _, rfl, ?_, below_left _ HBEL.out (by omega) hK' rfl⟩
    have := (HV.out.off (grownBy_putObj' W D (.deferred none)) (offCells_putObj (M := 0) (Nat.zero_le _) hK' rfl)).fresh.reads
    rw [HZ.out] at this
    exact this
  case stop =>
    rintro D c W _ h _
    exact h.elim
end
end Go.Proofs.YtgmbaamfobhceaaGreat
