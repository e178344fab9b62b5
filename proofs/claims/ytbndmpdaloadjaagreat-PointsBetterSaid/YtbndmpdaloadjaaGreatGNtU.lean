/- The law package's look at copies of grids, truths and norms; its copy of a norm. -/
import Derived.Test.YtbndmpdaloadjaaGreatGNtT
set_option linter.unusedSimpArgs false
set_option linter.unusedVariables false
set_option maxHeartbeats 16000000
namespace Go.Proofs.YtbndmpdaloadjaaGreat
open Go Go.Proofs Go.RowKit Go.Shelf Nu
set_option linter.unusedVariables false
set_option linter.unusedSimpArgs false
set_option maxRecDepth 100000

attribute [local go_sem] Oper.semAt_some

theorem leftG_any {W : World} {B : Nat} {t v : Value} {rows : List (List Qr)} (T : TwG W B t rows) (h : GridR W v rows) (hl : rows.length ≤ 1000) (hb : Mod rows) :
  Calls Tryz.prog 49 #[t, v] W fun e w' => e = .returned (.bool true) ∧ Below W.heap.size W w' := by
 obtain ⟨a, cap, rfl, hcap⟩ := h.form
 obtain ⟨_, _, hA⟩ := h.addr
 obtain ⟨b, c, rfl, hc, hT⟩ := T.addr
 obtain ⟨n, hn⟩ : ∃ n, n = rows.length := ⟨_, rfl⟩
 rw [← hn]
 rw [← hn] at hA hT
 have HN := Lib.hid (show n = rows.length ∧ n ≤ 1000 from ⟨hn, by omega⟩)
 have HA := Lib.hid hA
 have HT := Lib.hid hT
 have HS := Lib.hid hb
 have hn1 : n ≤ 1000 := by omega
 have enn : ((n : Int) != (n : Int)) = false := by simp
 clear h hn hA hcap hb hl T hT hc
 have k0 : ((0 : Nat) : Int) = 0 := rfl
 go_enter Tryz.func49, Tryz.ntmps49
 go_wp2
 go_loopg [5] n (fun gg s5 wr => ∃ k : Nat, k + gg = n ∧ s5 = .int .i64 (k : Int) ∧ Hid (Below W.heap.size W wr))
 case atStart => exact ⟨0, by omega, rfl, Lib.hid (Below.refl _ _)⟩
 case round =>
  clear k0
  obtain ⟨k, hk, rfl, HW⟩ := hrel
  by_cases hlt : k < n
  · have n0 : (0 : Int) ≤ (k : Int) := by omega
    have l0 : (k : Int) < (n : Int) := by omega
    have w0 : IntKind.i64.wrap ((k : Int) + 1) = ((k + 1 : Nat) : Int) := IntWalk.i64_in _ (by omega)
    obtain ⟨bb, off, rfl, hbl, hc⟩ := HA.out (by omega)
    obtain ⟨g, rfl, hgl, hg⟩ := HT.out (by omega)
    obtain ⟨qs, hq⟩ : ∃ qs, rows[k]? = some qs := ⟨_, List.getElem?_eq_getElem (by have := HN.out; omega)⟩
    obtain ⟨u, hu, hv⟩ := hc k qs hq
    obtain ⟨g1, c1, hd, ht⟩ := hg k qs hq
    have hu2 := (HW.out.cell (p := ⟨bb, off + k * 1, none⟩) hbl).trans hu
    rw [Nat.mul_one] at hu2
    have d0 := (HW.out.cell (p := ⟨g, k, none⟩) hgl).trans hd
    have hv2 := hv.below HW.out
    have ht2 := ht.below HW.out
    have hsz := HS.out qs (List.mem_of_getElem? hq)
    obtain ⟨a2, c2, rfl⟩ := hv.form
    have hbs : bb < wr.heap.size := Nat.lt_of_lt_of_le hbl HW.out.size
    have hgr : g < wr.heap.size := Nat.lt_of_lt_of_le hgl HW.out.size
    have kc := Lib.hid (fun (V : World) (r : Below wr.heap.size wr V) => leftR_any (ht2.below r) (hv2.below r) hsz.1 hsz.2)
    obtain ⟨m, hm⟩ : ∃ m, m = qs.length := ⟨_, rfl⟩
    rw [← hm] at hu2 kc d0
    clear hu hv hv2 hsz hq hc HA HS hm ht ht2 hd hg HT
    go_wp2
    refine region_bl (S := fun W => Below wr.heap.size wr W) (by kernel_rfl) ?_
    intro V0 hS0
    refine wpAnyH_take (i := 0) (oi := ⟨_, _, _, _, _, _⟩) (v := .slice (some ⟨g, 0, none⟩) n c) rfl (by kernel_rfl) (by kernel_rfl) (by kernel_rfl) (fun _ _ _ h => h) (Or.inl ⟨by rfl, fun W3 hS => by go_simp⟩) hS0 ?_
    try simp only [Act.put, List.setIfInBounds_toArray, List.set_cons_zero, List.set_cons_succ]
    refine wpAnyH_take (i := 1) (oi := ⟨_, _, _, _, _, _⟩) (v := .int .i64 (k : Int)) rfl (by kernel_rfl) (by kernel_rfl) (by kernel_rfl) (fun _ _ _ h => h) (Or.inl ⟨by rfl, fun W3 hS => by go_simp⟩) hS0 ?_
    try simp only [Act.put, List.setIfInBounds_toArray, List.set_cons_zero, List.set_cons_succ]
    refine wpAnyH_take (i := 2) (oi := ⟨_, _, _, _, _, _⟩) (v := .pointer (some ⟨g, k, none⟩)) rfl (by kernel_rfl) (by kernel_rfl) (by kernel_rfl) (fun _ _ _ h => h) (Or.inl ⟨by rfl, fun W3 hS => by go_simp⟩) hS0 ?_
    try simp only [Act.put, List.setIfInBounds_toArray, List.set_cons_zero, List.set_cons_succ]
    refine wpAnyH_take (i := 3) (oi := ⟨_, _, _, _, _, _⟩) (v := .slice (some ⟨g1, 0, none⟩) m c1) rfl (by kernel_rfl) (by kernel_rfl) (by kernel_rfl) (fun _ _ _ h => h) (Or.inl ⟨by rfl, fun W3 hS => by have c0 := hS.cell (p := ⟨g, k, none⟩) hgr; rw [d0] at c0; go_simp⟩) hS0 ?_
    try simp only [Act.put, List.setIfInBounds_toArray, List.set_cons_zero, List.set_cons_succ]
    refine wpAnyH_take (i := 4) (oi := ⟨_, _, _, _, _, _⟩) (v := .slice (some ⟨bb, off, none⟩) n cap) rfl (by kernel_rfl) (by kernel_rfl) (by kernel_rfl) (fun _ _ _ h => h) (Or.inl ⟨by rfl, fun W3 hS => by go_simp⟩) hS0 ?_
    try simp only [Act.put, List.setIfInBounds_toArray, List.set_cons_zero, List.set_cons_succ]
    refine wpAnyH_take (i := 5) (oi := ⟨_, _, _, _, _, _⟩) (v := .int .i64 (k : Int)) rfl (by kernel_rfl) (by kernel_rfl) (by kernel_rfl) (fun _ _ _ h => h) (Or.inl ⟨by rfl, fun W3 hS => by go_simp⟩) hS0 ?_
    try simp only [Act.put, List.setIfInBounds_toArray, List.set_cons_zero, List.set_cons_succ]
    refine wpAnyH_take (i := 6) (oi := ⟨_, _, _, _, _, _⟩) (v := .pointer (some ⟨bb, off + k, none⟩)) rfl (by kernel_rfl) (by kernel_rfl) (by kernel_rfl) (fun _ _ _ h => h) (Or.inl ⟨by rfl, fun W3 hS => by go_simp⟩) hS0 ?_
    try simp only [Act.put, List.setIfInBounds_toArray, List.set_cons_zero, List.set_cons_succ]
    refine wpAnyH_take (i := 7) (oi := ⟨_, _, _, _, _, _⟩) (v := .slice a2 m c2) rfl (by kernel_rfl) (by kernel_rfl) (by kernel_rfl) (fun _ _ _ h => h) (Or.inl ⟨by rfl, fun W3 hS => by have c0 := hS.cell (p := ⟨bb, off + k, none⟩) hbs; rw [hu2] at c0; go_simp⟩) hS0 ?_
    try simp only [Act.put, List.setIfInBounds_toArray, List.set_cons_zero, List.set_cons_succ]
    have HV0 := Lib.hid hS0
    clear hS0
    refine wpAnyH_all (rs := [8]) (by kernel_rfl) (by simp) ?_
    intro i hi
    obtain rfl : i = 8 := by simpa using hi
    refine wpOp_intro rfl (fun K1 hK => ?_)
    clear hi
    go_simp
    refine (kc.out _ HV0.out).mono ?_
    rintro e V1 ⟨rfl, rr⟩
    have hS1 := then_below HV0.out rr
    clear rr
    refine hK _ _ ⟨hS1, ?_⟩
    clear hK K1
    have hS0 := hS1
    refine wpAnyH_take (i := 9) (oi := ⟨_, _, _, _, _, _⟩) (v := .bool false) rfl (by kernel_rfl) (by kernel_rfl) (by kernel_rfl) (fun _ _ _ h => h) (Or.inl ⟨by rfl, fun W3 hS => by go_simp⟩) hS0 ?_
    try simp only [Act.put, List.setIfInBounds_toArray, List.set_cons_zero, List.set_cons_succ]
    clear hS0
    have HW2 := Lib.hid (then_below HW.out hS1)
    clear hS1 HV0
    refine wpAnyH_done (by kernel_rfl) ?_ _
    go_wp2
    go_roundg (n - (k + 1))
    case measure => omega
    case rel => exact ⟨k + 1, by omega, by first | rfl | simp, HW2⟩
  · obtain rfl : k = n := by omega
    have l0 : ¬ (k : Int) < (k : Int) := by omega
    clear HA HS HT
    go_wp2
    go_ret
    exact ⟨by first | rfl | exact ret_bool (by decide +kernel), HW.out⟩
theorem leftO_any {W : World} {B g c : Nat} {v : Value} {l : List Bool} (T : TwO W B g c l) (h : BoolsR W v l) (hl : l.length ≤ 65536) :
  Calls Tryz.prog 50 #[.slice (some ⟨g, 0, none⟩) l.length c, v] W fun e w' => e = .returned (.bool true) ∧ Below W.heap.size W w' := by
 obtain ⟨a, cap, rfl, hcap⟩ := h.form
 obtain ⟨_, _, hA⟩ := h.addr
 obtain ⟨n, hn⟩ : ∃ n, n = l.length := ⟨_, rfl⟩
 obtain ⟨N, hN⟩ : ∃ N, N = n + 1 := ⟨_, rfl⟩
 have w1 : IntKind.i64.wrap ((n : Int) + 1) = (N : Int) := by rw [hN]; exact IntWalk.i64_in _ (by omega)
 rw [← hn]
 rw [← hn] at hA
 have HN := Lib.hid (show n = l.length ∧ N = n + 1 ∧ n ≤ 65536 from ⟨hn, hN, by omega⟩)
 have HA := Lib.hid hA
 have HT := Lib.hid T
 have hc1 := T.cap
 have hgs : g < W.heap.size := hc1.2.2
 have hn1 : n ≤ 65536 := by omega
 have hN1 : N ≤ 65537 := by omega
 have e0 : ¬ (c : Int) ≤ (n : Int) := by omega
 have e1 : (N : Int) ≤ (c : Int) := by omega
 have e2 : (n : Int) < (N : Int) := by omega
 have e3 : (0 : Int) ≤ (N : Int) := by omega
 have e4 : (0 : Int) ≤ (n : Int) := by omega
 have enn : ((n : Int) != (n : Int)) = false := by simp
 clear h hn hN hcap hA hl T hc1
 have k0 : ((0 : Nat) : Int) = 0 := rfl
 go_enter Tryz.func50, Tryz.ntmps50
 go_wp2
 go_loopg [5] n (fun gg s5 wr => ∃ k : Nat, k + gg = n ∧ s5 = .int .i64 (k : Int) ∧ Hid (Below W.heap.size W wr))
 case atStart => exact ⟨0, by omega, rfl, Lib.hid (Below.refl _ _)⟩
 case round =>
  clear k0
  obtain ⟨k, hk, rfl, HW⟩ := hrel
  have HTW := Lib.hid (HT.out.below HW.out)
  by_cases hlt : k < n
  · have n0 : (0 : Int) ≤ (k : Int) := by omega
    have l0 : (k : Int) < (n : Int) := by omega
    have w0 : IntKind.i64.wrap ((k : Int) + 1) = ((k + 1 : Nat) : Int) := IntWalk.i64_in _ (by omega)
    obtain ⟨b, off, rfl, hbs, hcell⟩ := HA.out (by omega)
    obtain ⟨x, hx⟩ : ∃ x, l[k]? = some x := ⟨_, List.getElem?_eq_getElem (by have := HN.out; omega)⟩
    have c0 := (HW.out.cell (p := ⟨b, off + k * 1, none⟩) hbs).trans (hcell k x hx)
    rw [Nat.mul_one] at c0
    have d0 := HTW.out.at (j := k) (x := x) (by rw [List.getElem?_append_left (by have := HN.out; omega)]; exact hx)
    have hne : (x != x) = false := by simp
    clear hcell hx HA HTW HT
    go_wp2
    go_quiet (fail)
    go_wp2
    go_roundg (n - (k + 1))
    case measure => omega
    case rel => exact ⟨k + 1, by omega, by first | rfl | simp, Lib.hid (below_drewN HW.out _)⟩
  · obtain rfl : k = n := by omega
    have l0 : ¬ (k : Int) < (k : Int) := by omega
    have d0 := HTW.out.at (j := k) (x := true) (by rw [List.getElem?_append_right (by have := HN.out; omega), HN.out.1]; simp)
    clear HA HTW HT
    go_wp2
    go_ret
    exact ⟨by first | rfl | exact ret_bool (by decide +kernel), HW.out⟩

/-- its lists may be copied -/
def NV.Mod (x : NV) : Prop := (x.rows.length ≤ 1000 ∧ Go.Proofs.YtbndmpdaloadjaaGreat.Mod x.rows) ∧ (x.right.length ≤ 65536 ∧ ∀ q ∈ x.right, q.2.1.length ≤ 100000 ∧ q.2.2.length ≤ 100000) ∧ (x.goal.length ≤ 65536 ∧ ∀ q ∈ x.goal, q.2.1.length ≤ 100000 ∧ q.2.2.length ≤ 100000) ∧ x.whole.length ≤ 65536
theorem TwG.form {W : World} {B : Nat} {v : Value} {rows : List (List Qr)} (h : TwG W B v rows) : ∃ a c, v = .slice a rows.length c ∧ rows.length ≤ c := by
 obtain ⟨a, c, e, h1, _⟩ := h.addr
 exact ⟨a, c, e, h1⟩
theorem BoxN.oth {W : World} {B b : Nat} {t : TypeId} {cs : Array Value} (h : BoxN W B t cs) (hne : B ≠ b) (o : Nat) (x : Value) : BoxN (W.setCell ⟨b, o, none⟩ x) B t cs := (Below.heap_setCell W ⟨b, o, none⟩ x B hne).trans h
theorem size_norm : (Tryz.prog.info? 42).map (·.size) = some 4 := by kernel_rfl
/-- a copy of a norm -/
def TwN (W : World) (B : Nat) (v : Value) (x : NV) : Prop := ∃ ta tc g2 c2 g3 c3 g4 c4, v = .agg #[.slice ta x.rows.length tc, .slice (some ⟨g2, 0, none⟩) x.right.length c2, .slice (some ⟨g3, 0, none⟩) x.goal.length c3, .slice (some ⟨g4, 0, none⟩) x.whole.length c4] ∧ TwG W B (.slice ta x.rows.length tc) x.rows ∧ TwR W B g2 c2 x.right ∧ TwR W B g3 c3 x.goal ∧ TwO W B g4 c4 x.whole
theorem TwN.below {W W' : World} {B : Nat} {v : Value} {x : NV} (h : TwN W B v x) (hb : Below W.heap.size W W') : TwN W' B v x := by
 obtain ⟨ta, tc, g2, c2, g3, c3, g4, c4, e, h1, h2, h3, h4⟩ := h
 exact ⟨ta, tc, g2, c2, g3, c3, g4, c4, e, h1.below hb, h2.below hb, h3.below hb, h4.below hb⟩
theorem twinN_any {w : World} {la ra ga oa : Option Addr} {ln lc rn rc gn gc on oc : Nat} {x : NV} (hL : GridR w (.slice la ln lc) x.rows) (hR : VReads w (.slice ra rn rc) x.right) (hG : VReads w (.slice ga gn gc) x.goal) (hO : BoolsR w (.slice oa on oc) x.whole) (hm : x.Mod) :
  Calls Tryz.prog 14 #[.agg #[.slice la ln lc, .slice ra rn rc, .slice ga gn gc, .slice oa on oc]] w fun e w' => ∃ v, e = .returned v ∧ TwN w' w.heap.size v x ∧ Below w.heap.size w w' := by
 have kL := Lib.hid (fun (W : World) (r : Below w.heap.size w W) => twinG_any (hL.below r) hm.1.1 hm.1.2)
 have kR := Lib.hid (fun (W : World) (r : Below w.heap.size w W) => twinR_any (hR.below r) hm.2.1.1 hm.2.1.2)
 have kG := Lib.hid (fun (W : World) (r : Below w.heap.size w W) => twinR_any (hG.below r) hm.2.2.1.1 hm.2.2.1.2)
 have kO := Lib.hid (fun (W : World) (r : Below w.heap.size w W) => twinO_any (hO.below r) hm.2.2.2)
 have al := (Below.refl w.heap.size w).alloc (Nat.le_refl _) (.cells #[.slice la ln lc, .slice ra rn rc, .slice ga gn gc, .slice oa on oc] 42)
 have HX0 := Lib.hid ((BoxN.new w 42 #[.slice la ln lc, .slice ra rn rc, .slice ga gn gc, .slice oa on oc]).alloc (.cells #[.slice none 0 0, .slice none 0 0, .slice none 0 0, .slice none 0 0] 42))
 have HY0 := Lib.hid (BoxN.new1 w (.cells #[.slice la ln lc, .slice ra rn rc, .slice ga gn gc, .slice oa on oc] 42) 42 #[.slice none 0 0, .slice none 0 0, .slice none 0 0, .slice none 0 0])
 have HB0 := Lib.hid (al.alloc al.size (.cells #[.slice none 0 0, .slice none 0 0, .slice none 0 0, .slice none 0 0] 42))
 clear hL hR hG hO hm al
 go_enter Tryz.func14, Tryz.ntmps14
 go_wp2
 refine region_bl (S := fun W => BoxN W w.heap.size 42 #[.slice la ln lc, .slice ra rn rc, .slice ga gn gc, .slice oa on oc]) (by kernel_rfl) ?_
 intro V0 r0
 have HB := Lib.hid (then_below HB0.out r0)
 have HX := Lib.hid (HX0.out.under r0)
 have HY := Lib.hid (HY0.out.under r0)
 clear HB0 HX0 HY0 r0
 have hS0 := HX.out
 refine wpAnyH_take (i := 0) (oi := ⟨_, _, _, _, _, _⟩) (v := .pointer (some ⟨w.heap.size, 0, none⟩)) rfl (by kernel_rfl) (by kernel_rfl) (by kernel_rfl) (fun _ _ _ h => h) (Or.inl ⟨by rfl, fun W3 hS => by go_simp⟩) hS0 ?_
 try simp only [Act.put, List.setIfInBounds_toArray, List.set_cons_zero, List.set_cons_succ]
 refine wpAnyH_take (i := 1) (oi := ⟨_, _, _, _, _, _⟩) (v := .slice la ln lc) rfl (by kernel_rfl) (by kernel_rfl) (by kernel_rfl) (fun _ _ _ h => h) (Or.inl ⟨by rfl, fun W3 hS => by have c0 := hS.cell 0 _ rfl; go_simp⟩) hS0 ?_
 try simp only [Act.put, List.setIfInBounds_toArray, List.set_cons_zero, List.set_cons_succ]
 refine wpAnyH_take (i := 3) (oi := ⟨_, _, _, _, _, _⟩) (v := .pointer (some ⟨w.heap.size, 1, none⟩)) rfl (by kernel_rfl) (by kernel_rfl) (by kernel_rfl) (fun _ _ _ h => h) (Or.inl ⟨by rfl, fun W3 hS => by go_simp⟩) hS0 ?_
 try simp only [Act.put, List.setIfInBounds_toArray, List.set_cons_zero, List.set_cons_succ]
 refine wpAnyH_take (i := 4) (oi := ⟨_, _, _, _, _, _⟩) (v := .slice ra rn rc) rfl (by kernel_rfl) (by kernel_rfl) (by kernel_rfl) (fun _ _ _ h => h) (Or.inl ⟨by rfl, fun W3 hS => by have c0 := hS.cell 1 _ rfl; go_simp⟩) hS0 ?_
 try simp only [Act.put, List.setIfInBounds_toArray, List.set_cons_zero, List.set_cons_succ]
 refine wpAnyH_take (i := 6) (oi := ⟨_, _, _, _, _, _⟩) (v := .pointer (some ⟨w.heap.size, 2, none⟩)) rfl (by kernel_rfl) (by kernel_rfl) (by kernel_rfl) (fun _ _ _ h => h) (Or.inl ⟨by rfl, fun W3 hS => by go_simp⟩) hS0 ?_
 try simp only [Act.put, List.setIfInBounds_toArray, List.set_cons_zero, List.set_cons_succ]
 refine wpAnyH_take (i := 7) (oi := ⟨_, _, _, _, _, _⟩) (v := .slice ga gn gc) rfl (by kernel_rfl) (by kernel_rfl) (by kernel_rfl) (fun _ _ _ h => h) (Or.inl ⟨by rfl, fun W3 hS => by have c0 := hS.cell 2 _ rfl; go_simp⟩) hS0 ?_
 try simp only [Act.put, List.setIfInBounds_toArray, List.set_cons_zero, List.set_cons_succ]
 refine wpAnyH_take (i := 9) (oi := ⟨_, _, _, _, _, _⟩) (v := .pointer (some ⟨w.heap.size, 3, none⟩)) rfl (by kernel_rfl) (by kernel_rfl) (by kernel_rfl) (fun _ _ _ h => h) (Or.inl ⟨by rfl, fun W3 hS => by go_simp⟩) hS0 ?_
 try simp only [Act.put, List.setIfInBounds_toArray, List.set_cons_zero, List.set_cons_succ]
 refine wpAnyH_take (i := 10) (oi := ⟨_, _, _, _, _, _⟩) (v := .slice oa on oc) rfl (by kernel_rfl) (by kernel_rfl) (by kernel_rfl) (fun _ _ _ h => h) (Or.inl ⟨by rfl, fun W3 hS => by have c0 := hS.cell 3 _ rfl; go_simp⟩) hS0 ?_
 try simp only [Act.put, List.setIfInBounds_toArray, List.set_cons_zero, List.set_cons_succ]
 clear hS0
 refine wpAnyH_all (rs := [2]) (by kernel_rfl) (by simp) ?_
 intro i hi
 obtain rfl : i = 2 := by simpa using hi
 refine wpOp_intro rfl (fun K1 hK => ?_)
 clear hi
 go_simp
 refine (kL.out _ HB.out).mono ?_
 rintro e V1 ⟨t1, rfl, q1, rr⟩
 have HB' := Lib.hid (then_below HB.out rr)
 have HX' := Lib.hid (HX.out.under rr)
 have HY' := Lib.hid (HY.out.under rr)
 have Q1 := Lib.hid (q1.mono HB.out.size)
 clear q1
 clear rr HB HX HY
 have HB := HB'
 have HX := HX'
 have HY := HY'
 clear HB' HX' HY'
 refine hK _ _ ⟨HX.out, ?_⟩
 clear hK K1
 have hS0 := HX.out
 clear hS0
 refine wpAnyH_all (rs := [5]) (by kernel_rfl) (by simp) ?_
 intro i hi
 obtain rfl : i = 5 := by simpa using hi
 refine wpOp_intro rfl (fun K2 hK => ?_)
 clear hi
 go_simp
 refine (kR.out _ HB.out).mono ?_
 rintro e V2 ⟨g2, c2, rfl, q2, rr⟩
 have HB' := Lib.hid (then_below HB.out rr)
 have HX' := Lib.hid (HX.out.under rr)
 have HY' := Lib.hid (HY.out.under rr)
 have Q1' := Lib.hid (Q1.out.below rr)
 have Q2 := Lib.hid (q2.mono HB.out.size)
 clear q2 Q1
 have Q1 := Q1'
 clear Q1'
 clear rr HB HX HY
 have HB := HB'
 have HX := HX'
 have HY := HY'
 clear HB' HX' HY'
 refine hK _ _ ⟨HX.out, ?_⟩
 clear hK K2
 have hS0 := HX.out
 clear hS0
 refine wpAnyH_all (rs := [8]) (by kernel_rfl) (by simp) ?_
 intro i hi
 obtain rfl : i = 8 := by simpa using hi
 refine wpOp_intro rfl (fun K3 hK => ?_)
 clear hi
 go_simp
 refine (kG.out _ HB.out).mono ?_
 rintro e V3 ⟨g3, c3, rfl, q3, rr⟩
 have HB' := Lib.hid (then_below HB.out rr)
 have HX' := Lib.hid (HX.out.under rr)
 have HY' := Lib.hid (HY.out.under rr)
 have Q1' := Lib.hid (Q1.out.below rr)
 have Q2' := Lib.hid (Q2.out.below rr)
 have Q3 := Lib.hid (q3.mono HB.out.size)
 clear q3 Q1 Q2
 have Q1 := Q1'
 have Q2 := Q2'
 clear Q1' Q2'
 clear rr HB HX HY
 have HB := HB'
 have HX := HX'
 have HY := HY'
 clear HB' HX' HY'
 refine hK _ _ ⟨HX.out, ?_⟩
 clear hK K3
 have hS0 := HX.out
 clear hS0
 refine wpAnyH_all (rs := [11]) (by kernel_rfl) (by simp) ?_
 intro i hi
 obtain rfl : i = 11 := by simpa using hi
 refine wpOp_intro rfl (fun K4 hK => ?_)
 clear hi
 go_simp
 refine (kO.out _ HB.out).mono ?_
 rintro e V4 ⟨g4, c4, rfl, q4, rr⟩
 have HB' := Lib.hid (then_below HB.out rr)
 have HX' := Lib.hid (HX.out.under rr)
 have HY' := Lib.hid (HY.out.under rr)
 have Q1' := Lib.hid (Q1.out.below rr)
 have Q2' := Lib.hid (Q2.out.below rr)
 have Q3' := Lib.hid (Q3.out.below rr)
 have Q4 := Lib.hid (q4.mono HB.out.size)
 clear q4 Q1 Q2 Q3
 have Q1 := Q1'
 have Q2 := Q2'
 have Q3 := Q3'
 clear Q1' Q2' Q3'
 clear rr HB HX HY
 have HB := HB'
 have HX := HX'
 have HY := HY'
 clear HB' HX' HY'
 refine hK _ _ ⟨HX.out, ?_⟩
 clear hK K4
 have hS0 := HX.out
 obtain ⟨ta, tc, et, htc⟩ := Q1.out.form
 subst et
 refine wpAnyH_take (i := 12) (oi := ⟨_, _, _, _, _, _⟩) (v := .agg #[.slice ta x.rows.length tc, .slice (some ⟨g2, 0, none⟩) x.right.length c2, .slice (some ⟨g3, 0, none⟩) x.goal.length c3, .slice (some ⟨g4, 0, none⟩) x.whole.length c4]) rfl (by kernel_rfl) (by kernel_rfl) (by kernel_rfl) (fun _ _ _ h => h) (Or.inl ⟨by rfl, fun W3 hS => by go_simp⟩) hS0 ?_
 try simp only [Act.put, List.setIfInBounds_toArray, List.set_cons_zero, List.set_cons_succ]
 clear hS0
 have f0 := HY.out.fr 0; have f1 := HY.out.fr 1; have f2 := HY.out.fr 2; have f3 := HY.out.fr 3
 have z0 := HY.out.cell 0 _ rfl; have z1 := HY.out.cell 1 _ rfl; have z2 := HY.out.cell 2 _ rfl; have z3 := HY.out.cell 3 _ rfl
 refine wpAnyH_all (rs := [13]) (by kernel_rfl) (by simp) ?_
 intro i hi
 obtain rfl : i = 13 := by simpa using hi
 refine wpOp_intro rfl (fun K5 hK => ?_)
 clear hi
 go_simp
 clear f0 f1 f2 f3 z0 z1 z2 z3
 have Y1 := HY.out.set 0 (.slice ta x.rows.length tc)
 have Y2 := Y1.set 1 (.slice (some ⟨g2, 0, none⟩) x.right.length c2)
 have Y3 := Y2.set 2 (.slice (some ⟨g3, 0, none⟩) x.goal.length c3)
 have Y4 := Y3.set 3 (.slice (some ⟨g4, 0, none⟩) x.whole.length c4)
 have OF := Lib.hid ((((Off.put HY.out 0 (.slice ta x.rows.length tc)).trans (Off.put Y1 1 (.slice (some ⟨g2, 0, none⟩) x.right.length c2))).trans (Off.put Y2 2 (.slice (some ⟨g3, 0, none⟩) x.goal.length c3))).trans (Off.put Y3 3 (.slice (some ⟨g4, 0, none⟩) x.whole.length c4)))
 have HB5 := Lib.hid ((((HB.out.setCell (p := ⟨w.heap.size + 1, 0, none⟩) (Nat.le_succ _) (.slice ta x.rows.length tc)).setCell (p := ⟨w.heap.size + 1, 1, none⟩) (Nat.le_succ _) (.slice (some ⟨g2, 0, none⟩) x.right.length c2)).setCell (p := ⟨w.heap.size + 1, 2, none⟩) (Nat.le_succ _) (.slice (some ⟨g3, 0, none⟩) x.goal.length c3)).setCell (p := ⟨w.heap.size + 1, 3, none⟩) (Nat.le_succ _) (.slice (some ⟨g4, 0, none⟩) x.whole.length c4))
 have HY5 := Lib.hid Y4
 have HX5 := Lib.hid ((((HX.out.oth (b := w.heap.size + 1) (by omega) 0 (.slice ta x.rows.length tc)).oth (b := w.heap.size + 1) (by omega) 1 (.slice (some ⟨g2, 0, none⟩) x.right.length c2)).oth (b := w.heap.size + 1) (by omega) 2 (.slice (some ⟨g3, 0, none⟩) x.goal.length c3)).oth (b := w.heap.size + 1) (by omega) 3 (.slice (some ⟨g4, 0, none⟩) x.whole.length c4))
 clear Y1 Y2 Y3 Y4 HX HY HB
 refine hK _ _ ⟨HX5.out, ?_⟩
 clear hK K5
 refine wpAnyH_done (by kernel_rfl) ?_ _
 go_wp2
 refine ret_boxN rfl rfl HY5.out Tryz.underlying42 size_norm rfl ?_
 exact ⟨_, rfl, ⟨ta, tc, g2, c2, g3, c3, g4, c4, rfl, Q1.out.off OF.out (by decide), Q2.out.off OF.out (by decide), Q3.out.off OF.out (by decide), Q4.out.off OF.out (by decide)⟩, HB5.out⟩
end Go.Proofs.YtbndmpdaloadjaaGreat
