/- The law package's look at a copy of a row of fractions. -/
import Derived.Test.YtbndmpdaloadjaaGreatGNtB
set_option linter.unusedSimpArgs false
set_option linter.unusedVariables false
set_option maxHeartbeats 8000000
namespace Go.Proofs.YtbndmpdaloadjaaGreat
open Go Go.Proofs Go.RowKit Go.Shelf Nu
set_option linter.unusedVariables false
set_option linter.unusedSimpArgs false
set_option maxRecDepth 100000

attribute [local go_sem] Oper.semAt_some

theorem region_bl {P : Program} {ops : Array Oper} {Q : Exit → Act → World → Prop} {S : World → Prop} {id : Nat} {a : Act} {w : World} (hm : P.follows .mixedOrders = true)
  (h : ∀ V, Below w.heap.size w V → wpAnyH P .any ops Q S ops.size (Array.replicate ops.size false) a V) : (Code.region id ops true).wp P Q a w :=
 wp_region_held hm (h w.drew ⟨rfl, rfl, rfl, Nat.le_refl _, fun _ _ => rfl⟩)
theorem leftR_any {W : World} {B g c : Nat} {v : Value} {qs : List Qr} (T : TwR W B g c qs) (h : VReads W v qs) (hl : qs.length ≤ 65536) (hb : ∀ q ∈ qs, q.2.1.length ≤ 100000 ∧ q.2.2.length ≤ 100000) :
  Calls Tryz.prog 23 #[.slice (some ⟨g, 0, none⟩) qs.length c, v] W fun e w' => e = .returned (.bool true) ∧ Below W.heap.size W w' := by
 obtain ⟨a, cap, rfl⟩ := h.form
 obtain ⟨hn', hcap, bb, off, ha, hc⟩ := h.addr
 obtain ⟨n, hn⟩ : ∃ n, n = qs.length := ⟨_, rfl⟩
 obtain ⟨N, hN⟩ : ∃ N, N = n + 1 := ⟨_, rfl⟩
 have w1 : IntKind.i64.wrap ((n : Int) + 1) = (N : Int) := by rw [hN]; exact IntWalk.i64_in _ (by omega)
 rw [← hn]
 rw [← hn] at ha
 have HN := Lib.hid (show n = qs.length ∧ N = n + 1 ∧ n ≤ 65536 from ⟨hn, hN, by omega⟩)
 have HC := Lib.hid hc
 have HA := Lib.hid ha
 have HS := Lib.hid hb
 have HT := Lib.hid T
 have hc1 := T.cap
 have hgs : g < W.heap.size := hc1.2.2
 have hn1 : n ≤ 65536 := by omega
 have hN1 : N ≤ 65537 := by omega
 have e0 : ¬ (c : Int) ≤ (n : Int) := by omega
 have e1 : (N : Int) ≤ (c : Int) := by omega
 have e2 : (n : Int) < (N : Int) := by omega
 have e3 : (0 : Int) ≤ (N : Int) := by omega
 have e4 : (0 : Int) ≤ (n : Int) := by omega
 have enn : ((n : Int) != (n : Int)) = false := by simp
 clear h hn hN hn' hcap ha hc hb hl T hc1
 have k0 : ((0 : Nat) : Int) = 0 := rfl
 go_enter Tryz.func23, Tryz.ntmps23
 go_wp2
 go_loopg [5] n (fun gg s5 wr => ∃ k : Nat, k + gg = n ∧ s5 = .int .i64 (k : Int) ∧ Hid (Below W.heap.size W wr))
 case atStart => exact ⟨0, by omega, rfl, Lib.hid (Below.refl _ _)⟩
 case round =>
  clear k0
  obtain ⟨k, hk, rfl, HW⟩ := hrel
  have HTW := Lib.hid (HT.out.below HW.out)
  by_cases hlt : k < n
  · have n0 : (0 : Int) ≤ (k : Int) := by omega
    have l0 : (k : Int) < (n : Int) := by omega
    have w0 : IntKind.i64.wrap ((k : Int) + 1) = ((k + 1 : Nat) : Int) := IntWalk.i64_in _ (by omega)
    obtain ⟨rfl, hbl⟩ := HA.out (by omega)
    obtain ⟨q, hq⟩ : ∃ q, qs[k]? = some q := ⟨_, List.getElem?_eq_getElem (by have := HN.out; omega)⟩
    have hqat := (HC.out k q hq).below hbl HW.out
    have hsz := HS.out q (List.mem_of_getElem? hq)
    obtain ⟨g1, e1', g2, e2', d0, d1', d2, t1, t2⟩ := HTW.out.at hq
    have hbs : bb < wr.heap.size := Nat.lt_of_lt_of_le hbl HW.out.size
    have hgr : g < wr.heap.size := Nat.lt_of_lt_of_le hgs HW.out.size
    obtain ⟨s, l1, dd⟩ := q
    obtain ⟨p, c', p', c'', h0, h1, h2, r1, r2⟩ := hqat
    dsimp only at h0 h1 h2 r1 r2 hsz d0 d1' d2 t1 t2
    have kc := Lib.hid (fun (V : World) (r : Below wr.heap.size wr V) => rleft_any (n := s) hsz.1 hsz.2 (t1.below r) (t2.below r) (r1.below r) (r2.below r))
    clear r1 r2 t1 t2 hq hsz HC HA HS HT HTW
    go_wp2
    refine region_bl (S := fun W => Below wr.heap.size wr W) (by kernel_rfl) ?_
    intro V0 hS0
    refine wpAnyH_take (i := 0) (oi := ⟨_, _, _, _, _, _⟩) (v := .slice (some ⟨g, 0, none⟩) n c) rfl (by kernel_rfl) (by kernel_rfl) (by kernel_rfl) (fun _ _ _ h => h) (Or.inl ⟨by rfl, fun W3 hS => by go_simp⟩) hS0 ?_
    try simp only [Act.put, List.setIfInBounds_toArray, List.set_cons_zero, List.set_cons_succ]
    refine wpAnyH_take (i := 1) (oi := ⟨_, _, _, _, _, _⟩) (v := .int .i64 (k : Int)) rfl (by kernel_rfl) (by kernel_rfl) (by kernel_rfl) (fun _ _ _ h => h) (Or.inl ⟨by rfl, fun W3 hS => by go_simp⟩) hS0 ?_
    try simp only [Act.put, List.setIfInBounds_toArray, List.set_cons_zero, List.set_cons_succ]
    refine wpAnyH_take (i := 2) (oi := ⟨_, _, _, _, _, _⟩) (v := .pointer (some ⟨g, k * 3, none⟩)) rfl (by kernel_rfl) (by kernel_rfl) (by kernel_rfl) (fun _ _ _ h => h) (Or.inl ⟨by rfl, fun W3 hS => by go_simp⟩) hS0 ?_
    try simp only [Act.put, List.setIfInBounds_toArray, List.set_cons_zero, List.set_cons_succ]
    refine wpAnyH_take (i := 3) (oi := ⟨_, _, _, _, _, _⟩) (v := .agg #[.bool s, .slice (some ⟨g1, 0, none⟩) l1.length e1', .slice (some ⟨g2, 0, none⟩) dd.length e2']) rfl (by kernel_rfl) (by kernel_rfl) (by kernel_rfl) (fun _ _ _ h => h) (Or.inl ⟨by rfl, fun W3 hS => by have c0 := hS.cell (p := ⟨g, k * 3, none⟩) hgr; have c1 := hS.cell (p := ⟨g, k * 3 + 1, none⟩) hgr; have c2 := hS.cell (p := ⟨g, k * 3 + 2, none⟩) hgr; rw [d0] at c0; rw [d1'] at c1; rw [d2] at c2; go_simp⟩) hS0 ?_
    try simp only [Act.put, List.setIfInBounds_toArray, List.set_cons_zero, List.set_cons_succ]
    refine wpAnyH_take (i := 4) (oi := ⟨_, _, _, _, _, _⟩) (v := .slice (some ⟨bb, off, none⟩) n cap) rfl (by kernel_rfl) (by kernel_rfl) (by kernel_rfl) (fun _ _ _ h => h) (Or.inl ⟨by rfl, fun W3 hS => by go_simp⟩) hS0 ?_
    try simp only [Act.put, List.setIfInBounds_toArray, List.set_cons_zero, List.set_cons_succ]
    refine wpAnyH_take (i := 5) (oi := ⟨_, _, _, _, _, _⟩) (v := .int .i64 (k : Int)) rfl (by kernel_rfl) (by kernel_rfl) (by kernel_rfl) (fun _ _ _ h => h) (Or.inl ⟨by rfl, fun W3 hS => by go_simp⟩) hS0 ?_
    try simp only [Act.put, List.setIfInBounds_toArray, List.set_cons_zero, List.set_cons_succ]
    refine wpAnyH_take (i := 6) (oi := ⟨_, _, _, _, _, _⟩) (v := .pointer (some ⟨bb, off + k * 3, none⟩)) rfl (by kernel_rfl) (by kernel_rfl) (by kernel_rfl) (fun _ _ _ h => h) (Or.inl ⟨by rfl, fun W3 hS => by go_simp⟩) hS0 ?_
    try simp only [Act.put, List.setIfInBounds_toArray, List.set_cons_zero, List.set_cons_succ]
    refine wpAnyH_take (i := 7) (oi := ⟨_, _, _, _, _, _⟩) (v := .agg #[.bool s, .slice p l1.length c', .slice p' dd.length c'']) rfl (by kernel_rfl) (by kernel_rfl) (by kernel_rfl) (fun _ _ _ h => h) (Or.inl ⟨by rfl, fun W3 hS => by have c0 := hS.cell (p := ⟨bb, off + k * 3, none⟩) hbs; have c1 := hS.cell (p := ⟨bb, off + k * 3 + 1, none⟩) hbs; have c2 := hS.cell (p := ⟨bb, off + k * 3 + 2, none⟩) hbs; rw [h0] at c0; rw [h1] at c1; rw [h2] at c2; go_simp⟩) hS0 ?_
    try simp only [Act.put, List.setIfInBounds_toArray, List.set_cons_zero, List.set_cons_succ]
    have HV0 := Lib.hid hS0
    clear hS0
    refine wpAnyH_all (rs := [8]) (by kernel_rfl) (by simp) ?_
    intro i hi
    obtain rfl : i = 8 := by simpa using hi
    refine wpOp_intro rfl (fun K1 hK => ?_)
    clear hi
    go_simp
    refine (kc.out _ HV0.out).mono ?_
    rintro e V1 ⟨rfl, rr⟩
    have hS1 := then_below HV0.out rr
    clear rr
    refine hK _ _ ⟨hS1, ?_⟩
    clear hK K1
    have hS0 := hS1
    refine wpAnyH_take (i := 9) (oi := ⟨_, _, _, _, _, _⟩) (v := .bool false) rfl (by kernel_rfl) (by kernel_rfl) (by kernel_rfl) (fun _ _ _ h => h) (Or.inl ⟨by rfl, fun W3 hS => by go_simp⟩) hS0 ?_
    try simp only [Act.put, List.setIfInBounds_toArray, List.set_cons_zero, List.set_cons_succ]
    clear hS0
    have HW2 := Lib.hid (then_below HW.out hS1)
    clear hS1 HV0
    refine wpAnyH_done (by kernel_rfl) ?_ _
    go_wp2
    go_roundg (n - (k + 1))
    case measure => omega
    case rel => exact ⟨k + 1, by omega, by first | rfl | simp, HW2⟩
  · obtain rfl : k = n := by omega
    have l0 : ¬ (k : Int) < (k : Int) := by omega
    obtain ⟨y, d0, d1', d2, r⟩ := HTW.out.mark
    obtain ⟨bm, om, hm, hmc⟩ := r.addr
    obtain ⟨ya, yc⟩ := y
    obtain ⟨rfl, hms⟩ := hm (by simp)
    have m0 := hmc 0 (by simp)
    simp only [Nat.add_zero, List.getD_cons_zero] at m0
    rw [← HN.out.1] at d0 d1' d2
    clear HC HA HS HT HTW r hm hmc
    go_wp2
    go_ret
    exact ⟨by first | rfl | exact ret_bool (by decide +kernel), HW.out.alloc HW.out.size _⟩
end Go.Proofs.YtbndmpdaloadjaaGreat
