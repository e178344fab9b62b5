/- Models: lists of vars and of rows looked at again; how much is in them. -/
import Derived.Test.YtbndmpdaloadjaaGreatGNmC
set_option linter.unusedSimpArgs false
set_option linter.unusedVariables false
namespace Go.Proofs.YtbndmpdaloadjaaGreat
open Go Go.Proofs Go.RowKit Go.Shelf Nu
set_option linter.unusedVariables false
set_option linter.unusedSimpArgs false
set_option maxRecDepth 100000

attribute [local go_sem] Oper.semAt_some

theorem a4_le (n m : Nat) : a4 n m ≤ n + m := by unfold a4; split <;> omega
theorem var_le {x : Vr} (h : Vr.Big x) : x.size ≤ 600000000000000 := by
  have h0 := h.1
  have h1 := rsz_le h.2.1
  have h2 := rsz_le h.2.2
  have q1 := a4_le (a4 (1 + x.name.size) (rsz x.low.2.1.length x.low.2.2.length)) (rsz x.high.2.1.length x.high.2.2.length)
  have q2 := a4_le (1 + x.name.size) (rsz x.low.2.1.length x.low.2.2.length)
  unfold Vr.size
  omega
theorem row_le {x : Rw} (h : Rw.Big x) : x.size ≤ 600000000000000 := by
  have h0 := rsize_le h.1
  have h1 := rsz_le h.2.1
  have q1 := a4_le (a4 1 (rsize x.coef)) (rsz x.right.2.1.length x.right.2.2.length)
  have q2 := a4_le 1 (rsize x.coef)
  unfold Rw.size
  omega

set_option maxHeartbeats 16000000 in
theorem leftVars_any {W : World} {B g c : Nat} {v : Value} {l : List Vr} (T : TwVars W B g c l) (h : VarsR W v l) (hl : l.length ≤ 1000) (hb : ∀ x ∈ l, Vr.Mod x) :
    Calls Tryz.prog 31 #[.slice (some ⟨g, 0, none⟩) l.length c, v] W fun e w' => e = .returned (.bool true) ∧ Below W.heap.size W w' := by
  obtain ⟨a, cap, rfl, hcap⟩ := h.form
  obtain ⟨-, -, hA⟩ := h.addr
  obtain ⟨n, hn⟩ : ∃ n, n = l.length := ⟨_, rfl⟩
  obtain ⟨N, hN⟩ : ∃ N, N = n + 1 := ⟨_, rfl⟩
  have w1 : IntKind.i64.wrap ((n : Int) + 1) = (N : Int) := by rw [hN]; exact IntWalk.i64_in _ (by omega)
  rw [← hn]
  rw [← hn] at hA
  have HN := Lib.hid (show n = l.length ∧ N = n + 1 ∧ n ≤ 1000 from ⟨hn, hN, by omega⟩)
  have HA := Lib.hid hA
  have HS := Lib.hid hb
  have HT := Lib.hid T
  have hc1 := T.cap
  have hgs : g < W.heap.size := hc1.2.2
  have hn1 : n ≤ 1000 := by omega
  have hN1 : N ≤ 1001 := by omega
  have e0 : ¬ (c : Int) ≤ (n : Int) := by omega
  have e1 : (N : Int) ≤ (c : Int) := by omega
  have e2 : (n : Int) < (N : Int) := by omega
  have e3 : (0 : Int) ≤ (N : Int) := by omega
  have e4 : (0 : Int) ≤ (n : Int) := by omega
  have enn : ((n : Int) != (n : Int)) = false := by simp
  have hsp : (({ data := #[115, 112, 97, 114, 101] } : ByteArray).toList == ({ data := #[115, 112, 97, 114, 101] } : ByteArray).toList) = true := str_same _
  clear h hn hN hcap hA hb hl T hc1
  have k0 : ((0 : Nat) : Int) = 0 := rfl
  go_enter Tryz.func31, Tryz.ntmps31
  go_wp2
  go_loopg [5] n (fun gg s5 wr => ∃ k : Nat, k + gg = n ∧ s5 = .int .i64 (k : Int) ∧ Hid (Below W.heap.size W wr))
  case atStart => exact ⟨0, by omega, rfl, Lib.hid (Below.refl _ _)⟩
  case round =>
    clear k0
    obtain ⟨k, hk, rfl, HB⟩ := hrel
    have HTW := Lib.hid (HT.out.below HB.out (fun _ _ h => TVar.below h HB.out))
    by_cases hlt : k < n
    · have n0 : (0 : Int) ≤ (k : Int) := by omega
      have l0 : (k : Int) < (n : Int) := by omega
      have w0 : IntKind.i64.wrap ((k : Int) + 1) = ((k + 1 : Nat) : Int) := IntWalk.i64_in _ (by omega)
      obtain ⟨bb, off, rfl, hbl, hc⟩ := HA.out (by omega)
      obtain ⟨x, hx⟩ : ∃ x, l[k]? = some x := ⟨_, List.getElem?_eq_getElem (by have := HN.out; omega)⟩
      obtain ⟨v0, v1, v2, ⟨p1, e1, p2, e2, v3, v4, v5, r1, r2⟩, v6, p3, e3, p4, e4, v7, v8, v9, r3, r4⟩ := (hc k x hx).below hbl HB.out
      have u0 : wr.cell? ⟨bb, off + k * 10, none⟩ = some (.string x.name) := v0
      have u1 : wr.cell? ⟨bb, off + k * 10 + 1, none⟩ = some (.bool x.whole) := v1
      have u2 : wr.cell? ⟨bb, off + k * 10 + 2, none⟩ = some (.bool x.hasLow) := v2
      have u3 : wr.cell? ⟨bb, off + k * 10 + 3, none⟩ = some (.bool x.low.1) := v3
      have u4 : wr.cell? ⟨bb, off + k * 10 + 4, none⟩ = some (.slice p1 x.low.2.1.length e1) := v4
      have u5 : wr.cell? ⟨bb, off + k * 10 + 5, none⟩ = some (.slice p2 x.low.2.2.length e2) := v5
      have u6 : wr.cell? ⟨bb, off + k * 10 + 6, none⟩ = some (.bool x.hasHigh) := v6
      have u7 : wr.cell? ⟨bb, off + k * 10 + 7, none⟩ = some (.bool x.high.1) := v7
      have u8 : wr.cell? ⟨bb, off + k * 10 + 8, none⟩ = some (.slice p3 x.high.2.1.length e3) := v8
      have u9 : wr.cell? ⟨bb, off + k * 10 + 9, none⟩ = some (.slice p4 x.high.2.2.length e4) := v9
      clear v0 v1 v2 v3 v4 v5 v6 v7 v8 v9
      obtain ⟨cs, -, T, hcc⟩ := TwL.at (by rfl) HTW.out hx
      obtain ⟨g1, c1, g2, c2, g3, c3, g4, c4, rfl, t1, t2, t3, t4⟩ := T
      have d0 : wr.cell? ⟨g, k * 10, none⟩ = some (.string x.name) := hcc 0 _ rfl
      have d1 : wr.cell? ⟨g, k * 10 + 1, none⟩ = some (.bool x.whole) := hcc 1 _ rfl
      have d2 : wr.cell? ⟨g, k * 10 + 2, none⟩ = some (.bool x.hasLow) := hcc 2 _ rfl
      have d3 : wr.cell? ⟨g, k * 10 + 3, none⟩ = some (.bool x.low.1) := hcc 3 _ rfl
      have d4 : wr.cell? ⟨g, k * 10 + 4, none⟩ = some (.slice (some ⟨g1, 0, none⟩) x.low.2.1.length c1) := hcc 4 _ rfl
      have d5 : wr.cell? ⟨g, k * 10 + 5, none⟩ = some (.slice (some ⟨g2, 0, none⟩) x.low.2.2.length c2) := hcc 5 _ rfl
      have d6 : wr.cell? ⟨g, k * 10 + 6, none⟩ = some (.bool x.hasHigh) := hcc 6 _ rfl
      have d7 : wr.cell? ⟨g, k * 10 + 7, none⟩ = some (.bool x.high.1) := hcc 7 _ rfl
      have d8 : wr.cell? ⟨g, k * 10 + 8, none⟩ = some (.slice (some ⟨g3, 0, none⟩) x.high.2.1.length c3) := hcc 8 _ rfl
      have d9 : wr.cell? ⟨g, k * 10 + 9, none⟩ = some (.slice (some ⟨g4, 0, none⟩) x.high.2.2.length c4) := hcc 9 _ rfl
      have hsz := HS.out x (List.mem_of_getElem? hx)
      have hbs : bb < wr.heap.size := Nat.lt_of_lt_of_le hbl HB.out.size
      have hgr : g < wr.heap.size := Nat.lt_of_lt_of_le hgs HB.out.size
      have kc := Lib.hid (fun (V : World) (r : Below wr.heap.size wr V) => leftVar_any (t1.below r) (t2.below r) (t3.below r) (t4.below r) (r1.below r) (r2.below r) (r3.below r) (r4.below r) hsz)
      clear hc hx hsz HA HS HT HTW hcc r1 r2 r3 r4 t1 t2 t3 t4
      go_wp2
      refine region_bl (S := fun W => Below wr.heap.size wr W) (by kernel_rfl) ?_
      intro V0 hS0
      refine wpAnyH_take (i := 0) (oi := ⟨_, _, _, _, _, _⟩) (v := .slice (some ⟨g, 0, none⟩) n c) rfl (by kernel_rfl) (by kernel_rfl) (by kernel_rfl) (fun _ _ _ h => h) (Or.inl ⟨by rfl, fun W3 hS => by go_simp⟩) hS0 ?_
      try simp only [Act.put, List.setIfInBounds_toArray, List.set_cons_zero, List.set_cons_succ]
      refine wpAnyH_take (i := 1) (oi := ⟨_, _, _, _, _, _⟩) (v := .int .i64 (k : Int)) rfl (by kernel_rfl) (by kernel_rfl) (by kernel_rfl) (fun _ _ _ h => h) (Or.inl ⟨by rfl, fun W3 hS => by go_simp⟩) hS0 ?_
      try simp only [Act.put, List.setIfInBounds_toArray, List.set_cons_zero, List.set_cons_succ]
      refine wpAnyH_take (i := 2) (oi := ⟨_, _, _, _, _, _⟩) (v := .pointer (some ⟨g, k * 10, none⟩)) rfl (by kernel_rfl) (by kernel_rfl) (by kernel_rfl) (fun _ _ _ h => h) (Or.inl ⟨by rfl, fun W3 hS => by go_simp⟩) hS0 ?_
      try simp only [Act.put, List.setIfInBounds_toArray, List.set_cons_zero, List.set_cons_succ]
      refine wpAnyH_take (i := 3) (oi := ⟨_, _, _, _, _, _⟩) (v := .agg #[.string x.name, .bool x.whole, .bool x.hasLow, .bool x.low.1, .slice (some ⟨g1, 0, none⟩) x.low.2.1.length c1, .slice (some ⟨g2, 0, none⟩) x.low.2.2.length c2, .bool x.hasHigh, .bool x.high.1, .slice (some ⟨g3, 0, none⟩) x.high.2.1.length c3, .slice (some ⟨g4, 0, none⟩) x.high.2.2.length c4]) rfl (by kernel_rfl) (by kernel_rfl) (by kernel_rfl) (fun _ _ _ h => h) (Or.inl ⟨by rfl, fun W3 hS => by have y0 := (hS.cell (p := ⟨g, k * 10, none⟩) hgr).trans d0; have y1 := (hS.cell (p := ⟨g, k * 10 + 1, none⟩) hgr).trans d1; have y2 := (hS.cell (p := ⟨g, k * 10 + 2, none⟩) hgr).trans d2; have y3 := (hS.cell (p := ⟨g, k * 10 + 3, none⟩) hgr).trans d3; have y4 := (hS.cell (p := ⟨g, k * 10 + 4, none⟩) hgr).trans d4; have y5 := (hS.cell (p := ⟨g, k * 10 + 5, none⟩) hgr).trans d5; have y6 := (hS.cell (p := ⟨g, k * 10 + 6, none⟩) hgr).trans d6; have y7 := (hS.cell (p := ⟨g, k * 10 + 7, none⟩) hgr).trans d7; have y8 := (hS.cell (p := ⟨g, k * 10 + 8, none⟩) hgr).trans d8; have y9 := (hS.cell (p := ⟨g, k * 10 + 9, none⟩) hgr).trans d9; go_simp⟩) hS0 ?_
      try simp only [Act.put, List.setIfInBounds_toArray, List.set_cons_zero, List.set_cons_succ]
      refine wpAnyH_take (i := 4) (oi := ⟨_, _, _, _, _, _⟩) (v := .slice (some ⟨bb, off, none⟩) n cap) rfl (by kernel_rfl) (by kernel_rfl) (by kernel_rfl) (fun _ _ _ h => h) (Or.inl ⟨by rfl, fun W3 hS => by go_simp⟩) hS0 ?_
      try simp only [Act.put, List.setIfInBounds_toArray, List.set_cons_zero, List.set_cons_succ]
      refine wpAnyH_take (i := 5) (oi := ⟨_, _, _, _, _, _⟩) (v := .int .i64 (k : Int)) rfl (by kernel_rfl) (by kernel_rfl) (by kernel_rfl) (fun _ _ _ h => h) (Or.inl ⟨by rfl, fun W3 hS => by go_simp⟩) hS0 ?_
      try simp only [Act.put, List.setIfInBounds_toArray, List.set_cons_zero, List.set_cons_succ]
      refine wpAnyH_take (i := 6) (oi := ⟨_, _, _, _, _, _⟩) (v := .pointer (some ⟨bb, off + k * 10, none⟩)) rfl (by kernel_rfl) (by kernel_rfl) (by kernel_rfl) (fun _ _ _ h => h) (Or.inl ⟨by rfl, fun W3 hS => by go_simp⟩) hS0 ?_
      try simp only [Act.put, List.setIfInBounds_toArray, List.set_cons_zero, List.set_cons_succ]
      refine wpAnyH_take (i := 7) (oi := ⟨_, _, _, _, _, _⟩) (v := .agg #[.string x.name, .bool x.whole, .bool x.hasLow, .bool x.low.1, .slice p1 x.low.2.1.length e1, .slice p2 x.low.2.2.length e2, .bool x.hasHigh, .bool x.high.1, .slice p3 x.high.2.1.length e3, .slice p4 x.high.2.2.length e4]) rfl (by kernel_rfl) (by kernel_rfl) (by kernel_rfl) (fun _ _ _ h => h) (Or.inl ⟨by rfl, fun W3 hS => by have y0 := (hS.cell (p := ⟨bb, off + k * 10, none⟩) hbs).trans u0; have y1 := (hS.cell (p := ⟨bb, off + k * 10 + 1, none⟩) hbs).trans u1; have y2 := (hS.cell (p := ⟨bb, off + k * 10 + 2, none⟩) hbs).trans u2; have y3 := (hS.cell (p := ⟨bb, off + k * 10 + 3, none⟩) hbs).trans u3; have y4 := (hS.cell (p := ⟨bb, off + k * 10 + 4, none⟩) hbs).trans u4; have y5 := (hS.cell (p := ⟨bb, off + k * 10 + 5, none⟩) hbs).trans u5; have y6 := (hS.cell (p := ⟨bb, off + k * 10 + 6, none⟩) hbs).trans u6; have y7 := (hS.cell (p := ⟨bb, off + k * 10 + 7, none⟩) hbs).trans u7; have y8 := (hS.cell (p := ⟨bb, off + k * 10 + 8, none⟩) hbs).trans u8; have y9 := (hS.cell (p := ⟨bb, off + k * 10 + 9, none⟩) hbs).trans u9; go_simp⟩) hS0 ?_
      try simp only [Act.put, List.setIfInBounds_toArray, List.set_cons_zero, List.set_cons_succ]
      have HV0 := Lib.hid hS0
      clear hS0
      refine wpAnyH_all (rs := [8]) (by kernel_rfl) (by simp) ?_
      intro i hi
      obtain rfl : i = 8 := by simpa using hi
      refine wpOp_intro rfl (fun K1 hK => ?_)
      clear hi
      go_simp
      refine (kc.out _ HV0.out).mono ?_
      rintro e V1 ⟨rfl, rr⟩
      have hS1 := then_below HV0.out rr
      clear rr
      refine hK _ _ ⟨hS1, ?_⟩
      clear hK K1
      have hS0 := hS1
      refine wpAnyH_take (i := 9) (oi := ⟨_, _, _, _, _, _⟩) (v := .bool false) rfl (by kernel_rfl) (by kernel_rfl) (by kernel_rfl) (fun _ _ _ h => h) (Or.inl ⟨by rfl, fun W3 hS => by go_simp⟩) hS0 ?_
      try simp only [Act.put, List.setIfInBounds_toArray, List.set_cons_zero, List.set_cons_succ]
      clear hS0
      have HW2 := Lib.hid (then_below HB.out hS1)
      clear hS1 HV0
      refine wpAnyH_done (by kernel_rfl) ?_ _
      go_wp2
      go_roundg (n - (k + 1))
      case measure => omega
      case rel => exact ⟨k + 1, by omega, by first | rfl | simp, HW2⟩
    · obtain rfl : k = n := by omega
      have l0 : ¬ (k : Int) < (k : Int) := by omega
      have d0 : wr.cell? ⟨g, k * 10, none⟩ = some (.string ⟨#[115, 112, 97, 114, 101]⟩) := by have h := TwL.markAt (by rfl) HTW.out (i := 0) (v := .string ⟨#[115, 112, 97, 114, 101]⟩) rfl; rw [← HN.out.1] at h; exact h
      have d1 : wr.cell? ⟨g, k * 10 + 1, none⟩ = some (.bool false) := by have h := TwL.markAt (by rfl) HTW.out (i := 1) (v := .bool false) rfl; rw [← HN.out.1] at h; exact h
      have d2 : wr.cell? ⟨g, k * 10 + 2, none⟩ = some (.bool false) := by have h := TwL.markAt (by rfl) HTW.out (i := 2) (v := .bool false) rfl; rw [← HN.out.1] at h; exact h
      have d3 : wr.cell? ⟨g, k * 10 + 3, none⟩ = some (.bool false) := by have h := TwL.markAt (by rfl) HTW.out (i := 3) (v := .bool false) rfl; rw [← HN.out.1] at h; exact h
      have d4 : wr.cell? ⟨g, k * 10 + 4, none⟩ = some (.slice none 0 0) := by have h := TwL.markAt (by rfl) HTW.out (i := 4) (v := .slice none 0 0) rfl; rw [← HN.out.1] at h; exact h
      have d5 : wr.cell? ⟨g, k * 10 + 5, none⟩ = some (.slice none 0 0) := by have h := TwL.markAt (by rfl) HTW.out (i := 5) (v := .slice none 0 0) rfl; rw [← HN.out.1] at h; exact h
      have d6 : wr.cell? ⟨g, k * 10 + 6, none⟩ = some (.bool false) := by have h := TwL.markAt (by rfl) HTW.out (i := 6) (v := .bool false) rfl; rw [← HN.out.1] at h; exact h
      have d7 : wr.cell? ⟨g, k * 10 + 7, none⟩ = some (.bool false) := by have h := TwL.markAt (by rfl) HTW.out (i := 7) (v := .bool false) rfl; rw [← HN.out.1] at h; exact h
      have d8 : wr.cell? ⟨g, k * 10 + 8, none⟩ = some (.slice none 0 0) := by have h := TwL.markAt (by rfl) HTW.out (i := 8) (v := .slice none 0 0) rfl; rw [← HN.out.1] at h; exact h
      have d9 : wr.cell? ⟨g, k * 10 + 9, none⟩ = some (.slice none 0 0) := by have h := TwL.markAt (by rfl) HTW.out (i := 9) (v := .slice none 0 0) rfl; rw [← HN.out.1] at h; exact h
      clear HA HS HT HTW
      go_wp2
      go_ret
      exact ⟨by first | rfl | exact ret_bool (by decide +kernel), HB.out.alloc HB.out.size _⟩
set_option maxHeartbeats 4000000 in
theorem vars_size {w : World} {a : Option Addr} {n cap : Nat} {l : List Vr} (h : VarsR w (.slice a n cap) l) (hn : n ≤ 70368744177664) (hq : ∀ x ∈ l, Vr.Big x) :
    Calls Tryz.prog 51 #[.slice a n cap] w fun e w' => e = .returned (.int .i64 (lsz Vr.size l.length l : Nat)) ∧ Below w.heap.size w w' := by
  obtain ⟨hl, hcap, hA⟩ := h.addr
  have HA := Lib.hid hA
  have HQ := Lib.hid hq
  have HL := Lib.hid hl
  have HG := Lib.hid (show lsz Vr.size l.length l = lsz Vr.size n l by rw [hl])
  generalize lsz Vr.size l.length l = G at *
  clear h hA hq hl
  go_enter Tryz.func51, Tryz.ntmps51
  go_wp2
  go_loopw [3, 4] (fun s i wr => ∃ (k m : Nat), k ≤ n ∧ m ≤ 1000000000000000 ∧ i = .int .i64 k ∧ s = .int .i64 m ∧ Hid (lsz Vr.size m (l.drop k) = G) ∧ Hid (Below w.heap.size w wr)) (fun _ i _ => n - (intOf i).toNat)
  case atStart => exact ⟨0, n, Nat.zero_le _, by omega, rfl, rfl, Lib.hid HG.out.symm, Lib.hid (Below.refl _ _)⟩
  case round =>
    clear HG
    obtain ⟨k, m, hk, hm, rfl, rfl, HS, HB⟩ := hrel
    by_cases hlt : k < n
    · by_cases hmm : m ≤ 1048576
      · obtain ⟨bb, off, rfl, hbl, hc⟩ := HA.out (by omega)
        obtain ⟨x, hx⟩ : ∃ x, l[k]? = some x := ⟨_, List.getElem?_eq_getElem (by have := HL.out; omega)⟩
        obtain ⟨v0, v1, v2, ⟨p1, e1, p2, e2, v3, v4, v5, r1, r2⟩, v6, p3, e3, p4, e4, v7, v8, v9, r3, r4⟩ := (hc k x hx).below hbl HB.out
        have u0 : wr.cell? ⟨bb, off + k * 10, none⟩ = some (.string x.name) := v0
        have u1 : wr.cell? ⟨bb, off + k * 10 + 1, none⟩ = some (.bool x.whole) := v1
        have u2 : wr.cell? ⟨bb, off + k * 10 + 2, none⟩ = some (.bool x.hasLow) := v2
        have u3 : wr.cell? ⟨bb, off + k * 10 + 3, none⟩ = some (.bool x.low.1) := v3
        have u4 : wr.cell? ⟨bb, off + k * 10 + 4, none⟩ = some (.slice p1 x.low.2.1.length e1) := v4
        have u5 : wr.cell? ⟨bb, off + k * 10 + 5, none⟩ = some (.slice p2 x.low.2.2.length e2) := v5
        have u6 : wr.cell? ⟨bb, off + k * 10 + 6, none⟩ = some (.bool x.hasHigh) := v6
        have u7 : wr.cell? ⟨bb, off + k * 10 + 7, none⟩ = some (.bool x.high.1) := v7
        have u8 : wr.cell? ⟨bb, off + k * 10 + 8, none⟩ = some (.slice p3 x.high.2.1.length e3) := v8
        have u9 : wr.cell? ⟨bb, off + k * 10 + 9, none⟩ = some (.slice p4 x.high.2.2.length e4) := v9
        clear v0 v1 v2 v3 v4 v5 v6 v7 v8 v9
        have hbig := HQ.out _ (List.mem_of_getElem? hx)
        have hst := HS.out
        rw [lsz_drop Vr.size hx hmm] at hst
        obtain ⟨r, hr⟩ : ∃ r, r = Vr.size x := ⟨_, rfl⟩
        have hr2 : r ≤ 600000000000000 := hr ▸ var_le hbig
        have kc := Lib.hid (varSize_any (w := wr) (p1 := p1) (p2 := p2) (p3 := p3) (p4 := p4) (e1 := e1) (e2 := e2) (e3 := e3) (e4 := e4) hbig)
        rw [← hr] at hst kc
        obtain ⟨z, hz⟩ : ∃ z, z = m + r := ⟨_, rfl⟩
        rw [← hz] at hst
        have hz2 : (m : Int) + (r : Int) = (z : Int) := by omega
        have hz3 : z ≤ 1000000000000000 := by omega
        have HST := Lib.hid hst
        have j1 : (k : Int) < (n : Int) := by omega
        have j2 : (m : Int) ≤ 1048576 := by omega
        have j3 : decide ((m : Int) ≤ 1048576) = true := decide_eq_true j2
        clear hx hbig hst hr hz hc HA HQ r1 r2 r3 r4
        go_wp2_with fail
        refine kc.out.mono ?_
        rintro e w1 ⟨rfl, rr⟩
        have HB1 := Lib.hid (then_below HB.out rr)
        clear kc rr HB u0 u1 u2 u3 u4 u5 u6 u7 u8 u9
        go_wp2_with fail
        go_roundw
        case rel => exact ⟨k + 1, z, by omega, hz3, by simp, rfl, HST, HB1⟩
        case measure => simp [intOf]; omega
      · have hst := HS.out
        rw [lsz_stop Vr.size (by have := HL.out; omega) hmm] at hst
        have HST := Lib.hid hst
        have j1 : (k : Int) < (n : Int) := by omega
        have j2 : ¬ (m : Int) ≤ 1048576 := by omega
        have j3 : decide ((m : Int) ≤ 1048576) = false := decide_eq_false j2
        clear hst HA HQ
        go_wp2_with fail
        go_ret
        exact ⟨by rw [← HST.out]; rfl, HB.out⟩
    · have hst := HS.out
      rw [List.drop_eq_nil_of_le (by have := HL.out; omega)] at hst
      simp only [lsz] at hst
      have HST := Lib.hid hst
      have j1 : ¬ (k : Int) < (n : Int) := by omega
      clear hst HA HQ
      go_wp2_with fail
      go_ret
      exact ⟨by rw [← HST.out]; rfl, HB.out⟩

set_option maxHeartbeats 16000000 in
theorem leftRows_any {W : World} {B g c : Nat} {v : Value} {l : List Rw} (T : TwRows W B g c l) (h : RowsR W v l) (hl : l.length ≤ 1000) (hb : ∀ x ∈ l, Rw.Mod x) :
    Calls Tryz.prog 32 #[.slice (some ⟨g, 0, none⟩) l.length c, v] W fun e w' => e = .returned (.bool true) ∧ Below W.heap.size W w' := by
  obtain ⟨a, cap, rfl, hcap⟩ := h.form
  obtain ⟨-, -, hA⟩ := h.addr
  obtain ⟨n, hn⟩ : ∃ n, n = l.length := ⟨_, rfl⟩
  obtain ⟨N, hN⟩ : ∃ N, N = n + 1 := ⟨_, rfl⟩
  have w1 : IntKind.i64.wrap ((n : Int) + 1) = (N : Int) := by rw [hN]; exact IntWalk.i64_in _ (by omega)
  rw [← hn]
  rw [← hn] at hA
  have HN := Lib.hid (show n = l.length ∧ N = n + 1 ∧ n ≤ 1000 from ⟨hn, hN, by omega⟩)
  have HA := Lib.hid hA
  have HS := Lib.hid hb
  have HT := Lib.hid T
  have hc1 := T.cap
  have hgs : g < W.heap.size := hc1.2.2
  have hn1 : n ≤ 1000 := by omega
  have hN1 : N ≤ 1001 := by omega
  have e0 : ¬ (c : Int) ≤ (n : Int) := by omega
  have e1 : (N : Int) ≤ (c : Int) := by omega
  have e2 : (n : Int) < (N : Int) := by omega
  have e3 : (0 : Int) ≤ (N : Int) := by omega
  have e4 : (0 : Int) ≤ (n : Int) := by omega
  have enn : ((n : Int) != (n : Int)) = false := by simp
  have hsp : ((77 : Int) == 77) = true := rfl
  clear h hn hN hcap hA hb hl T hc1
  have k0 : ((0 : Nat) : Int) = 0 := rfl
  go_enter Tryz.func32, Tryz.ntmps32
  go_wp2
  go_loopg [5] n (fun gg s5 wr => ∃ k : Nat, k + gg = n ∧ s5 = .int .i64 (k : Int) ∧ Hid (Below W.heap.size W wr))
  case atStart => exact ⟨0, by omega, rfl, Lib.hid (Below.refl _ _)⟩
  case round =>
    clear k0
    obtain ⟨k, hk, rfl, HB⟩ := hrel
    have HTW := Lib.hid (HT.out.below HB.out (fun _ _ h => TRow.below h HB.out))
    by_cases hlt : k < n
    · have n0 : (0 : Int) ≤ (k : Int) := by omega
      have l0 : (k : Int) < (n : Int) := by omega
      have w0 : IntKind.i64.wrap ((k : Int) + 1) = ((k + 1 : Nat) : Int) := IntWalk.i64_in _ (by omega)
      obtain ⟨bb, off, rfl, hbl, hc⟩ := HA.out (by omega)
      obtain ⟨x, hx⟩ : ∃ x, l[k]? = some x := ⟨_, List.getElem?_eq_getElem (by have := HN.out; omega)⟩
      obtain ⟨⟨cv, v0, r0⟩, v1, p1, e1, p2, e2, v2, v3, v4, r1, r2⟩ := (hc k x hx).below hbl HB.out
      obtain ⟨p0, e0, rfl⟩ := r0.form
      have u0 : wr.cell? ⟨bb, off + k * 5, none⟩ = some (.slice p0 x.coef.length e0) := v0
      have u1 : wr.cell? ⟨bb, off + k * 5 + 1, none⟩ = some (.int .u8 x.kind) := v1
      have u2 : wr.cell? ⟨bb, off + k * 5 + 2, none⟩ = some (.bool x.right.1) := v2
      have u3 : wr.cell? ⟨bb, off + k * 5 + 3, none⟩ = some (.slice p1 x.right.2.1.length e1) := v3
      have u4 : wr.cell? ⟨bb, off + k * 5 + 4, none⟩ = some (.slice p2 x.right.2.2.length e2) := v4
      clear v0 v1 v2 v3 v4
      obtain ⟨cs, -, T, hcc⟩ := TwL.at (by rfl) HTW.out hx
      obtain ⟨g0, c0, g1, c1, g2, c2, rfl, t0, t1, t2⟩ := T
      have d0 : wr.cell? ⟨g, k * 5, none⟩ = some (.slice (some ⟨g0, 0, none⟩) x.coef.length c0) := hcc 0 _ rfl
      have d1 : wr.cell? ⟨g, k * 5 + 1, none⟩ = some (.int .u8 x.kind) := hcc 1 _ rfl
      have d2 : wr.cell? ⟨g, k * 5 + 2, none⟩ = some (.bool x.right.1) := hcc 2 _ rfl
      have d3 : wr.cell? ⟨g, k * 5 + 3, none⟩ = some (.slice (some ⟨g1, 0, none⟩) x.right.2.1.length c1) := hcc 3 _ rfl
      have d4 : wr.cell? ⟨g, k * 5 + 4, none⟩ = some (.slice (some ⟨g2, 0, none⟩) x.right.2.2.length c2) := hcc 4 _ rfl
      have hsz := HS.out x (List.mem_of_getElem? hx)
      have hbs : bb < wr.heap.size := Nat.lt_of_lt_of_le hbl HB.out.size
      have hgr : g < wr.heap.size := Nat.lt_of_lt_of_le hgs HB.out.size
      have kc := Lib.hid (fun (V : World) (r : Below wr.heap.size wr V) => leftRow_any (t0.below r) (t1.below r) (t2.below r) (r0.below r) (r1.below r) (r2.below r) hsz)
      clear hc hx hsz HA HS HT HTW hcc r0 r1 r2 t0 t1 t2
      go_wp2
      refine region_bl (S := fun W => Below wr.heap.size wr W) (by kernel_rfl) ?_
      intro V0 hS0
      refine wpAnyH_take (i := 0) (oi := ⟨_, _, _, _, _, _⟩) (v := .slice (some ⟨g, 0, none⟩) n c) rfl (by kernel_rfl) (by kernel_rfl) (by kernel_rfl) (fun _ _ _ h => h) (Or.inl ⟨by rfl, fun W3 hS => by go_simp⟩) hS0 ?_
      try simp only [Act.put, List.setIfInBounds_toArray, List.set_cons_zero, List.set_cons_succ]
      refine wpAnyH_take (i := 1) (oi := ⟨_, _, _, _, _, _⟩) (v := .int .i64 (k : Int)) rfl (by kernel_rfl) (by kernel_rfl) (by kernel_rfl) (fun _ _ _ h => h) (Or.inl ⟨by rfl, fun W3 hS => by go_simp⟩) hS0 ?_
      try simp only [Act.put, List.setIfInBounds_toArray, List.set_cons_zero, List.set_cons_succ]
      refine wpAnyH_take (i := 2) (oi := ⟨_, _, _, _, _, _⟩) (v := .pointer (some ⟨g, k * 5, none⟩)) rfl (by kernel_rfl) (by kernel_rfl) (by kernel_rfl) (fun _ _ _ h => h) (Or.inl ⟨by rfl, fun W3 hS => by go_simp⟩) hS0 ?_
      try simp only [Act.put, List.setIfInBounds_toArray, List.set_cons_zero, List.set_cons_succ]
      refine wpAnyH_take (i := 3) (oi := ⟨_, _, _, _, _, _⟩) (v := .agg #[.slice (some ⟨g0, 0, none⟩) x.coef.length c0, .int .u8 x.kind, .bool x.right.1, .slice (some ⟨g1, 0, none⟩) x.right.2.1.length c1, .slice (some ⟨g2, 0, none⟩) x.right.2.2.length c2]) rfl (by kernel_rfl) (by kernel_rfl) (by kernel_rfl) (fun _ _ _ h => h) (Or.inl ⟨by rfl, fun W3 hS => by have y0 := (hS.cell (p := ⟨g, k * 5, none⟩) hgr).trans d0; have y1 := (hS.cell (p := ⟨g, k * 5 + 1, none⟩) hgr).trans d1; have y2 := (hS.cell (p := ⟨g, k * 5 + 2, none⟩) hgr).trans d2; have y3 := (hS.cell (p := ⟨g, k * 5 + 3, none⟩) hgr).trans d3; have y4 := (hS.cell (p := ⟨g, k * 5 + 4, none⟩) hgr).trans d4; go_simp⟩) hS0 ?_
      try simp only [Act.put, List.setIfInBounds_toArray, List.set_cons_zero, List.set_cons_succ]
      refine wpAnyH_take (i := 4) (oi := ⟨_, _, _, _, _, _⟩) (v := .slice (some ⟨bb, off, none⟩) n cap) rfl (by kernel_rfl) (by kernel_rfl) (by kernel_rfl) (fun _ _ _ h => h) (Or.inl ⟨by rfl, fun W3 hS => by go_simp⟩) hS0 ?_
      try simp only [Act.put, List.setIfInBounds_toArray, List.set_cons_zero, List.set_cons_succ]
      refine wpAnyH_take (i := 5) (oi := ⟨_, _, _, _, _, _⟩) (v := .int .i64 (k : Int)) rfl (by kernel_rfl) (by kernel_rfl) (by kernel_rfl) (fun _ _ _ h => h) (Or.inl ⟨by rfl, fun W3 hS => by go_simp⟩) hS0 ?_
      try simp only [Act.put, List.setIfInBounds_toArray, List.set_cons_zero, List.set_cons_succ]
      refine wpAnyH_take (i := 6) (oi := ⟨_, _, _, _, _, _⟩) (v := .pointer (some ⟨bb, off + k * 5, none⟩)) rfl (by kernel_rfl) (by kernel_rfl) (by kernel_rfl) (fun _ _ _ h => h) (Or.inl ⟨by rfl, fun W3 hS => by go_simp⟩) hS0 ?_
      try simp only [Act.put, List.setIfInBounds_toArray, List.set_cons_zero, List.set_cons_succ]
      refine wpAnyH_take (i := 7) (oi := ⟨_, _, _, _, _, _⟩) (v := .agg #[.slice p0 x.coef.length e0, .int .u8 x.kind, .bool x.right.1, .slice p1 x.right.2.1.length e1, .slice p2 x.right.2.2.length e2]) rfl (by kernel_rfl) (by kernel_rfl) (by kernel_rfl) (fun _ _ _ h => h) (Or.inl ⟨by rfl, fun W3 hS => by have y0 := (hS.cell (p := ⟨bb, off + k * 5, none⟩) hbs).trans u0; have y1 := (hS.cell (p := ⟨bb, off + k * 5 + 1, none⟩) hbs).trans u1; have y2 := (hS.cell (p := ⟨bb, off + k * 5 + 2, none⟩) hbs).trans u2; have y3 := (hS.cell (p := ⟨bb, off + k * 5 + 3, none⟩) hbs).trans u3; have y4 := (hS.cell (p := ⟨bb, off + k * 5 + 4, none⟩) hbs).trans u4; go_simp⟩) hS0 ?_
      try simp only [Act.put, List.setIfInBounds_toArray, List.set_cons_zero, List.set_cons_succ]
      have HV0 := Lib.hid hS0
      clear hS0
      refine wpAnyH_all (rs := [8]) (by kernel_rfl) (by simp) ?_
      intro i hi
      obtain rfl : i = 8 := by simpa using hi
      refine wpOp_intro rfl (fun K1 hK => ?_)
      clear hi
      go_simp
      refine (kc.out _ HV0.out).mono ?_
      rintro e V1 ⟨rfl, rr⟩
      have hS1 := then_below HV0.out rr
      clear rr
      refine hK _ _ ⟨hS1, ?_⟩
      clear hK K1
      have hS0 := hS1
      refine wpAnyH_take (i := 9) (oi := ⟨_, _, _, _, _, _⟩) (v := .bool false) rfl (by kernel_rfl) (by kernel_rfl) (by kernel_rfl) (fun _ _ _ h => h) (Or.inl ⟨by rfl, fun W3 hS => by go_simp⟩) hS0 ?_
      try simp only [Act.put, List.setIfInBounds_toArray, List.set_cons_zero, List.set_cons_succ]
      clear hS0
      have HW2 := Lib.hid (then_below HB.out hS1)
      clear hS1 HV0
      refine wpAnyH_done (by kernel_rfl) ?_ _
      go_wp2
      go_roundg (n - (k + 1))
      case measure => omega
      case rel => exact ⟨k + 1, by omega, by first | rfl | simp, HW2⟩
    · obtain rfl : k = n := by omega
      have l0 : ¬ (k : Int) < (k : Int) := by omega
      have d0 : wr.cell? ⟨g, k * 5, none⟩ = some (.slice none 0 0) := by have h := TwL.markAt (by rfl) HTW.out (i := 0) (v := .slice none 0 0) rfl; rw [← HN.out.1] at h; exact h
      have d1 : wr.cell? ⟨g, k * 5 + 1, none⟩ = some (.int .u8 77) := by have h := TwL.markAt (by rfl) HTW.out (i := 1) (v := .int .u8 77) rfl; rw [← HN.out.1] at h; exact h
      have d2 : wr.cell? ⟨g, k * 5 + 2, none⟩ = some (.bool false) := by have h := TwL.markAt (by rfl) HTW.out (i := 2) (v := .bool false) rfl; rw [← HN.out.1] at h; exact h
      have d3 : wr.cell? ⟨g, k * 5 + 3, none⟩ = some (.slice none 0 0) := by have h := TwL.markAt (by rfl) HTW.out (i := 3) (v := .slice none 0 0) rfl; rw [← HN.out.1] at h; exact h
      have d4 : wr.cell? ⟨g, k * 5 + 4, none⟩ = some (.slice none 0 0) := by have h := TwL.markAt (by rfl) HTW.out (i := 4) (v := .slice none 0 0) rfl; rw [← HN.out.1] at h; exact h
      clear HA HS HT HTW
      go_wp2
      go_ret
      exact ⟨by first | rfl | exact ret_bool (by decide +kernel), HB.out.alloc HB.out.size _⟩
set_option maxHeartbeats 4000000 in
theorem rows_size {w : World} {a : Option Addr} {n cap : Nat} {l : List Rw} (h : RowsR w (.slice a n cap) l) (hn : n ≤ 70368744177664) (hq : ∀ x ∈ l, Rw.Big x) :
    Calls Tryz.prog 52 #[.slice a n cap] w fun e w' => e = .returned (.int .i64 (lsz Rw.size l.length l : Nat)) ∧ Below w.heap.size w w' := by
  obtain ⟨hl, hcap, hA⟩ := h.addr
  have HA := Lib.hid hA
  have HQ := Lib.hid hq
  have HL := Lib.hid hl
  have HG := Lib.hid (show lsz Rw.size l.length l = lsz Rw.size n l by rw [hl])
  generalize lsz Rw.size l.length l = G at *
  clear h hA hq hl
  go_enter Tryz.func52, Tryz.ntmps52
  go_wp2
  go_loopw [3, 4] (fun s i wr => ∃ (k m : Nat), k ≤ n ∧ m ≤ 1000000000000000 ∧ i = .int .i64 k ∧ s = .int .i64 m ∧ Hid (lsz Rw.size m (l.drop k) = G) ∧ Hid (Below w.heap.size w wr)) (fun _ i _ => n - (intOf i).toNat)
  case atStart => exact ⟨0, n, Nat.zero_le _, by omega, rfl, rfl, Lib.hid HG.out.symm, Lib.hid (Below.refl _ _)⟩
  case round =>
    clear HG
    obtain ⟨k, m, hk, hm, rfl, rfl, HS, HB⟩ := hrel
    by_cases hlt : k < n
    · by_cases hmm : m ≤ 1048576
      · obtain ⟨bb, off, rfl, hbl, hc⟩ := HA.out (by omega)
        obtain ⟨x, hx⟩ : ∃ x, l[k]? = some x := ⟨_, List.getElem?_eq_getElem (by have := HL.out; omega)⟩
        obtain ⟨⟨cv, v0, r0⟩, v1, p1, e1, p2, e2, v2, v3, v4, r1, r2⟩ := (hc k x hx).below hbl HB.out
        obtain ⟨p0, e0, rfl⟩ := r0.form
        have u0 : wr.cell? ⟨bb, off + k * 5, none⟩ = some (.slice p0 x.coef.length e0) := v0
        have u1 : wr.cell? ⟨bb, off + k * 5 + 1, none⟩ = some (.int .u8 x.kind) := v1
        have u2 : wr.cell? ⟨bb, off + k * 5 + 2, none⟩ = some (.bool x.right.1) := v2
        have u3 : wr.cell? ⟨bb, off + k * 5 + 3, none⟩ = some (.slice p1 x.right.2.1.length e1) := v3
        have u4 : wr.cell? ⟨bb, off + k * 5 + 4, none⟩ = some (.slice p2 x.right.2.2.length e2) := v4
        clear v0 v1 v2 v3 v4
        have hbig := HQ.out _ (List.mem_of_getElem? hx)
        have hst := HS.out
        rw [lsz_drop Rw.size hx hmm] at hst
        obtain ⟨r, hr⟩ : ∃ r, r = Rw.size x := ⟨_, rfl⟩
        have hr2 : r ≤ 600000000000000 := hr ▸ row_le hbig
        have kc := Lib.hid (rowSize_any (w := wr) (p1 := p1) (p2 := p2) (e1 := e1) (e2 := e2) r0 hbig)
        rw [← hr] at hst kc
        obtain ⟨z, hz⟩ : ∃ z, z = m + r := ⟨_, rfl⟩
        rw [← hz] at hst
        have hz2 : (m : Int) + (r : Int) = (z : Int) := by omega
        have hz3 : z ≤ 1000000000000000 := by omega
        have HST := Lib.hid hst
        have j1 : (k : Int) < (n : Int) := by omega
        have j2 : (m : Int) ≤ 1048576 := by omega
        have j3 : decide ((m : Int) ≤ 1048576) = true := decide_eq_true j2
        clear hx hbig hst hr hz hc HA HQ r0 r1 r2
        go_wp2_with fail
        refine kc.out.mono ?_
        rintro e w1 ⟨rfl, rr⟩
        have HB1 := Lib.hid (then_below HB.out rr)
        clear kc rr HB u0 u1 u2 u3 u4
        go_wp2_with fail
        go_roundw
        case rel => exact ⟨k + 1, z, by omega, hz3, by simp, rfl, HST, HB1⟩
        case measure => simp [intOf]; omega
      · have hst := HS.out
        rw [lsz_stop Rw.size (by have := HL.out; omega) hmm] at hst
        have HST := Lib.hid hst
        have j1 : (k : Int) < (n : Int) := by omega
        have j2 : ¬ (m : Int) ≤ 1048576 := by omega
        have j3 : decide ((m : Int) ≤ 1048576) = false := decide_eq_false j2
        clear hst HA HQ
        go_wp2_with fail
        go_ret
        exact ⟨by rw [← HST.out]; rfl, HB.out⟩
    · have hst := HS.out
      rw [List.drop_eq_nil_of_le (by have := HL.out; omega)] at hst
      simp only [lsz] at hst
      have HST := Lib.hid hst
      have j1 : ¬ (k : Int) < (n : Int) := by omega
      clear hst HA HQ
      go_wp2_with fail
      go_ret
      exact ⟨by rw [← HST.out]; rfl, HB.out⟩
end Go.Proofs.YtbndmpdaloadjaaGreat
