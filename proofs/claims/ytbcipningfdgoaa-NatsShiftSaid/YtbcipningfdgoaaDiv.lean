/- How often a number goes into another one: the ways without great divisors. -/
import Derived.Test.YtbcipningfdgoaaPart
import Derived.Test.YtbcipningfdgoaaCmp
import Derived.Test.YtbcipningfdgoaaWord
namespace Go.Proofs.Ytbcipningfdgoaa
open Go Go.Proofs Go.RowKit Go.Shelf Nu

theorem digs_self {l : List Nat} (hs : Sm l) (hc : chk l = true) : digs (val l) = l := digs_val hs hc

set_option maxHeartbeats 1000000 in
theorem divide_less {w : World} {va vb : Value} {la lb : List Nat} (ha : Reads w va la) (hb : Reads w vb lb) (hla : la.length ≤ 100000) (hlb : lb.length ≤ 100000) (hsa : Sm la) (hsb : Sm lb) (hca : chk la = true) (hcb : chk lb = true) (h : val la < val lb) :
    Calls Try.prog 32 #[va, vb] w fun e w' => ∃ v', e = .returned (.tuple #[.slice none 0 0, v']) ∧ Fresh w' w.heap.size v' la ∧ Below w.heap.size w w' := by
  have kc := cmp_any ha hb hla hlb hsa hsb
  rw [nv_chk hca, nv_chk hcb, show sgn (val la) (val lb) = -1 by simp [sgn, h]] at kc
  have ha' := ha
  obtain ⟨a1, c1, rfl⟩ := ha.form
  obtain ⟨b1, d1, rfl⟩ := hb.form
  clear ha hb h
  go_enter Try.func32, Try.ntmps32
  go_wp2_with (first
    | (go_at_call 17; refine kc.mono ?_; rintro e w1 ⟨rfl, hb1⟩)
    | (go_at_call 38; refine (clone_any (ha'.below hb1) (by omega)).mono ?_; rintro e w2 ⟨v', rfl, hF, hb2⟩; obtain ⟨ta, tc, v2, rfl, hR, kt⟩ := trim_any hF (by omega) hsa; rw [digs_self hsa hca] at hR)
    | (go_at_call 29; refine kt.mono ?_; rintro e w' ⟨rfl, rfl⟩))
  go_ret2
  exact ⟨v2, rfl, hR.mono hb1.size, hb1.trans (hb2.mono hb1.size)⟩

set_option maxHeartbeats 2000000 in
theorem divide_one {w : World} {va vb : Value} {la : List Nat} {d : Nat} (ha : Reads w va la) (hb : Reads w vb [d]) (hla : la.length ≤ 100000) (hsa : Sm la) (hca : chk la = true) (hd : 0 < d) (hd2 : d < 4294967296) (h : d ≤ val la) :
    Calls Try.prog 32 #[va, vb] w fun e w' => ∃ v1 v2, e = .returned (.tuple #[v1, v2]) ∧ Fresh w' w.heap.size v1 (digs (val la / d)) ∧ Fresh w' w.heap.size v2 (digs (val la % d)) ∧ Below w.heap.size w w' := by
  have kc := cmp_any ha hb hla (by simp) hsa (Sm.cons hd2 Sm.nil)
  have hcd : chk [d] = true := by simp [chk]; omega
  have hz : ((sgn (val la) d) < 0) = False := by simp [sgn]; split <;> (try split) <;> omega
  rw [nv_chk hca, nv_chk hcd, val_one] at kc
  obtain ⟨z, hz1⟩ : ∃ z, z = sgn (val la) d := ⟨_, rfl⟩
  rw [← hz1] at kc hz
  have hz2 : ¬ z < 0 := by rw [hz]; exact not_false
  have ha' := ha
  have hb' := hb
  obtain ⟨a1, c1, rfl⟩ := ha.form
  obtain ⟨bb, ob, cb, rfl, hbb, hcb, hcell⟩ : ∃ b off cap, vb = .slice (some ⟨b, off, none⟩) 1 cap ∧ b < w.heap.size ∧ 1 ≤ cap ∧ w.cell? ⟨b, off, none⟩ = some (.int .u32 d) := by
    rcases hb with ⟨_, h⟩ | ⟨b, off, cap, e, h1, h2, h3⟩
    · cases h
    · exact ⟨b, off, cap, e, h1, h2, by simpa using h3 0 (by simp)⟩
  have hne : la ≠ [] := by rintro rfl; simp [val] at h; omega
  clear ha hb hz hz1
  go_enter Try.func32, Try.ntmps32
  go_wp2_with (go_at_call 17; refine kc.mono ?_; rintro e w1 ⟨rfl, hb1⟩)
  refine wp_region_held (S := fun W => W.cell? ⟨bb, ob, none⟩ = some (.int .u32 d)) (by kernel_rfl) ?_
  change wpAnyH _ _ _ _ _ _ _ _ w1.drew
  have hS0 : w1.drew.cell? ⟨bb, ob, none⟩ = some (.int .u32 d) := (hb1.cell (p := ⟨bb, ob, none⟩) hbb).trans hcell
  refine wpAnyH_take (i := 0) (v := .slice a1 la.length c1) rfl (by kernel_rfl) (by kernel_rfl) (by kernel_rfl) (fun _ _ _ h => h) (Or.inl ⟨by rfl, fun W3 hS => by go_simp⟩) hS0 ?_
  refine wpAnyH_take (i := 2) (v := .slice (some ⟨bb, ob, none⟩) 1 cb) rfl (by kernel_rfl) (by kernel_rfl) (by kernel_rfl) (fun _ _ _ h => h) (Or.inl ⟨by rfl, fun W3 hS => by go_simp⟩) hS0 ?_
  refine wpAnyH_take (i := 3) (v := .pointer (some ⟨bb, ob, none⟩)) rfl (by kernel_rfl) (by kernel_rfl) (by kernel_rfl) (fun _ _ _ h => h) (Or.inl ⟨by rfl, fun W3 hS => by go_simp⟩) hS0 ?_
  refine wpAnyH_take (i := 4) (v := .int .u32 d) rfl (by kernel_rfl) (by kernel_rfl) (by kernel_rfl) (fun _ _ _ h => h) (Or.inl ⟨by rfl, fun W3 hS => by go_simp⟩) hS0 ?_
  refine wpAnyH_all (rs := [1]) (by kernel_rfl) (by simp) ?_
  intro i hi
  obtain rfl : i = 1 := by simpa using hi
  refine wpOp_intro rfl (fun K hK => ?_)
  clear hi
  go_simp
  refine (clone_any (w := w1.drew) (ha'.below hb1.drew) (by omega)).mono ?_
  rintro e w2 ⟨v', rfl, hF, hb2⟩
  have hw2 : w1.heap.size ≤ w2.heap.size := hb2.size
  have hww : w.heap.size ≤ w1.heap.size := hb1.size
  obtain ⟨g, cap, rfl, hg⟩ : ∃ g cap, v' = .slice (some ⟨g, 0, none⟩) la.length cap ∧ w1.heap.size ≤ g := by
    rcases hF.form with ⟨_, h⟩ | ⟨g, cap, e, h, _⟩
    · exact absurd h hne
    · exact ⟨g, cap, e, h⟩
  have hS1 : w2.cell? ⟨bb, ob, none⟩ = some (.int .u32 d) := (hb2.cell (p := ⟨bb, ob, none⟩) (show bb < w1.heap.size by omega)).trans hS0
  refine hK _ _ ⟨hS1, ?_⟩
  clear hK K
  refine wpAnyH_all (rs := [5]) (by kernel_rfl) (by simp) ?_
  intro i hi
  obtain rfl : i = 5 := by simpa using hi
  refine wpOp_intro rfl (fun K hK => ?_)
  clear hi
  go_simp
  refine (divPart_some (w := w2) (base := w1.heap.size) hF hla hsa hd hd2).mono ?_
  rintro e w3 ⟨v1, rfl, hR, hb3⟩
  have hw3 : w1.heap.size ≤ w3.heap.size := by have := hb3.size; omega
  have hS2 : w3.cell? ⟨bb, ob, none⟩ = some (.int .u32 d) := (hb3.cell (p := ⟨bb, ob, none⟩) (show bb < w1.heap.size by omega)).trans hS1
  refine hK _ _ ⟨hS2, ?_⟩
  clear hK K
  obtain ⟨r, hr⟩ : ∃ r, r = val la % d := ⟨_, rfl⟩
  rw [← hr]
  have hrb : r < 4294967296 := by have := Nat.mod_lt (val la) hd; omega
  have HR := Lib.hid hr
  clear hr
  refine wpAnyH_take (i := 6) (v := .tuple #[v1, .int .u32 r]) rfl (by kernel_rfl) (by kernel_rfl) (by kernel_rfl) (fun _ _ _ h => h) (Or.inl ⟨by rfl, fun W3 hS => by go_simp⟩) hS2 ?_
  refine wpAnyH_take (i := 7) (v := v1) rfl (by kernel_rfl) (by kernel_rfl) (by kernel_rfl) (fun _ _ _ h => h) (Or.inl ⟨by rfl, fun W3 hS => by go_simp⟩) hS2 ?_
  refine wpAnyH_take (i := 8) (v := .int .u32 r) rfl (by kernel_rfl) (by kernel_rfl) (by kernel_rfl) (fun _ _ _ h => h) (Or.inl ⟨by rfl, fun W3 hS => by go_simp⟩) hS2 ?_
  refine wpAnyH_take (i := 9) (v := v1) rfl (by kernel_rfl) (by kernel_rfl) (by kernel_rfl) (fun _ _ _ h => h) (Or.inl ⟨by rfl, fun W3 hS => by go_simp⟩) hS2 ?_
  refine wpAnyH_take (i := 10) (v := .int .u32 r) rfl (by kernel_rfl) (by kernel_rfl) (by kernel_rfl) (fun _ _ _ h => h) (Or.inl ⟨by rfl, fun W3 hS => by go_simp⟩) hS2 ?_
  refine wpAnyH_done (by kernel_rfl) ?_ _
  go_wp2_with (go_at_call 24; refine (of_any r (by omega) _).mono ?_; rintro e w4 ⟨v2, rfl, hR2, hb4⟩)
  go_ret2
  have hw4 : w3.heap.size ≤ w4.heap.size := hb4.size
  refine ⟨v1, v2, rfl, (hR.below hb4).mono hww, ?_, ?_⟩
  · rw [← HR.out]; exact hR2.mono (by omega)
  · exact ((hb1.drew.trans (hb2.mono hww)).trans (hb3.mono hww)).trans (hb4.mono (by omega))

/-- what Div answers where it refuses -/
def divNo (e : Int) : Value := .tuple #[.slice none 0 0, .slice none 0 0, .int .i64 e]
set_option maxHeartbeats 1000000 in
theorem div_bad {w : World} {va vb : Value} {la lb : List Nat} (ha : Reads w va la) (hb : Reads w vb lb) (hla : la.length ≤ 1000000) (hlb : lb.length ≤ 1000000) (h : chk la = false ∨ chk lb = false) :
    Calls Try.prog 16 #[va, vb] w fun e w' => e = .returned (divNo 1) ∧ w' = w := by
  have k1 := check_any ha hla
  have k2 := check_any hb hlb
  obtain ⟨a1, c1, rfl⟩ := ha.form
  obtain ⟨b1, d1, rfl⟩ := hb.form
  clear ha hb
  cases hc : chk la with
  | false =>
    rw [hc] at k1
    go_enter Try.func16, Try.ntmps16
    go_wp2_with (go_at_call 14; refine k1.mono ?_; rintro e w' ⟨rfl, rfl⟩)
    go_ret3
    exact ⟨rfl, rfl⟩
  | true =>
    have hd : chk lb = false := by rcases h with h | h; rw [hc] at h; cases h; exact h
    rw [hc] at k1
    rw [hd] at k2
    go_enter Try.func16, Try.ntmps16
    go_wp2_with (first
      | (go_at_call 14; with_reducible refine k1.mono ?_; clear k1; rintro e w' ⟨rfl, rfl⟩)
      | (go_at_call 14; with_reducible refine k2.mono ?_; clear k2; rintro e w' ⟨rfl, rfl⟩))
    go_ret3
    exact ⟨rfl, rfl⟩
set_option maxHeartbeats 1000000 in
theorem div_zero {w : World} {va vb : Value} {la : List Nat} (ha : Reads w va la) (hb : Reads w vb []) (hla : la.length ≤ 1000000) (h : chk la = true) :
    Calls Try.prog 16 #[va, vb] w fun e w' => e = .returned (divNo 10) ∧ w' = w := by
  have k1 := check_any ha hla
  have k2 := check_any hb (by simp)
  obtain ⟨a1, c1, rfl⟩ := ha.form
  obtain ⟨b1, d1, rfl⟩ := hb.form
  clear ha hb
  rw [h] at k1
  rw [show chk [] = true from rfl] at k2
  rw [List.length_nil] at k2 ⊢
  go_enter Try.func16, Try.ntmps16
  go_wp2_with (first
    | (go_at_call 14; with_reducible refine k1.mono ?_; clear k1; rintro e w' ⟨rfl, rfl⟩)
    | (go_at_call 14; with_reducible refine k2.mono ?_; clear k2; rintro e w' ⟨rfl, rfl⟩))
  go_ret3
  exact ⟨rfl, rfl⟩
/-- Div, out of divide's contract -/
theorem div_of {w : World} {va vb : Value} {la lb : List Nat} {q r : List Nat} (ha : Reads w va la) (hb : Reads w vb lb) (hla : la.length ≤ 1000000) (hlb : lb.length ≤ 1000000) (hca : chk la = true) (hcb : chk lb = true) (h0 : lb ≠ [])
    (kd : Calls Try.prog 32 #[va, vb] w fun e w' => ∃ v1 v2, e = .returned (.tuple #[v1, v2]) ∧ Fresh w' w.heap.size v1 q ∧ Fresh w' w.heap.size v2 r ∧ Below w.heap.size w w') :
    Calls Try.prog 16 #[va, vb] w fun e w' => ∃ v1 v2, e = .returned (.tuple #[v1, v2, .int .i64 0]) ∧ Fresh w' w.heap.size v1 q ∧ Fresh w' w.heap.size v2 r ∧ Below w.heap.size w w' := by
  have k1 := check_any ha hla
  have k2 := check_any hb hlb
  obtain ⟨a1, c1, rfl⟩ := ha.form
  obtain ⟨b1, d1, rfl⟩ := hb.form
  have hn : 0 < lb.length := by
    rcases Nat.eq_zero_or_pos lb.length with h | h
    · exact absurd (List.eq_nil_of_length_eq_zero h) h0
    · exact h
  clear ha hb h0
  rw [hca] at k1
  rw [hcb] at k2
  go_enter Try.func16, Try.ntmps16
  go_wp2_with (first
    | (go_at_call 14; with_reducible refine k1.mono ?_; clear k1; rintro e w' ⟨rfl, rfl⟩)
    | (go_at_call 14; with_reducible refine k2.mono ?_; clear k2; rintro e w' ⟨rfl, rfl⟩)
    | (go_at_call 32; refine kd.mono ?_; rintro e w' ⟨v1, v2, rfl, hq, hr, hbl⟩))
  go_ret3
  exact ⟨v1, v2, rfl, hq, hr, hbl⟩

end Go.Proofs.Ytbcipningfdgoaa
