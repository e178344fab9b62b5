/- Fractions: the fraction of a number and 0. Fractions: the fraction of two, the second one above 0. strings.Cut at one byte. Fractions: what some texts are read as. -/
import Derived.BigQuiet
import Derived.RegionTactic
import Derived.Deep.QuietTactic
import Derived.Test.YthnlmjnfdokdbaaGreatDoorGRatMul
import Derived.Test.YthnlmjnfdokdbaaGreatDoorGInts
import Derived.Test.YthnlmjnfdokdbaaGreatDoorLayC
import Derived.Test.YthnlmjnfdokdbaaGreatDoorGMathG
set_option linter.unusedSimpArgs false
set_option linter.unusedVariables false
namespace Go.Proofs.YthnlmjnfdokdbaaGreatDoor
open Go Go.Proofs Go.RowKit Go.Shelf Nu

attribute [local go_sem] Oper.semAt_some

theorem ret_boxN_tmp {fn : Func} {p q : Tmp} {ty t : TypeId} {R : Ending → World → Prop} {a : Act} {w : World} {B : Nat} {cs : Array Value} {x : Value} {fs : Array Field} (h : fn.results = #[.cell p ty, .tmp q]) (hp : a.tmps.getD p undef = .pointer (some ⟨B, 0, none⟩)) (hx : a.tmps.getD q undef = x) (hg : BoxN w B t cs)
    (hu : Tryz.prog.underlying ty = some (.struct fs)) (hi : (Tryz.prog.info? ty).map (·.size) = some cs.size) (hde : a.defers = []) (hR : R (.returned (.tuple #[.agg cs, x])) w) : bodyPost Tryz.prog fn R .ret a w := by
  refine bodyPost_ret (v := .tuple #[.agg cs, x]) ?_ hde hR
  rw [results_cell_tmp h, hp, hx]
  simp [asAddr, run_loadVar_row (P := Tryz.prog) w B t ty cs (0, 0) (.struct fs) hg hu rfl hi, Result.andThen]

set_option maxRecDepth 100000 in
set_option maxHeartbeats 4000000 in
theorem r_make_zero {w : World} {p1 p2 : Option Addr} {q1 q2 : Nat} {s1 s2 : Bool} {L1 L2 : List Nat} {N M : Int} (cN : Can s1 L1 N) (cM : Can s2 L2 M) (hM : M = 0) (b1 : L1.length ≤ 19999) (b2 : L2.length ≤ 19999) (g1 : Reads w (.slice p1 L1.length q1) L1) (g2 : Reads w (.slice p2 L2.length q2) L2) :
    Calls Tryz.prog 27 #[.agg #[.bool s1, .slice p1 L1.length q1], .agg #[.bool s2, .slice p2 L2.length q2]] w fun e w' => e = .returned (.tuple #[.agg #[.bool false, .slice none 0 0, .slice none 0 0], .int .i64 10]) ∧ Below w.heap.size w w' := by
  have kc1 := fun (W : World) (h1 : Reads W (.slice p1 L1.length q1) L1) => q_check cN (by omega) h1
  have kc2 := fun (W : World) (h1 : Reads W (.slice p2 L2.length q2) L2) => q_check cM (by omega) h1
  have ks := fun (W : World) (h1 : Reads W (.slice p2 L2.length q2) L2) => q_sign 0 cM.is (by rw [hM]; rfl) (by omega) h1
  have M : Mem w [(w.heap.size + 1 + 1, 27, [.bool false, .slice none 0 0, .slice none 0 0]), (w.heap.size + 1, 25, [.bool s2, .slice p2 L2.length q2]), (w.heap.size, 25, [.bool s1, .slice p1 L1.length q1])] [(.slice p2 L2.length q2, L2), (.slice p1 L1.length q1, L1)] (((w.alloc (.cells #[.bool s1, .slice p1 L1.length q1] 25)).alloc (.cells #[.bool s2, .slice p2 L2.length q2] 25)).alloc (.cells #[.bool false, .slice none 0 0, .slice none 0 0] 27)) := by
    have M := ((((((Mem.start w).add g1).add g2).new 25 [.bool s1, .slice p1 L1.length q1]).new 25 [.bool s2, .slice p2 L2.length q2]).new 27 [.bool false, .slice none 0 0, .slice none 0 0])
    simpa only [World.size_alloc] using M
  clear g1 g2 b1 b2 cN cM hM
  go_enter Tryz.func27, Tryz.ntmps27
  go_wp2_with (first
    | (go_at_call 111; with_reducible refine (kc1 _ (M.get 1 rfl)).mono ?_; clear kc1; rintro e w1 ⟨rfl, rr⟩; have M' := M.up rr; clear M rr; have M := M'; clear M'; have z1_0 := M.cell 1 rfl 0 rfl; have z1_1 := M.cell 1 rfl 1 rfl)
    | (go_at_call 111; refine (kc2 _ (M.get 0 rfl)).mono ?_; clear kc2; rintro e w2 ⟨rfl, rr⟩; have M' := M.up rr; clear M rr z1_0 z1_1; have M := M'; clear M'; have z1_0 := M.cell 1 rfl 0 rfl; have z1_1 := M.cell 1 rfl 1 rfl)
    | (go_at_call 65; refine (ks _ (M.get 0 rfl)).mono ?_; clear ks; rintro e w3 ⟨rfl, rr⟩; have M' := M.up rr; clear M rr z1_0 z1_1; have M := M'; clear M'; have z1_0 := M.cell 1 rfl 0 rfl; have z1_1 := M.cell 1 rfl 1 rfl; have z2_0 := M.cell 2 rfl 0 rfl; have z2_1 := M.cell 2 rfl 1 rfl; have f0_0 := M.fr 0 rfl 0; have f0_1 := M.fr 0 rfl 1; have f0_2 := M.fr 0 rfl 2; have z0_0 := M.cell 0 rfl 0 rfl; have z0_1 := M.cell 0 rfl 1 rfl; have z0_2 := M.cell 0 rfl 2 rfl))
  have M' := ((M.put 0 rfl rfl 0 (.bool false)).put 0 rfl rfl 1 (.slice none 0 0)).put 0 rfl rfl 2 (.slice none 0 0)
  refine ret_boxN_tmp rfl rfl rfl (M'.box 0 rfl) Tryz.underlying27 size_rat rfl ?_
  exact ⟨rfl, M'.below⟩

end Go.Proofs.YthnlmjnfdokdbaaGreatDoor

namespace Go.Proofs.YthnlmjnfdokdbaaGreatDoor
open Go Go.Proofs Go.RowKit Go.Shelf Nu

attribute [local go_sem] Oper.semAt_some

set_option maxRecDepth 100000 in
set_option maxHeartbeats 8000000 in
theorem r_make_pos {w : World} {p1 p2 : Option Addr} {q1 q2 : Nat} {s1 s2 sZ : Bool} {L1 L2 LZ DZ : List Nat} {N M : Int} {Z : Rat} (cN : Can s1 L1 N) (cM : Can s2 L2 M) (hM : 0 < M) (kZ : RCan sZ LZ DZ Z) (eZ : Z = (N : Rat) / (M : Rat)) (b1 : L1.length ≤ 19999) (b2 : L2.length ≤ 19999) (g1 : Reads w (.slice p1 L1.length q1) L1) (g2 : Reads w (.slice p2 L2.length q2) L2) :
    Calls Tryz.prog 27 #[.agg #[.bool s1, .slice p1 L1.length q1], .agg #[.bool s2, .slice p2 L2.length q2]] w fun e w' => ∃ a c a' c', e = .returned (.tuple #[.agg #[.bool sZ, .slice a LZ.length c, .slice a' DZ.length c'], .int .i64 0]) ∧ Reads w' (.slice a LZ.length c) LZ ∧ Reads w' (.slice a' DZ.length c') DZ ∧ Below w.heap.size w w' := by
  obtain rfl : s2 = false := by rw [cM.1]; exact decide_eq_false (by omega)
  obtain ⟨z, hz⟩ : ∃ z, sgz M 0 = z := ⟨_, rfl⟩
  have hz0 : (z == 0) = false := by
    rw [← hz]; unfold sgz; simp; omega
  have kc1 := fun (W : World) (h1 : Reads W (.slice p1 L1.length q1) L1) => q_check cN (by omega) h1
  have kc2 := fun (W : World) (h1 : Reads W (.slice p2 L2.length q2) L2) => q_check cM (by omega) h1
  have ks := fun (W : World) (h1 : Reads W (.slice p2 L2.length q2) L2) => q_sign z cM.is hz (by omega) h1
  obtain ⟨g, d, k, hg, g0, e1, e2, e3, e4⟩ := rmake_parts N M (by omega)
  rw [← eZ] at e3 e4
  obtain ⟨Lg, hLg⟩ : ∃ L, L = digs g := ⟨_, rfl⟩
  have ck := cN.div e1 g0
  have hk : digs k.natAbs = LZ := by rw [kZ.1.2, e3]
  have hs : s1 = sZ := by rw [ck.1, kZ.1.1, e3]
  rw [hk] at ck
  subst hs
  have lg : Lg.length ≤ 19999 := by
    have h1 : g ≤ (M).natAbs := by rw [hg]; exact gcd_le (by omega)
    have := digs_mono h1
    rw [hLg]; rw [← cM.2] at this; omega
  have kg := fun (W : World) {p1 p2 : Option Addr} {q1 q2 : Nat} (h1 : Reads W (.slice p1 L1.length q1) L1) (h2 : Reads W (.slice p2 L2.length q2) L2) => common_any (s1 := s1) (s2 := false) (L3 := Lg) cN.2 cM.2 (by rw [hLg, hg]) (by omega) (by omega) h1 h2
  have ka := fun (W : World) {p1 p2 : Option Addr} {q1 q2 : Nat} (h1 : Reads W (.slice p1 L1.length q1) L1) (h2 : Reads W (.slice p2 Lg.length q2) Lg) => over_any (s2 := false) cN hLg ck e1 g0 (by omega) (by omega) h1 h2
  have kb := fun (W : World) {p1 p2 : Option Addr} {q1 q2 : Nat} (h1 : Reads W (.slice p1 L2.length q1) L2) (h2 : Reads W (.slice p2 Lg.length q2) Lg) => over_any (s2 := false) cM hLg (canL kZ.2) (by rw [e2, e4]; push_cast; rfl) g0 (by omega) (by omega) h1 h2
  have M : Mem w [(w.heap.size + 1 + 1, 27, [.bool false, .slice none 0 0, .slice none 0 0]), (w.heap.size + 1, 25, [.bool false, .slice p2 L2.length q2]), (w.heap.size, 25, [.bool s1, .slice p1 L1.length q1])] [(.slice p2 L2.length q2, L2), (.slice p1 L1.length q1, L1)] (((w.alloc (.cells #[.bool s1, .slice p1 L1.length q1] 25)).alloc (.cells #[.bool false, .slice p2 L2.length q2] 25)).alloc (.cells #[.bool false, .slice none 0 0, .slice none 0 0] 27)) := by
    have M := ((((((Mem.start w).add g1).add g2).new 25 [.bool s1, .slice p1 L1.length q1]).new 25 [.bool false, .slice p2 L2.length q2]).new 27 [.bool false, .slice none 0 0, .slice none 0 0])
    simpa only [World.size_alloc] using M
  clear g1 g2 b1 b2 cN cM hM kZ eZ hz hg g0 e1 e2 e3 e4 hLg ck hk lg
  go_enter Tryz.func27, Tryz.ntmps27
  go_wp2_with (first
    | (go_at_call 111; with_reducible refine (kc1 _ (M.get 1 rfl)).mono ?_; clear kc1; rintro e w1 ⟨rfl, rr⟩; have M' := M.up rr; clear M rr; have M := M'; clear M'; have z1_0 := M.cell 1 rfl 0 rfl; have z1_1 := M.cell 1 rfl 1 rfl)
    | (go_at_call 111; refine (kc2 _ (M.get 0 rfl)).mono ?_; clear kc2; rintro e w2 ⟨rfl, rr⟩; have M' := M.up rr; clear M rr z1_0 z1_1; have M := M'; clear M'; have z1_0 := M.cell 1 rfl 0 rfl; have z1_1 := M.cell 1 rfl 1 rfl)
    | (go_at_call 65; refine (ks _ (M.get 0 rfl)).mono ?_; clear ks; rintro e w3 ⟨rfl, rr⟩; have M' := M.up rr; clear M rr z1_0 z1_1; have M := M'; clear M'; have z1_0 := M.cell 1 rfl 0 rfl; have z1_1 := M.cell 1 rfl 1 rfl; have z2_0 := M.cell 2 rfl 0 rfl; have z2_1 := M.cell 2 rfl 1 rfl)
    | (go_at_call 53; refine (kg _ (M.get 1 rfl) (M.get 0 rfl)).mono ?_; rintro e w4 ⟨a3, c3, rfl, g, rr⟩; have M' := ((M.up rr).add g).new 25 [.bool false, .slice a3 Lg.length c3]; clear M rr g; have M := M'; clear M'))
  clear z1_0 z1_1 z2_0 z2_1
  obtain ⟨b6, W1, hb6, hW1⟩ : ∃ b V, b = w4.heap.size ∧ V = w4.alloc (.cells #[.bool false, .slice a3 Lg.length c3] 25) := ⟨_, _, rfl, rfl⟩
  rw [← hb6, ← hW1] at M ⊢
  clear hb6 hW1
  refine region_mem (S := (fun W => BoxN W (w.heap.size) 25 #[.bool s1, .slice p1 L1.length q1] ∧ BoxN W (w.heap.size + 1) 25 #[.bool false, .slice p2 L2.length q2] ∧ BoxN W (b6) 25 #[.bool false, .slice a3 Lg.length c3])) M (by kernel_rfl) ?_
  intro V0 M
  have hS0 : (fun W => BoxN W (w.heap.size) 25 #[.bool s1, .slice p1 L1.length q1] ∧ BoxN W (w.heap.size + 1) 25 #[.bool false, .slice p2 L2.length q2] ∧ BoxN W (b6) 25 #[.bool false, .slice a3 Lg.length c3]) V0 := ⟨M.box 3 rfl, M.box 2 rfl, M.box 0 rfl⟩
  refine wpAnyH_take (i := 0) (v := (.agg #[.bool s1, .slice p1 L1.length q1])) rfl (by kernel_rfl) (by kernel_rfl) (by kernel_rfl) (fun _ _ _ h => h) (Or.inl ⟨by rfl, fun W3 hS => by obtain ⟨hS1, hS2, hS3⟩ := hS; have c1_0 := hS1.cell 0 _ rfl; have c1_1 := hS1.cell 1 _ rfl; go_simp⟩) hS0 ?_
  refine wpAnyH_take (i := 1) (v := (.agg #[.bool false, .slice a3 Lg.length c3])) rfl (by kernel_rfl) (by kernel_rfl) (by kernel_rfl) (fun _ _ _ h => h) (Or.inl ⟨by rfl, fun W3 hS => by obtain ⟨hS1, hS2, hS3⟩ := hS; have c3_0 := hS3.cell 0 _ rfl; have c3_1 := hS3.cell 1 _ rfl; go_simp⟩) hS0 ?_
  refine wpAnyH_take (i := 3) (v := (.agg #[.bool false, .slice p2 L2.length q2])) rfl (by kernel_rfl) (by kernel_rfl) (by kernel_rfl) (fun _ _ _ h => h) (Or.inl ⟨by rfl, fun W3 hS => by obtain ⟨hS1, hS2, hS3⟩ := hS; have c2_0 := hS2.cell 0 _ rfl; have c2_1 := hS2.cell 1 _ rfl; go_simp⟩) hS0 ?_
  refine wpAnyH_take (i := 4) (v := (.agg #[.bool false, .slice a3 Lg.length c3])) rfl (by kernel_rfl) (by kernel_rfl) (by kernel_rfl) (fun _ _ _ h => h) (Or.inl ⟨by rfl, fun W3 hS => by obtain ⟨hS1, hS2, hS3⟩ := hS; have c3_0 := hS3.cell 0 _ rfl; have c3_1 := hS3.cell 1 _ rfl; go_simp⟩) hS0 ?_
  clear hS0
  try simp only [Act.put, List.setIfInBounds_toArray, List.set_cons_zero, List.set_cons_succ]
  refine wpAnyH_all (rs := [2]) (by kernel_rfl) (by simp) ?_
  intro i hi
  obtain rfl : i = 2 := by simpa using hi
  refine wpOp_intro rfl (fun K1 hK => ?_)
  clear hi
  go_simp
  refine (ka _ (M.get 2 rfl) (M.get 0 rfl)).mono ?_
  rintro e V1_2 ⟨a4, c4, rfl, g, rr⟩
  have M' := (M.up rr).add g
  clear M rr g
  have M := M'; clear M'
  refine hK _ _ ⟨⟨M.box 3 rfl, M.box 2 rfl, M.box 0 rfl⟩, ?_⟩
  clear hK K1
  refine wpAnyH_all (rs := [5]) (by kernel_rfl) (by simp) ?_
  intro i hi
  obtain rfl : i = 5 := by simpa using hi
  refine wpOp_intro rfl (fun K2 hK => ?_)
  clear hi
  go_simp
  refine (kb _ (M.get 2 rfl) (M.get 1 rfl)).mono ?_
  rintro e V2_5 ⟨a5, c5, rfl, g, rr⟩
  have M' := (M.up rr).add g
  clear M rr g
  have M := M'; clear M'
  refine hK _ _ ⟨⟨M.box 3 rfl, M.box 2 rfl, M.box 0 rfl⟩, ?_⟩
  clear hK K2
  have hS0 : (fun W => BoxN W (w.heap.size) 25 #[.bool s1, .slice p1 L1.length q1] ∧ BoxN W (w.heap.size + 1) 25 #[.bool false, .slice p2 L2.length q2] ∧ BoxN W (b6) 25 #[.bool false, .slice a3 Lg.length c3]) _ := ⟨M.box 3 rfl, M.box 2 rfl, M.box 0 rfl⟩
  refine wpAnyH_take (i := 6) (v := (.agg #[.bool s1, .slice a4 LZ.length c4, .bool false, .slice a5 DZ.length c5])) rfl (by kernel_rfl) (by kernel_rfl) (by kernel_rfl) (fun _ _ _ h => h) (Or.inl ⟨by rfl, fun W3 hS => by obtain ⟨hS1, hS2, hS3⟩ := hS; go_simp⟩) hS0 ?_
  clear hS0
  refine wpAnyH_all (rs := [7]) (by kernel_rfl) (by simp) ?_
  intro i hi
  obtain rfl : i = 7 := by simpa using hi
  refine wpOp_intro rfl (fun K3 hK => ?_)
  clear hi
  go_simp
  refine (fraction_any _ _ _ _ _ _ _ _ _).mono ?_
  rintro e V3_7 ⟨rfl, rr⟩
  have M' := M.up rr
  clear M rr 
  have M := M'; clear M'
  refine hK _ _ ⟨⟨M.box 3 rfl, M.box 2 rfl, M.box 0 rfl⟩, ?_⟩
  clear hK K3
  have f1_0 := M.fr 1 rfl 0; have f1_1 := M.fr 1 rfl 1; have f1_2 := M.fr 1 rfl 2
  have z1_0 := M.cell 1 rfl 0 rfl; have z1_1 := M.cell 1 rfl 1 rfl; have z1_2 := M.cell 1 rfl 2 rfl
  refine wpAnyH_all (rs := [8]) (by kernel_rfl) (by simp) ?_
  intro i hi
  obtain rfl : i = 8 := by simpa using hi
  refine wpOp_intro rfl (fun Ks4 hK => ?_)
  clear hi
  go_simp
  have M' := (((M.put 1 rfl rfl 0 (.bool s1)).put 1 rfl rfl 1 (.slice a4 LZ.length c4)).put 1 rfl rfl 2 (.slice a5 DZ.length c5))
  clear M f1_0 z1_0 f1_1 z1_1 f1_2 z1_2
  have M : Mem w [(b6, 25, [.bool false, .slice a3 Lg.length c3]), (w.heap.size + 1 + 1, 27, [.bool s1, .slice a4 LZ.length c4, .slice a5 DZ.length c5]), (w.heap.size + 1, 25, [.bool false, .slice p2 L2.length q2]), (w.heap.size, 25, [.bool s1, .slice p1 L1.length q1])] [(.slice a5 DZ.length c5, DZ), (.slice a4 LZ.length c4, LZ), (.slice a3 Lg.length c3, Lg), (.slice p2 L2.length q2, L2), (.slice p1 L1.length q1, L1)] _ := M'
  clear M'
  refine hK _ _ ⟨⟨M.box 3 rfl, M.box 2 rfl, M.box 0 rfl⟩, ?_⟩
  clear hK Ks4
  have hS0 : (fun W => BoxN W (w.heap.size) 25 #[.bool s1, .slice p1 L1.length q1] ∧ BoxN W (w.heap.size + 1) 25 #[.bool false, .slice p2 L2.length q2] ∧ BoxN W (b6) 25 #[.bool false, .slice a3 Lg.length c3]) _ := ⟨M.box 3 rfl, M.box 2 rfl, M.box 0 rfl⟩
  refine wpAnyH_take (i := 9) (v := (.int .i64 0)) rfl (by kernel_rfl) (by kernel_rfl) (by kernel_rfl) (fun _ _ _ h => h) (Or.inl ⟨by rfl, fun W3 hS => by obtain ⟨hS1, hS2, hS3⟩ := hS; go_simp⟩) hS0 ?_
  clear hS0
  refine wpAnyH_done (by kernel_rfl) ?_ _
  go_wp2
  refine ret_boxN_tmp rfl rfl rfl (M.box 1 rfl) Tryz.underlying27 size_rat rfl ?_
  exact ⟨a4, c4, a5, c5, rfl, M.get 1 rfl, M.get 0 rfl, M.below⟩

end Go.Proofs.YthnlmjnfdokdbaaGreatDoor

namespace Go.Proofs.YthnlmjnfdokdbaaGreatDoor
open Go Go.Proofs Go.RowKit Go.Shelf Nu

theorem lcut_miss (s : ByteArray) (c : UInt8) (w : World) (h : Lib.indexByte s.data.toList c = -1) :
    Calls Tryz.prog 215 #[.string s, .string ⟨#[c]⟩] w fun e w' => e = .returned (.tuple #[.string s, .string ⟨#[]⟩, .bool false]) ∧ Below w.heap.size w w' := by
  have ki := Any.stringslite_Index_one YthnlmjnfdokdbaaGreatDoor.idxL s c w
  rw [h] at ki
  clear h
  go_enter Tryz.func215, Tryz.ntmps215
  go_wp2_with (go_at_call 232; refine ki.mono ?_; rintro e w' ⟨rfl, rfl⟩)
  go_ret3
  exact ⟨rfl, Below.refl _ _⟩
theorem lcut_hit (s : ByteArray) (c : UInt8) (i : Nat) (w : World) (h : Lib.indexByte s.data.toList c = i) (hi : i < s.size) (hs : s.size ≤ maxLen) :
    Calls Tryz.prog 215 #[.string s, .string ⟨#[c]⟩] w fun e w' => e = .returned (.tuple #[.string (s.extract 0 i), .string (s.extract (i + 1) s.size), .bool true]) ∧ Below w.heap.size w w' := by
  have ki := Any.stringslite_Index_one YthnlmjnfdokdbaaGreatDoor.idxL s c w
  rw [h] at ki
  unfold maxLen at hs
  have c1 : (0 : Int) ≤ (i : Int) := by omega
  have c2 : (i : Int) ≤ (s.size : Int) := by omega
  have c3 : (0 : Int) ≤ (i : Int) + 1 := by omega
  have c4 : (i : Int) + 1 ≤ (s.size : Int) := by omega
  clear h
  go_enter Tryz.func215, Tryz.ntmps215
  go_wp2_with (go_at_call 232; refine ki.mono ?_; rintro e w' ⟨rfl, rfl⟩)
  go_region
  all_goals
    go_wp2
    go_ret3
    exact ⟨rfl, (Below.refl _ _).drew⟩
theorem scut_any (s : ByteArray) (c : UInt8) (w : World) {a b : ByteArray} {f : Bool} (k : Calls Tryz.prog 215 #[.string s, .string ⟨#[c]⟩] w fun e w' => e = .returned (.tuple #[.string a, .string b, .bool f]) ∧ Below w.heap.size w w') :
    Calls Tryz.prog 185 #[.string s, .string ⟨#[c]⟩] w fun e w' => e = .returned (.tuple #[.string a, .string b, .bool f]) ∧ Below w.heap.size w w' := by
  go_enter Tryz.func185, Tryz.ntmps185
  go_wp2_with (go_at_call 215; refine k.mono ?_; clear k; rintro e w' ⟨rfl, hb⟩)
  go_ret3
  exact ⟨rfl, hb⟩
end Go.Proofs.YthnlmjnfdokdbaaGreatDoor

namespace Go.Proofs.YthnlmjnfdokdbaaGreatDoor
open Go Go.Proofs Go.RowKit Go.Shelf Nu

attribute [local go_sem] Oper.semAt_some

theorem len64 {n : Nat} (h : n < 18446744073709551616) : (digs n).length ≤ 2 := digs_length_le (k := 2) (by rw [show (4294967296 : Nat) ^ 2 = 18446744073709551616 from by decide]; exact h)
theorem ext_lit (s t : ByteArray) (h : s.data.toList = t.data.toList) : s = t := by
  cases s; cases t; simp only [ByteArray.mk.injEq]; exact Array.toList_inj.1 h
instance (s : ByteArray) : Decidable (isNum s) := by unfold isNum; infer_instance
theorem p_lit (s : ByteArray) (N : Nat) (w : World) (h : isNum s) (hl : s.size ≤ 200) (hN : numv s s.size = N) :
    Calls Tryz.prog 121 #[.string s] w fun e w' => ∃ a c, e = .returned (.tuple #[.slice a (digs N).length c, .int .i64 0]) ∧ Reads w' (.slice a (digs N).length c) (digs N) ∧ Below w.heap.size w w' := by
  refine (parse_ok s w h hl).mono ?_
  rintro e w' ⟨v, rfl, f, hb⟩
  rw [hN] at f
  obtain ⟨a, c, rfl⟩ := f.reads.form
  exact ⟨a, c, rfl, f.reads, hb⟩
theorem trim_lit (s t : ByteArray) (w : World) (h : Lib.trimLeftB s.data.toList 48 = t.data.toList) : Calls Tryz.prog 216 #[.string s, .string ⟨#[48]⟩] w fun e w' => e = .returned (.string t) ∧ w = w' := by
  refine (Any.strings_TrimLeft_one YthnlmjnfdokdbaaGreatDoor.tlL s 48 (by decide) w).mono ?_
  rintro e w' ⟨rfl, rfl⟩
  exact ⟨by rw [h], rfl⟩
theorem bextra : Go.Proofs.Builder.Extra Tryz.prog YthnlmjnfdokdbaaGreatDoor.repL_ren := { sizeBuilder := by kernel_rfl, liesBuilder := by kernel_rfl, t5 := Tryz.underlying5, a5 := Tryz.isAgg5, z5 := Tryz.sizeOf5, v5 := Tryz.zeroValue5, infoByte := by kernel_rfl, cellsByte := by kernel_rfl, sizeByte := by kernel_rfl, neB5 := by decide }
theorem rep_lit (c : Nat) (t : ByteArray) (w : World) (h2 : 2 ≤ c) (hc : c ≤ 1000000) (h : Lib.repeatL [48] c = t.data.toList) : Calls Tryz.prog 217 #[.string ⟨#[48]⟩, .int .i64 c] w fun e w' => e = .returned (.string t) ∧ Below w.heap.size w w' := by
  refine (Any.strings_Repeat_main YthnlmjnfdokdbaaGreatDoor.repL bextra ⟨#[48]⟩ c w h2 (by omega) (by rw [show (⟨#[48]⟩ : ByteArray).size = 1 from rfl]; omega) (by decide)).mono ?_
  rintro e w' ⟨rfl, hb⟩
  exact ⟨by rw [show (⟨#[48]⟩ : ByteArray).data.toList = [48] from rfl, h], hb⟩
theorem pre_yes (s t : ByteArray) (w : World) (h1 : Lib.hasPrefix s.data.toList [45] = true) (h2 : Lib.trimPrefix s.data.toList [45] = t.data.toList) : Calls Tryz.prog 119 #[.string s, .string ⟨#[45]⟩] w fun e w' => e = .returned (.tuple #[.string t, .bool true]) ∧ w = w' := by
  refine (cut_any s w).mono ?_
  rintro e w' ⟨rfl, rfl⟩
  exact ⟨by rw [h1, h2], rfl⟩
theorem pre_no (s : ByteArray) (w : World) (h1 : Lib.hasPrefix s.data.toList [45] = false) (h2 : Lib.trimPrefix s.data.toList [45] = s.data.toList) : Calls Tryz.prog 119 #[.string s, .string ⟨#[45]⟩] w fun e w' => e = .returned (.tuple #[.string s, .bool false]) ∧ w = w' := by
  refine (cut_any s w).mono ?_
  rintro e w' ⟨rfl, rfl⟩
  exact ⟨by rw [h1, h2], rfl⟩
theorem hit_lit (s a b : ByteArray) (c : UInt8) (i : Nat) (w : World) (h : Lib.indexByte s.data.toList c = i) (hi : i < s.size) (hs : s.size ≤ 1000000) (ha : s.extract 0 i = a) (hb : s.extract (i + 1) s.size = b) :
    Calls Tryz.prog 185 #[.string s, .string ⟨#[c]⟩] w fun e w' => e = .returned (.tuple #[.string a, .string b, .bool true]) ∧ Below w.heap.size w w' := by
  have k := lcut_hit s c i w h hi (small_max (by omega))
  rw [ha, hb] at k
  exact scut_any s c w k
theorem miss_lit (s : ByteArray) (c : UInt8) (w : World) (h : Lib.indexByte s.data.toList c = -1) :
    Calls Tryz.prog 185 #[.string s, .string ⟨#[c]⟩] w fun e w' => e = .returned (.tuple #[.string s, .string ⟨#[]⟩, .bool false]) ∧ Below w.heap.size w w' := scut_any s c w (lcut_miss s c w h)

theorem sp_a (w : World) : Calls Tryz.prog 120 #[.string ⟨#[49, 47, 48]⟩] w fun e w' => e = .returned (.tuple #[.string ⟨#[49]⟩, .string ⟨#[48]⟩]) ∧ Below w.heap.size w w' := by
  have k1 := fun (W : World) => hit_lit ⟨#[49, 47, 48]⟩ ⟨#[49]⟩ ⟨#[48]⟩ 47 1 W (by rfl) (by decide) (by decide) (by rfl) (by rfl)
  have r0 := Below.refl w.heap.size w
  go_enter Tryz.func120, Tryz.ntmps120
  go_wp2_with (first
    | (go_at_call 185; with_reducible refine (k1 _).mono ?_; clear k1; rintro e w1 ⟨rfl, rr⟩; have r1 := then_below r0 rr; clear rr))
  go_ret2
  exact ⟨rfl, r1⟩
set_option maxRecDepth 100000 in
set_option maxHeartbeats 2000000 in
theorem pa_a (w : World) : Calls Tryz.prog 34 #[.string ⟨#[49, 47, 48]⟩] w fun e w' => e = .returned (.tuple #[.agg #[.bool false, .slice none 0 0, .slice none 0 0], .int .i64 4]) ∧ Below w.heap.size w w' := by
  have k1 := fun (W : World) => pre_no ⟨#[49, 47, 48]⟩ W (by rfl) (by rfl)
  have k2 := fun (W : World) => sp_a W
  have k3 := fun (W : World) => p_lit ⟨#[49]⟩ 1 W (by decide +kernel) (by decide) (by decide +kernel)
  have k4 := fun (W : World) => p_lit ⟨#[48]⟩ 0 W (by decide +kernel) (by decide) (by decide +kernel)
  have M : Mem w [(w.heap.size, 27, [.bool false, .slice none 0 0, .slice none 0 0])] [] (w.alloc (.cells #[.bool false, .slice none 0 0, .slice none 0 0] 27)) := (Mem.start w).new _ _
  go_enter Tryz.func34, Tryz.ntmps34
  go_wp2_with (first
    | (go_at_call 119; refine (k1 _).mono ?_; clear k1; rintro e w1 ⟨rfl, rfl⟩)
    | (go_at_call 120; refine (k2 _).mono ?_; clear k2; rintro e w2 ⟨rfl, rr⟩; have M' := M.up rr; clear M rr; have M := M'; clear M')
    | (go_at_call 121; with_reducible refine (k3 _).mono ?_; clear k3; rintro e w3 ⟨x, y, rfl, g, rr⟩; have M' := (M.up rr).add g; clear M rr g; have M := M'; clear M')
    | (go_at_call 121; refine (k4 _).mono ?_; clear k4; rintro e w4 ⟨x2, y2, rfl, g, rr⟩; have M' := (M.up rr).add g; clear M rr g; have M := M'; clear M'; have z0 := M.cell 0 rfl 0 rfl; have z1 := M.cell 0 rfl 1 rfl; have z2 := M.cell 0 rfl 2 rfl; have f0 := M.fr 0 rfl 0; have f1 := M.fr 0 rfl 1; have f2 := M.fr 0 rfl 2))
  have M' := ((M.put 0 rfl rfl 0 (.bool false)).put 0 rfl rfl 1 (.slice none 0 0)).put 0 rfl rfl 2 (.slice none 0 0)
  refine ret_boxN_tmp rfl rfl rfl (M'.box 0 rfl) Tryz.underlying27 size_rat rfl ?_
  exact ⟨rfl, M'.below⟩
set_option maxRecDepth 100000 in
set_option maxHeartbeats 2000000 in
theorem ap_b (w : World) : Calls Tryz.prog 186 #[.string ⟨#[48]⟩, .string ⟨#[48, 48]⟩] w fun e w' => e = .returned (.tuple #[.string ⟨#[48]⟩, .string ⟨#[49, 48, 48]⟩]) ∧ Below w.heap.size w w' := by
  have k1 := fun (W : World) => p_lit ⟨#[48]⟩ 0 W (by decide +kernel) (by decide) (by decide +kernel)
  have k2 := fun (W : World) => trim_lit ⟨#[48, 48, 48]⟩ ⟨#[]⟩ W (by rfl)
  have k3 := fun (W : World) => rep_lit 2 ⟨#[48, 48]⟩ W (by omega) (by omega) (by rfl)
  have r0 := Below.refl w.heap.size w
  go_enter Tryz.func186, Tryz.ntmps186
  go_wp2_with (first
    | (go_at_call 121; with_reducible refine (k1 _).mono ?_; clear k1; rintro e w1 ⟨x, y, rfl, g, rr⟩; have r1 := then_below r0 rr; clear rr)
    | (go_at_call 216; refine (k2 _).mono ?_; clear k2; rintro e w2 ⟨rfl, rfl⟩)
    | (go_at_call 217; refine (k3 _).mono ?_; clear k3; rintro e w3 ⟨rfl, rr⟩; have r2 := then_below r1 rr; clear rr))
  go_ret2
  exact ⟨rfl, r2⟩
theorem sp_b (w : World) : Calls Tryz.prog 120 #[.string ⟨#[48, 46, 48, 48]⟩] w fun e w' => e = .returned (.tuple #[.string ⟨#[48]⟩, .string ⟨#[49, 48, 48]⟩]) ∧ Below w.heap.size w w' := by
  have k1 := fun (W : World) => miss_lit ⟨#[48, 46, 48, 48]⟩ 47 W (by rfl)
  have k2 := fun (W : World) => hit_lit ⟨#[48, 46, 48, 48]⟩ ⟨#[48]⟩ ⟨#[48, 48]⟩ 46 1 W (by rfl) (by decide) (by decide) (by rfl) (by rfl)
  have k3 := fun (W : World) => ap_b W
  have r0 := Below.refl w.heap.size w
  go_enter Tryz.func120, Tryz.ntmps120
  go_wp2_with (first
    | (go_at_call 185; with_reducible refine (k1 _).mono ?_; clear k1; rintro e w1 ⟨rfl, rr⟩; have r1 := then_below r0 rr; clear rr)
    | (go_at_call 185; with_reducible refine (k2 _).mono ?_; clear k2; rintro e w2 ⟨rfl, rr⟩; have r2 := then_below r1 rr; clear rr)
    | (go_at_call 186; refine (k3 _).mono ?_; clear k3; rintro e w3 ⟨rfl, rr⟩; have r3 := then_below r2 rr; clear rr))
  go_ret2
  exact ⟨rfl, r3⟩
set_option maxRecDepth 100000 in
set_option maxHeartbeats 2000000 in
theorem pa_b (w : World) : Calls Tryz.prog 34 #[.string ⟨#[45, 48, 46, 48, 48]⟩] w fun e w' => e = .returned (.tuple #[.agg #[.bool false, .slice none 0 0, .slice none 0 0], .int .i64 4]) ∧ Below w.heap.size w w' := by
  have k1 := fun (W : World) => pre_yes ⟨#[45, 48, 46, 48, 48]⟩ ⟨#[48, 46, 48, 48]⟩ W (by rfl) (by rfl)
  have k2 := fun (W : World) => sp_b W
  have k3 := fun (W : World) => p_lit ⟨#[48]⟩ 0 W (by decide +kernel) (by decide) (by decide +kernel)
  have k4 := fun (W : World) => p_lit ⟨#[49, 48, 48]⟩ 100 W (by decide +kernel) (by decide) (by decide +kernel)
  have M : Mem w [(w.heap.size, 27, [.bool false, .slice none 0 0, .slice none 0 0])] [] (w.alloc (.cells #[.bool false, .slice none 0 0, .slice none 0 0] 27)) := (Mem.start w).new _ _
  go_enter Tryz.func34, Tryz.ntmps34
  go_wp2_with (first
    | (go_at_call 119; refine (k1 _).mono ?_; clear k1; rintro e w1 ⟨rfl, rfl⟩)
    | (go_at_call 120; refine (k2 _).mono ?_; clear k2; rintro e w2 ⟨rfl, rr⟩; have M' := M.up rr; clear M rr; have M := M'; clear M')
    | (go_at_call 121; with_reducible refine (k3 _).mono ?_; clear k3; rintro e w3 ⟨x, y, rfl, g, rr⟩; have M' := (M.up rr).add g; clear M rr g; have M := M'; clear M')
    | (go_at_call 121; refine (k4 _).mono ?_; clear k4; rintro e w4 ⟨x2, y2, rfl, g, rr⟩; have M' := (M.up rr).add g; clear M rr g; have M := M'; clear M'; have z0 := M.cell 0 rfl 0 rfl; have z1 := M.cell 0 rfl 1 rfl; have z2 := M.cell 0 rfl 2 rfl; have f0 := M.fr 0 rfl 0; have f1 := M.fr 0 rfl 1; have f2 := M.fr 0 rfl 2))
  have M' := ((M.put 0 rfl rfl 0 (.bool false)).put 0 rfl rfl 1 (.slice none 0 0)).put 0 rfl rfl 2 (.slice none 0 0)
  refine ret_boxN_tmp rfl rfl rfl (M'.box 0 rfl) Tryz.underlying27 size_rat rfl ?_
  exact ⟨rfl, M'.below⟩
set_option maxRecDepth 100000 in
set_option maxHeartbeats 2000000 in
theorem ap_c (w : World) : Calls Tryz.prog 186 #[.string ⟨#[49, 50]⟩, .string ⟨#[53, 48]⟩] w fun e w' => e = .returned (.tuple #[.string ⟨#[49, 50, 53, 48]⟩, .string ⟨#[49, 48, 48]⟩]) ∧ Below w.heap.size w w' := by
  have k1 := fun (W : World) => p_lit ⟨#[49, 50]⟩ 12 W (by decide +kernel) (by decide) (by decide +kernel)
  have k2 := fun (W : World) => trim_lit ⟨#[49, 50, 53, 48]⟩ ⟨#[49, 50, 53, 48]⟩ W (by rfl)
  have k3 := fun (W : World) => rep_lit 2 ⟨#[48, 48]⟩ W (by omega) (by omega) (by rfl)
  have r0 := Below.refl w.heap.size w
  go_enter Tryz.func186, Tryz.ntmps186
  go_wp2_with (first
    | (go_at_call 121; with_reducible refine (k1 _).mono ?_; clear k1; rintro e w1 ⟨x, y, rfl, g, rr⟩; have r1 := then_below r0 rr; clear rr)
    | (go_at_call 216; refine (k2 _).mono ?_; clear k2; rintro e w2 ⟨rfl, rfl⟩)
    | (go_at_call 217; refine (k3 _).mono ?_; clear k3; rintro e w3 ⟨rfl, rr⟩; have r2 := then_below r1 rr; clear rr))
  go_ret2
  exact ⟨rfl, r2⟩
theorem sp_c (w : World) : Calls Tryz.prog 120 #[.string ⟨#[49, 50, 46, 53, 48]⟩] w fun e w' => e = .returned (.tuple #[.string ⟨#[49, 50, 53, 48]⟩, .string ⟨#[49, 48, 48]⟩]) ∧ Below w.heap.size w w' := by
  have k1 := fun (W : World) => miss_lit ⟨#[49, 50, 46, 53, 48]⟩ 47 W (by rfl)
  have k2 := fun (W : World) => hit_lit ⟨#[49, 50, 46, 53, 48]⟩ ⟨#[49, 50]⟩ ⟨#[53, 48]⟩ 46 2 W (by rfl) (by decide) (by decide) (by rfl) (by rfl)
  have k3 := fun (W : World) => ap_c W
  have r0 := Below.refl w.heap.size w
  go_enter Tryz.func120, Tryz.ntmps120
  go_wp2_with (first
    | (go_at_call 185; with_reducible refine (k1 _).mono ?_; clear k1; rintro e w1 ⟨rfl, rr⟩; have r1 := then_below r0 rr; clear rr)
    | (go_at_call 185; with_reducible refine (k2 _).mono ?_; clear k2; rintro e w2 ⟨rfl, rr⟩; have r2 := then_below r1 rr; clear rr)
    | (go_at_call 186; refine (k3 _).mono ?_; clear k3; rintro e w3 ⟨rfl, rr⟩; have r3 := then_below r2 rr; clear rr))
  go_ret2
  exact ⟨rfl, r3⟩
set_option maxRecDepth 100000 in
set_option maxHeartbeats 2000000 in
theorem pa_c {s : Bool} {L D : List Nat} (w : World) (kZ : RCan s L D ((-1250 : Rat) / 100)) : Calls Tryz.prog 34 #[.string ⟨#[45, 49, 50, 46, 53, 48]⟩] w fun e w' => ∃ a c a' c', e = .returned (.tuple #[.agg #[.bool s, .slice a L.length c, .slice a' D.length c'], .int .i64 0]) ∧ Reads w' (.slice a L.length c) L ∧ Reads w' (.slice a' D.length c') D ∧ Below w.heap.size w w' := by
  have k1 := fun (W : World) => pre_yes ⟨#[45, 49, 50, 46, 53, 48]⟩ ⟨#[49, 50, 46, 53, 48]⟩ W (by rfl) (by rfl)
  have k2 := fun (W : World) => sp_c W
  have k3 := fun (W : World) => p_lit ⟨#[49, 50, 53, 48]⟩ 1250 W (by decide +kernel) (by decide) (by decide +kernel)
  have k4 := fun (W : World) => p_lit ⟨#[49, 48, 48]⟩ 100 W (by decide +kernel) (by decide) (by decide +kernel)
  have M : Mem w [(w.heap.size, 27, [.bool false, .slice none 0 0, .slice none 0 0])] [] (w.alloc (.cells #[.bool false, .slice none 0 0, .slice none 0 0] 27)) := (Mem.start w).new _ _
  obtain ⟨Ln, hLn⟩ : ∃ L, L = digs 1250 := ⟨_, rfl⟩
  obtain ⟨Ld, hLd⟩ : ∃ L, L = digs 100 := ⟨_, rfl⟩
  rw [← hLn] at k3
  rw [← hLd] at k4
  have cn : Can true Ln (-1250) := ⟨by decide, by rw [hLn]; rfl⟩
  have cd : Can false Ld 100 := ⟨by decide, by rw [hLd]; rfl⟩
  have ln : Ln.length ≤ 2 := by rw [hLn]; exact len64 (by omega)
  have ld : Ld.length ≤ 2 := by rw [hLd]; exact len64 (by omega)
  have k5 := fun (W : World) {a b : Option Addr} {c d : Nat} (g1 : Reads W (.slice a Ln.length c) Ln) (g2 : Reads W (.slice b Ld.length d) Ld) => r_make_pos (Z := (-1250 : Rat) / 100) cn cd (by omega) kZ (by push_cast; rfl) (by omega) (by omega) g1 g2
  clear cn cd ln ld hLn hLd kZ
  go_enter Tryz.func34, Tryz.ntmps34
  go_wp2_with (first
    | (go_at_call 119; refine (k1 _).mono ?_; clear k1; rintro e w1 ⟨rfl, rfl⟩)
    | (go_at_call 120; refine (k2 _).mono ?_; clear k2; rintro e w2 ⟨rfl, rr⟩; have M' := M.up rr; clear M rr; have M := M'; clear M')
    | (go_at_call 121; with_reducible refine (k3 _).mono ?_; clear k3; rintro e w3 ⟨x, y, rfl, g, rr⟩; have M' := (M.up rr).add g; clear M rr g; have M := M'; clear M')
    | (go_at_call 121; refine (k4 _).mono ?_; clear k4; rintro e w4 ⟨x2, y2, rfl, g, rr⟩; have M' := (M.up rr).add g; clear M rr g; have M := M'; clear M')
    | (go_at_call 27; refine (k5 _ (M.get 1 rfl) (M.get 0 rfl)).mono ?_; clear k5; rintro e w5 ⟨a, c, a', c', rfl, g, g', rr⟩; have M' := ((M.up rr).add g).add g'; clear M g g' rr; have M := M'; clear M'; have z0 := M.cell 0 rfl 0 rfl; have z1 := M.cell 0 rfl 1 rfl; have z2 := M.cell 0 rfl 2 rfl; have f0 := M.fr 0 rfl 0; have f1 := M.fr 0 rfl 1; have f2 := M.fr 0 rfl 2))
  have M' := ((M.put 0 rfl rfl 0 (.bool s)).put 0 rfl rfl 1 (.slice a L.length c)).put 0 rfl rfl 2 (.slice a' D.length c')
  refine ret_boxN_tmp rfl rfl rfl (M'.box 0 rfl) Tryz.underlying27 size_rat rfl ?_
  exact ⟨a, c, a', c', rfl, M'.get 1 rfl, M'.get 0 rfl, M'.below⟩
theorem sp_d (w : World) : Calls Tryz.prog 120 #[.string ⟨#[54, 47, 52]⟩] w fun e w' => e = .returned (.tuple #[.string ⟨#[54]⟩, .string ⟨#[52]⟩]) ∧ Below w.heap.size w w' := by
  have k1 := fun (W : World) => hit_lit ⟨#[54, 47, 52]⟩ ⟨#[54]⟩ ⟨#[52]⟩ 47 1 W (by rfl) (by decide) (by decide) (by rfl) (by rfl)
  have r0 := Below.refl w.heap.size w
  go_enter Tryz.func120, Tryz.ntmps120
  go_wp2_with (first
    | (go_at_call 185; with_reducible refine (k1 _).mono ?_; clear k1; rintro e w1 ⟨rfl, rr⟩; have r1 := then_below r0 rr; clear rr))
  go_ret2
  exact ⟨rfl, r1⟩
set_option maxRecDepth 100000 in
set_option maxHeartbeats 2000000 in
theorem pa_d {s : Bool} {L D : List Nat} (w : World) (kZ : RCan s L D ((6 : Rat) / 4)) : Calls Tryz.prog 34 #[.string ⟨#[54, 47, 52]⟩] w fun e w' => ∃ a c a' c', e = .returned (.tuple #[.agg #[.bool s, .slice a L.length c, .slice a' D.length c'], .int .i64 0]) ∧ Reads w' (.slice a L.length c) L ∧ Reads w' (.slice a' D.length c') D ∧ Below w.heap.size w w' := by
  have k1 := fun (W : World) => pre_no ⟨#[54, 47, 52]⟩ W (by rfl) (by rfl)
  have k2 := fun (W : World) => sp_d W
  have k3 := fun (W : World) => p_lit ⟨#[54]⟩ 6 W (by decide +kernel) (by decide) (by decide +kernel)
  have k4 := fun (W : World) => p_lit ⟨#[52]⟩ 4 W (by decide +kernel) (by decide) (by decide +kernel)
  have M : Mem w [(w.heap.size, 27, [.bool false, .slice none 0 0, .slice none 0 0])] [] (w.alloc (.cells #[.bool false, .slice none 0 0, .slice none 0 0] 27)) := (Mem.start w).new _ _
  obtain ⟨Ln, hLn⟩ : ∃ L, L = digs 6 := ⟨_, rfl⟩
  obtain ⟨Ld, hLd⟩ : ∃ L, L = digs 4 := ⟨_, rfl⟩
  rw [← hLn] at k3
  rw [← hLd] at k4
  have cn : Can false Ln (6) := ⟨by decide, by rw [hLn]; rfl⟩
  have cd : Can false Ld 4 := ⟨by decide, by rw [hLd]; rfl⟩
  have ln : Ln.length ≤ 2 := by rw [hLn]; exact len64 (by omega)
  have ld : Ld.length ≤ 2 := by rw [hLd]; exact len64 (by omega)
  have k5 := fun (W : World) {a b : Option Addr} {c d : Nat} (g1 : Reads W (.slice a Ln.length c) Ln) (g2 : Reads W (.slice b Ld.length d) Ld) => r_make_pos (Z := (6 : Rat) / 4) cn cd (by omega) kZ (by push_cast; rfl) (by omega) (by omega) g1 g2
  clear cn cd ln ld hLn hLd kZ
  go_enter Tryz.func34, Tryz.ntmps34
  go_wp2_with (first
    | (go_at_call 119; refine (k1 _).mono ?_; clear k1; rintro e w1 ⟨rfl, rfl⟩)
    | (go_at_call 120; refine (k2 _).mono ?_; clear k2; rintro e w2 ⟨rfl, rr⟩; have M' := M.up rr; clear M rr; have M := M'; clear M')
    | (go_at_call 121; with_reducible refine (k3 _).mono ?_; clear k3; rintro e w3 ⟨x, y, rfl, g, rr⟩; have M' := (M.up rr).add g; clear M rr g; have M := M'; clear M')
    | (go_at_call 121; refine (k4 _).mono ?_; clear k4; rintro e w4 ⟨x2, y2, rfl, g, rr⟩; have M' := (M.up rr).add g; clear M rr g; have M := M'; clear M')
    | (go_at_call 27; refine (k5 _ (M.get 1 rfl) (M.get 0 rfl)).mono ?_; clear k5; rintro e w5 ⟨a, c, a', c', rfl, g, g', rr⟩; have M' := ((M.up rr).add g).add g'; clear M g g' rr; have M := M'; clear M'; have z0 := M.cell 0 rfl 0 rfl; have z1 := M.cell 0 rfl 1 rfl; have z2 := M.cell 0 rfl 2 rfl; have f0 := M.fr 0 rfl 0; have f1 := M.fr 0 rfl 1; have f2 := M.fr 0 rfl 2))
  have M' := ((M.put 0 rfl rfl 0 (.bool s)).put 0 rfl rfl 1 (.slice a L.length c)).put 0 rfl rfl 2 (.slice a' D.length c')
  refine ret_boxN_tmp rfl rfl rfl (M'.box 0 rfl) Tryz.underlying27 size_rat rfl ?_
  exact ⟨a, c, a', c', rfl, M'.get 1 rfl, M'.get 0 rfl, M'.below⟩
end Go.Proofs.YthnlmjnfdokdbaaGreatDoor
