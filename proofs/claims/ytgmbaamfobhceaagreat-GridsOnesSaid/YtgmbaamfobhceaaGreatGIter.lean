/- The iterators that the program ranges over: slices.All, slices.Backward, pairs: what each round is handed. -/
import Derived.Test.YtgmbaamfobhceaaGreatGLoop
set_option linter.unusedSimpArgs false
set_option linter.unusedVariables false
set_option maxRecDepth 100000
set_option maxHeartbeats 2000000
namespace Go.Proofs.YtgmbaamfobhceaaGreat
open Go Go.Proofs Go.RowKit Go.Shelf Nu
attribute [local go_sem] Oper.semAt_some
theorem all_iter (N b off cap Bs : Nat) (a : Option Addr) (x : Nat → Nat) (hN : N ≤ 1000000) (ha : 0 < N → a = some ⟨b, off, none⟩) :
   IterAt Tryz.prog 189 #[.pointer (some ⟨Bs, 0, none⟩)] N (fun k => #[.int .i64 k, .int .u32 (x k)])
    (fun k W => W.cell? ⟨Bs, 0, none⟩ = some (.slice a N cap) ∧ (k < N → W.cell? ⟨b, off + k, none⟩ = some (.int .u32 (x k)))) := by
 intro l J Jx W hB hJd hY h0
 have hbox := (hB 0 W h0).1
 refine callsIn_of_wp Tryz.func189 rfl trivial ?_ rfl
 simp only [Tryz.ntmps189, List.size_toArray, List.length_cons, List.length_nil, Nat.reduceAdd, Nat.reduceSub, Array.replicate_succ, Array.replicate_zero, List.push_toArray, List.append_toArray, List.nil_append, List.cons_append]
 by_cases hz : N = 0
 · subst hz
   clear hY hB ha hJd
   gi_wp2
   gi_loopw [7] (fun i wr => i = .int .i64 0 ∧ J 0 wr) (fun _ _ => 0)
   case atStart => exact ⟨rfl, h0⟩
   case round =>
    obtain ⟨rfl, hJs⟩ := hrel
    gi_wp2
    go_end0
    exact ⟨⟨_, rfl⟩, .inl hJs⟩
 · obtain rfl := ha (by omega)
   clear ha
   gi_wp2
   gi_loopw [7] (fun i wr => ∃ k : Nat, k ≤ N ∧ i = .int .i64 k ∧ J k wr) (fun i _ => N - (intOf i).toNat)
   case atStart => exact ⟨0, Nat.zero_le _, rfl, h0⟩
   case round =>
    obtain ⟨k, hk, rfl, hJs⟩ := hrel
    by_cases hlt : k < N
    · obtain ⟨fn, tmps, assign, body, hy, hR⟩ := hY k wr hJs hlt
      have hcx := (hB k wr hJs).2 hlt
      clear hB hY hJd
      generalize x k = y at *
      gi_wp2
      refine ⟨rfl, hR.mono ?_⟩
      rintro e W3 (⟨rfl, hJ3⟩ | ⟨rfl, hJx3⟩)
      · gi_wp2
        go_roundw
        case rel => exact ⟨k + 1, by omega, by simp, hJ3⟩
        case measure => simp [intOf]; omega
      · gi_wp2
        refine bodyPost_ret (results_none rfl _ _ _) rfl ?_
        exact ⟨⟨_, rfl⟩, .inr hJx3⟩
    · obtain rfl : k = N := by omega
      clear hB hY hJd
      gi_wp2
      go_end0
      exact ⟨⟨_, rfl⟩, .inl hJs⟩
theorem back_iter (N b off cap Bs : Nat) (a : Option Addr) (x : Nat → Nat) (hN : N ≤ 1000000) (ha : 0 < N → a = some ⟨b, off, none⟩) :
  IterAt Tryz.prog 167 #[.pointer (some ⟨Bs, 0, none⟩)] N (fun k => #[.int .i64 (N - 1 - k : Nat), .int .u32 (x (N - 1 - k))])
   (fun k W => W.cell? ⟨Bs, 0, none⟩ = some (.slice a N cap) ∧ (k < N → W.cell? ⟨b, off + (N - 1 - k), none⟩ = some (.int .u32 (x (N - 1 - k))))) := by
 intro l J Jx W hB hJd hY h0
 have hbox := (hB 0 W h0).1
 refine callsIn_of_wp Tryz.func167 rfl trivial ?_ rfl
 simp only [Tryz.ntmps167, List.size_toArray, List.length_cons, List.length_nil, Nat.reduceAdd, Nat.reduceSub, Array.replicate_succ, Array.replicate_zero, List.push_toArray, List.append_toArray, List.nil_append, List.cons_append]
 gi_wp2
 gi_loopw [3] (fun i wr => ∃ m k : Nat, m + k = N ∧ i = .int .i64 ((m : Int) - 1) ∧ J k wr) (fun i _ => (intOf i + 1).toNat)
 case atStart => exact ⟨N, 0, by omega, rfl, h0⟩
 case round =>
  obtain ⟨m, k, hmk, rfl, hJs⟩ := hrel
  cases m with
  | zero =>
   obtain rfl : k = N := by omega
   clear hB hY hJd
   gi_wp2
   go_end0
   exact ⟨⟨_, rfl⟩, .inl hJs⟩
  | succ m =>
   obtain ⟨fn, tmps, assign, body, hy, hR⟩ := hY k wr hJs (by omega)
   have hcx := (hB k wr hJs).2 (by omega)
   have hbx := (hB k wr hJs).1
   obtain rfl := ha (by omega)
   have em : N - 1 - k = m := by omega
   rw [em] at hy hcx
   clear hB hY ha em hbox hJd
   generalize x m = y at *
   have e1 : ((m + 1 : Nat) : Int) - 1 = (m : Int) := by omega
   rw [e1]
   clear e1
   have hmk' : m + 1 + k ≤ N := by omega
   have HMK := Lib.hid hmk
   clear hmk
   gi_wp2
   refine ⟨rfl, hR.mono ?_⟩
   rintro e W3 (⟨rfl, hJ3⟩ | ⟨rfl, hJx3⟩)
   · gi_wp2
     go_roundw
     case rel => exact ⟨m, k + 1, by have := HMK.out; omega, by simp, hJ3⟩
     case measure => simp [intOf]
   · gi_wp2
     refine bodyPost_ret (results_none rfl _ _ _) rfl ?_
     exact ⟨⟨_, rfl⟩, .inr hJx3⟩
theorem pairs_iter (la lb : List Nat) (va vb : Value) (Ba Bb : Nat) (hla : la.length ≤ 1000000) (hlb : lb.length ≤ 1000000) (ha : Sm la) (hb : Sm lb) :
   IterAt Tryz.prog 194 #[.pointer (some ⟨Ba, 0, none⟩), .pointer (some ⟨Bb, 0, none⟩)] (max la.length lb.length) (fun k => #[.int .u64 (la.getD k 0 : Nat), .int .u64 (lb.getD k 0 : Nat)])
    (fun _ W => W.cell? ⟨Ba, 0, none⟩ = some va ∧ W.cell? ⟨Bb, 0, none⟩ = some vb ∧ Reads W va la ∧ Reads W vb lb) := by
 intro l J Jx W hB hJd hY h0
 obtain ⟨hca, hcb, hra, hrb⟩ := hB 0 W h0
 obtain ⟨aa, capa, rfl⟩ := hra.form
 obtain ⟨ab, capb, rfl⟩ := hrb.form
 clear hra hrb
 obtain ⟨N, hN, hN1, hca', hcb'⟩ : ∃ N, N = max la.length lb.length ∧ N ≤ 1000000 ∧ la.length ≤ N ∧ lb.length ≤ N := ⟨_, rfl, by omega, by omega, by omega⟩
 rw [← hN] at hY ⊢
 have HN := Lib.hid hN
 clear hN
 refine callsIn_of_wp Tryz.func194 rfl trivial ?_ rfl
 simp only [Tryz.ntmps194, List.size_toArray, List.length_cons, List.length_nil, Nat.reduceAdd, Nat.reduceSub, Array.replicate_succ, Array.replicate_zero, List.push_toArray, List.append_toArray, List.nil_append, List.cons_append]
 have hmax : (la.length < lb.length ∧ N = lb.length) ∨ (lb.length ≤ la.length ∧ N = la.length) := by have := HN.out; omega
 rcases hmax with ⟨hlt0, rfl⟩ | ⟨hge0, rfl⟩
 · gi_wp2
   gi_loopw [4, 10] (fun _ i wr => ∃ k : Nat, k ≤ lb.length ∧ i = .int .i64 k ∧ J k wr) (fun _ i _ => lb.length - (intOf i).toNat)
   case atStart => exact ⟨0, Nat.zero_le _, rfl, h0⟩
   case round =>
    obtain ⟨k, hk, rfl, hJs⟩ := hrel
    by_cases hlt : k < lb.length
    · obtain ⟨fn, tmps, assign, body, hy, hR⟩ := hY k wr.drew (hJd k wr hJs) hlt
      obtain ⟨bxa, bxb, hra, hrb⟩ := hB k wr hJs
      have hpa := part_any (W := wr.drew) hra hla ha k (by omega)
      have hpb := part_any (W := wr.drew) hrb hlb hb k (by omega)
      clear hra hrb hB hY hJd hca hcb
      generalize la.getD k 0 = x at *
      generalize lb.getD k 0 = y at *
      gi_wp2
      refine region_tail_in Lets.wide 7 (by kernel_rfl) (by kernel_rfl) ?_
      simp only [List.take_succ_cons, List.take_zero, List.drop_succ_cons, List.drop_zero]
      iterate 3 still_step
      still_call hpa
      clear hpa
      iterate 2 still_step
      still_call hpb
      clear hpb
      refine wpStill_nil ?_
      gi_wp2
      refine ⟨rfl, hR.mono ?_⟩
      rintro e W3 (⟨rfl, hJ3⟩ | ⟨rfl, hJx3⟩)
      · gi_wp2
        go_roundw
        case rel => exact ⟨k + 1, by omega, by simp, hJ3⟩
        case measure => simp [intOf]; omega
      · gi_wp2
        refine bodyPost_ret (results_none rfl _ _ _) rfl ?_
        exact ⟨⟨_, rfl⟩, .inr hJx3⟩
    · obtain rfl : k = lb.length := by omega
      clear hB hY hJd
      gi_wp2
      go_end0
      exact ⟨⟨_, rfl⟩, .inl hJs⟩
 · gi_wp2
   gi_loopw [4, 10] (fun _ i wr => ∃ k : Nat, k ≤ la.length ∧ i = .int .i64 k ∧ J k wr) (fun _ i _ => la.length - (intOf i).toNat)
   case atStart => exact ⟨0, Nat.zero_le _, rfl, h0⟩
   case round =>
    obtain ⟨k, hk, rfl, hJs⟩ := hrel
    by_cases hlt : k < la.length
    · obtain ⟨fn, tmps, assign, body, hy, hR⟩ := hY k wr.drew (hJd k wr hJs) hlt
      obtain ⟨bxa, bxb, hra, hrb⟩ := hB k wr hJs
      have hpa := part_any (W := wr.drew) hra hla ha k (by omega)
      have hpb := part_any (W := wr.drew) hrb hlb hb k (by omega)
      clear hra hrb hB hY hJd hca hcb
      generalize la.getD k 0 = x at *
      generalize lb.getD k 0 = y at *
      gi_wp2
      refine region_tail_in Lets.wide 7 (by kernel_rfl) (by kernel_rfl) ?_
      simp only [List.take_succ_cons, List.take_zero, List.drop_succ_cons, List.drop_zero]
      iterate 3 still_step
      still_call hpa
      clear hpa
      iterate 2 still_step
      still_call hpb
      clear hpb
      refine wpStill_nil ?_
      gi_wp2
      refine ⟨rfl, hR.mono ?_⟩
      rintro e W3 (⟨rfl, hJ3⟩ | ⟨rfl, hJx3⟩)
      · gi_wp2
        go_roundw
        case rel => exact ⟨k + 1, by omega, by simp, hJ3⟩
        case measure => simp [intOf]; omega
      · gi_wp2
        refine bodyPost_ret (results_none rfl _ _ _) rfl ?_
        exact ⟨⟨_, rfl⟩, .inr hJx3⟩
    · obtain rfl : k = la.length := by omega
      clear hB hY hJd
      gi_wp2
      go_end0
      exact ⟨⟨_, rfl⟩, .inl hJs⟩
end Go.Proofs.YtgmbaamfobhceaaGreat
