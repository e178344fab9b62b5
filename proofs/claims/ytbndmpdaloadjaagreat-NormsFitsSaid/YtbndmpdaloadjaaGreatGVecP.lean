/- Rows of fractions, gone through two at a time. -/
import Derived.Test.YtbndmpdaloadjaaGreatGVecC
import Derived.Test.YtbndmpdaloadjaaGreatGIter
set_option linter.unusedSimpArgs false
set_option linter.unusedVariables false
set_option maxRecDepth 100000
set_option maxHeartbeats 2000000
namespace Go.Proofs.YtbndmpdaloadjaaGreat
open Go Go.Proofs Go.RowKit Go.Shelf Nu

attribute [local go_sem] Oper.semAt_some

abbrev zval (z : Zr) : Value := .agg #[.bool z.1.1, .slice z.2.1.1 z.1.2.1.length z.2.1.2, .slice z.2.2.1 z.1.2.2.length z.2.2.2]
def ZAt (W : World) (b o : Nat) (z : Zr) : Prop := W.cell? ⟨b, o, none⟩ = some (.bool z.1.1) ∧ W.cell? ⟨b, o + 1, none⟩ = some (.slice z.2.1.1 z.1.2.1.length z.2.1.2) ∧ W.cell? ⟨b, o + 2, none⟩ = some (.slice z.2.2.1 z.1.2.2.length z.2.2.2)
theorem ZAt.below {W W' : World} {b o : Nat} {z : Zr} (h : ZAt W b o z) (hlt : b < W.heap.size) (hb : Below W.heap.size W W') : ZAt W' b o z :=
 ⟨(hb.cell (p := ⟨b, o, none⟩) hlt).trans h.1, (hb.cell (p := ⟨b, o + 1, none⟩) hlt).trans h.2.1, (hb.cell (p := ⟨b, o + 2, none⟩) hlt).trans h.2.2⟩
theorem VReads.fn {W : World} {a : Option Addr} {n cap : Nat} {qs : List Qr} (h : VReads W (.slice a n cap) qs) : ∃ (b off : Nat) (f : Nat → Zr), (0 < n → a = some ⟨b, off, none⟩ ∧ b < W.heap.size) ∧ ∀ j, j < n → (f j).1 = qs.getD j default ∧ ZAt W b (off + j * 3) (f j) ∧ ZIn W (f j) := by
 obtain ⟨hn, _, b, off, hA, hc⟩ := h.addr
 have key : ∀ j, ∃ z : Zr, j < n → z.1 = qs.getD j default ∧ ZAt W b (off + j * 3) z ∧ ZIn W z := by
  intro j
  by_cases hj : j < n
  · obtain ⟨p, c, p', c', h0, h1, h2, g, g'⟩ := hc j _ (qs_at (by omega))
    exact ⟨(qs.getD j default, (p, c), (p', c')), fun _ => ⟨rfl, ⟨h0, h1, h2⟩, g, g'⟩⟩
  · exact ⟨default, fun h => absurd h hj⟩
 exact ⟨b, off, fun j => Classical.choose (key j), hA, fun j hj => Classical.choose_spec (key j) hj⟩

theorem places_any (a b : Option Addr) (n m ca cb : Nat) (w : World) :
  Calls Tryz.prog 94 #[.slice a n ca, .slice b m cb] w fun e w' => e = .returned (.func (.func 126) #[] #[.pointer (some ⟨w.heap.size, 0, none⟩), .pointer (some ⟨w.heap.size + 1, 0, none⟩)]) ∧ w' = (w.alloc (.cells #[.slice a n ca] 23)).alloc (.cells #[.slice b m cb] 23) := by
 go_enter Tryz.func94, Tryz.ntmps94
 go_wp2
 go_ret
 exact ⟨rfl, rfl⟩

theorem places_iter (N b1 o1 b2 o2 c1 c2 B1 B2 : Nat) (a1 a2 : Option Addr) (f g : Nat → Zr) (hN : N ≤ 65536) (h1 : 0 < N → a1 = some ⟨b1, o1, none⟩) (h2 : 0 < N → a2 = some ⟨b2, o2, none⟩) (d1 : N ≤ c1) (d2 : N ≤ c2) :
   IterAt Tryz.prog 126 #[.pointer (some ⟨B1, 0, none⟩), .pointer (some ⟨B2, 0, none⟩)] N (fun k => #[zval (f k), zval (g k)])
    (fun k W => W.cell? ⟨B1, 0, none⟩ = some (.slice a1 N c1) ∧ W.cell? ⟨B2, 0, none⟩ = some (.slice a2 N c2) ∧ (k < N → ZAt W b1 (o1 + k * 3) (f k) ∧ ZAt W b2 (o2 + k * 3) (g k))) := by
 intro l J Jx W hB hJd hY h0
 obtain ⟨hx1, hx2, -⟩ := hB 0 W h0
 refine callsIn_of_wp Tryz.func126 rfl trivial ?_ rfl
 simp only [Tryz.ntmps126, List.size_toArray, List.length_cons, List.length_nil, Nat.reduceAdd, Nat.reduceSub, Array.replicate_succ, Array.replicate_zero, List.push_toArray, List.append_toArray, List.nil_append, List.cons_append]
 by_cases hz : N = 0
 · subst hz
   clear hY hB h1 h2 hJd
   gi_wp2
   gi_loopw [10] (fun i wr => i = .int .i64 0 ∧ J 0 wr) (fun _ _ => 0)
   case atStart => exact ⟨rfl, h0⟩
   case round =>
    obtain ⟨rfl, hJs⟩ := hrel
    gi_wp2
    go_end0
    exact ⟨⟨_, rfl⟩, .inl hJs⟩
 · obtain rfl := h1 (by omega)
   obtain rfl := h2 (by omega)
   clear h1 h2
   gi_wp2
   gi_loopw [4, 10] (fun _ i wr => ∃ k : Nat, k ≤ N ∧ i = .int .i64 k ∧ J k wr) (fun _ i _ => N - (intOf i).toNat)
   case atStart => exact ⟨0, Nat.zero_le _, rfl, h0⟩
   case round =>
    obtain ⟨k, hk, rfl, hJs⟩ := hrel
    by_cases hlt : k < N
    · obtain ⟨fn, tmps, assign, body, hy, hR⟩ := hY k wr.drew (hJd k wr hJs) hlt
      obtain ⟨bx1, bx2, hc⟩ := hB k wr.drew (hJd k wr hJs)
      obtain ⟨⟨u0, u1, u2⟩, v0, v1, v2⟩ := hc hlt
      clear hB hY hJd hx1 hx2 hc
      generalize f k = z1 at *
      generalize g k = z2 at *
      obtain ⟨⟨s, l1, d1'⟩, ⟨p, c⟩, p', c'⟩ := z1
      obtain ⟨⟨s', l2, d2'⟩, ⟨q, e⟩, q', e'⟩ := z2
      dsimp only [zval] at *
      gi_wp2
      refine region_tail_in Lets.wide 9 (by kernel_rfl) (by kernel_rfl) ?_
      simp only [List.take_succ_cons, List.take_zero, List.drop_succ_cons, List.drop_zero]
      iterate 9 still_step
      refine wpStill_nil ?_
      gi_wp2
      refine ⟨rfl, hR.mono ?_⟩
      rintro e W3 (⟨rfl, hJ3⟩ | ⟨rfl, hJx3⟩)
      · gi_wp2
        go_roundw
        case rel => exact ⟨k + 1, by omega, by simp, hJ3⟩
        case measure => simp [intOf]; omega
      · gi_wp2
        refine bodyPost_ret (results_none rfl _ _ _) rfl ?_
        exact ⟨⟨_, rfl⟩, .inr hJx3⟩
    · obtain rfl : k = N := by omega
      clear hB hY hJd
      gi_wp2
      go_end0
      exact ⟨⟨_, rfl⟩, .inl hJs⟩
end Go.Proofs.YtbndmpdaloadjaaGreat
