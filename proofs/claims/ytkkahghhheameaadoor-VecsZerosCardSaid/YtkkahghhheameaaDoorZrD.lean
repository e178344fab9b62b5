/- Rows of 0 are the same. -/
import Derived.Test.YtkkahghhheameaaDoorZrC
namespace Go.Proofs.YtkkahghhheameaaDoor
open Go Go.Proofs Go.RowKit Go.Shelf

attribute [local go_sem] Oper.semAt_some
set_option maxRecDepth 100000
set_option linter.unusedVariables false
theorem sn_nil (a b : Option Addr) (c d : Nat) (W : World) : Calls Tryd.prog 53 #[.slice a 0 c, .slice b 0 d] W fun e w' => e = .returned (.bool true) ∧ Below W.heap.size W w' := by
  go_enter Tryd.func53, Tryd.ntmps53
  go_wp2
  go_loopg [5] 0 (fun g s wr => s = .int .i64 0 ∧ wr = W)
  case atStart => exact ⟨rfl, rfl⟩
  case round =>
    obtain ⟨rfl, rfl⟩ := hrel
    go_wp2
    go_ret
    exact ⟨rfl, Below.refl _ _⟩
set_option maxHeartbeats 1000000 in
theorem sn_one (p q c d : Nat) (W : World) (hp : W.cell? ⟨p, 0, none⟩ = some (.int .u32 1)) (hq : W.cell? ⟨q, 0, none⟩ = some (.int .u32 1)) (hc : 1 ≤ c) (hd : 1 ≤ d) : Calls Tryd.prog 53 #[.slice (some ⟨p, 0, none⟩) 1 c, .slice (some ⟨q, 0, none⟩) 1 d] W fun e w' => e = .returned (.bool true) ∧ Below W.heap.size W w' := by
  have HP := Lib.hid hp
  have HQ := Lib.hid hq
  clear hp hq
  go_enter Tryd.func53, Tryd.ntmps53
  go_wp2
  go_loopg [5] 1 (fun g s wr => ((g = 1 ∧ s = .int .i64 0) ∨ (g = 0 ∧ s = .int .i64 1)) ∧ Hid (Below W.heap.size W wr) ∧ (wr.cell? ⟨p, 0, none⟩ = some (.int .u32 1) ∧ wr.cell? ⟨q, 0, none⟩ = some (.int .u32 1)))
  case atStart => exact ⟨.inl ⟨rfl, rfl⟩, Lib.hid (Below.refl _ _), HP.out, HQ.out⟩
  case round =>
    clear HP HQ
    obtain ⟨h, HB, hp, hq⟩ := hrel
    rcases h with ⟨rfl, rfl⟩ | ⟨rfl, rfl⟩
    · go_wp2
      go_region
      go_wp2
      go_roundg 0
      case measure => omega
      case rel => exact ⟨.inr ⟨rfl, rfl⟩, Lib.hid (by first | exact HB.out | exact HB.out.drew), by first | exact ⟨hp, hq⟩ | (simp; exact ⟨hp, hq⟩)⟩
    · go_wp2
      go_ret
      exact ⟨rfl, HB.out⟩
theorem si_nil (a b : Option Addr) (c d : Nat) (W : World) : Calls Tryd.prog 52 #[.agg #[.bool false, .slice a 0 c], .agg #[.bool false, .slice b 0 d]] W fun e w' => e = .returned (.bool true) ∧ Below W.heap.size W w' := by
  have k := Lib.hid (fun W => sn_nil a b c d W)
  have KB := Lib.hid (show ∀ w1, Below ((W.alloc (.cells #[.bool false, .slice a 0 c] 45)).alloc (.cells #[.bool false, .slice b 0 d] 45)).heap.size ((W.alloc (.cells #[.bool false, .slice a 0 c] 45)).alloc (.cells #[.bool false, .slice b 0 d] 45)) w1 → Below W.heap.size W w1 from fun w1 b => bel_up (((Below.refl _ _).alloc (Nat.le_refl _) _).alloc (by simp) _) (by simp; omega) b)
  go_enter Tryd.func52, Tryd.ntmps52
  go_wp2_with (go_at_call 53; refine (k.out _).mono ?_; rintro e w1 ⟨rfl, b1⟩; have B1 := Lib.hid (KB.out _ b1); clear b1)
  go_ret
  exact ⟨rfl, B1.out⟩
set_option maxHeartbeats 1000000 in
theorem sr_zero (a b : Option Addr) (c d p q y z : Nat) (W : World) (hp : W.cell? ⟨p, 0, none⟩ = some (.int .u32 1)) (hq : W.cell? ⟨q, 0, none⟩ = some (.int .u32 1)) (hpl : p < W.heap.size) (hql : q < W.heap.size) (hy : 1 ≤ y) (hz : 1 ≤ z) :
    Calls Tryd.prog 10 #[.agg #[.bool false, .slice a 0 c, .slice (some ⟨p, 0, none⟩) 1 y], .agg #[.bool false, .slice b 0 d, .slice (some ⟨q, 0, none⟩) 1 z]] W fun e w' => e = .returned (.bool true) ∧ Below W.heap.size W w' := by
  have k1 := Lib.hid (fun W => si_nil a b c d W)
  obtain ⟨Wa, hWa⟩ : ∃ Wa, Wa = (W.alloc (.cells #[.bool false, .slice a 0 c, .slice (some ⟨p, 0, none⟩) 1 y] 47)).alloc (.cells #[.bool false, .slice b 0 d, .slice (some ⟨q, 0, none⟩) 1 z] 47) := ⟨_, rfl⟩
  have h0 : Below W.heap.size W Wa := by rw [hWa]; exact ((Below.refl _ _).alloc (Nat.le_refl _) _).alloc (by simp) _
  have g0 : Wa.heap[W.heap.size]? = some (.cells #[.bool false, .slice a 0 c, .slice (some ⟨p, 0, none⟩) 1 y] 47 (0, 0)) := by rw [hWa]; exact (Below.heap_alloc _ _ _ (by simp)).trans (q_new W _)
  have g1 : Wa.heap[W.heap.size + 1]? = some (.cells #[.bool false, .slice b 0 d, .slice (some ⟨q, 0, none⟩) 1 z] 47 (0, 0)) := by
    rw [hWa]
    have := q_new (W.alloc (.cells #[.bool false, .slice a 0 c, .slice (some ⟨p, 0, none⟩) 1 y] 47)) (.cells #[.bool false, .slice b 0 d, .slice (some ⟨q, 0, none⟩) 1 z] 47)
    simpa using this
  have KS := Lib.hid (show ∀ w1, Below Wa.heap.size Wa w1 → Below W.heap.size W w1 ∧ w1.cell? ⟨W.heap.size, 2, none⟩ = some (.slice (some ⟨p, 0, none⟩) 1 y) ∧ w1.cell? ⟨W.heap.size + 1, 2, none⟩ = some (.slice (some ⟨q, 0, none⟩) 1 z) from fun w1 b1 =>
    ⟨bel_up h0 h0.size b1, cell_of ((b1.block _ (Array.getElem?_eq_some_iff.1 g0).1).trans g0) 2 _ rfl, cell_of ((b1.block _ (Array.getElem?_eq_some_iff.1 g1).1).trans g1) 2 _ rfl⟩)
  have k2 := Lib.hid (show ∀ w1, Below W.heap.size W w1 → Calls Tryd.prog 53 #[.slice (some ⟨p, 0, none⟩) 1 y, .slice (some ⟨q, 0, none⟩) 1 z] w1 fun e w' => e = .returned (.bool true) ∧ Below W.heap.size W w' from fun w1 b1 =>
    (sn_one p q y z w1 ((World.cell?_of_block (b1.block p hpl)).trans hp) ((World.cell?_of_block (b1.block q hql)).trans hq) hy hz).mono fun e w' h => ⟨h.1, bel_up b1 b1.size h.2⟩)
  rw [hWa] at KS
  clear hp hq hpl hql hy hz h0 g0 g1 hWa Wa
  go_enter Tryd.func10, Tryd.ntmps10
  go_wp2_with (first
    | (go_at_call 52; refine (k1.out _).mono ?_; rintro e w1 ⟨rfl, b1⟩; have X := Lib.hid (KS.out _ b1); have z0 := X.out.2.1; have z1 := X.out.2.2; clear b1)
    | (go_at_call 53; refine (k2.out _ X.out.1).mono ?_; rintro e w2 ⟨rfl, b2⟩; have B2 := Lib.hid b2; clear b2))
  go_ret
  exact ⟨rfl, B2.out⟩
/-- a row of 0 is read -/
def RowZ (W : World) (a : Option Addr) (n c : Nat) (xa : Nat → Option Addr) (xc d yc : Nat → Nat) : Prop :=
  0 < n → ∃ b off, a = some ⟨b, off, none⟩ ∧ n ≤ c ∧ b < W.heap.size ∧ ∀ k, k < n → (W.cell? ⟨b, off + k * 3, none⟩ = some (.bool false) ∧ W.cell? ⟨b, off + k * 3 + 1, none⟩ = some (.slice (xa k) 0 (xc k)) ∧ W.cell? ⟨b, off + k * 3 + 2, none⟩ = some (.slice (some ⟨d k, 0, none⟩) 1 (yc k))) ∧ d k < W.heap.size ∧ 1 ≤ yc k ∧ W.cell? ⟨d k, 0, none⟩ = some (.int .u32 1)
theorem RowZ.below {W W' : World} {a : Option Addr} {n c : Nat} {xa : Nat → Option Addr} {xc d yc : Nat → Nat} (h : RowZ W a n c xa xc d yc) (b : Below W.heap.size W W') : RowZ W' a n c xa xc d yc := by
  intro h0
  obtain ⟨g, off, e, hc, hg, h1⟩ := h h0
  refine ⟨g, off, e, hc, Nat.lt_of_lt_of_le hg b.size, fun k hk => ?_⟩
  obtain ⟨⟨r0, r1, r2⟩, hd, hy, h2⟩ := h1 k hk
  have kc : ∀ o, W'.cell? ⟨g, o, none⟩ = W.cell? ⟨g, o, none⟩ := fun o => World.cell?_of_block (b.block g hg)
  exact ⟨⟨(kc _).trans r0, (kc _).trans r1, (kc _).trans r2⟩, Nat.lt_of_lt_of_le hd b.size, hy, (World.cell?_of_block (b.block _ hd)).trans h2⟩
set_option maxHeartbeats 4000000 in
theorem same_zero {W : World} {n : Nat} (hn : n ≤ 300) {a a' : Option Addr} {c c' : Nat} {xa xa' : Nat → Option Addr} {xc d yc xc' d' yc' : Nat → Nat} (h : RowZ W a n c xa xc d yc) (h' : RowZ W a' n c' xa' xc' d' yc') :
    Calls Tryd.prog 5 #[.slice a n c, .slice a' n c'] W fun e w' => e = .returned (.bool true) ∧ Below W.heap.size W w' := by
  have H := Lib.hid h
  have H' := Lib.hid h'
  clear h h'
  go_enter Tryd.func5, Tryd.ntmps5
  go_wp2
  go_loopg [5] n (fun g s wr => ∃ k : Nat, k + g = n ∧ s = .int .i64 (k : Int) ∧ Hid (Below W.heap.size W wr))
  case atStart => exact ⟨0, by omega, rfl, Lib.hid (Below.refl _ _)⟩
  case round =>
    obtain ⟨k, hk, rfl, HB⟩ := hrel
    by_cases hlt : k < n
    · obtain ⟨b1, o1, ea1, hc1, hb1, _⟩ := H.out (by omega)
      obtain ⟨b2, o2, ea2, hc2, hb2, _⟩ := H'.out (by omega)
      obtain ⟨x1, hx1⟩ : ∃ x, x = xa k := ⟨_, rfl⟩
      obtain ⟨x2, hx2⟩ : ∃ x, x = xc k := ⟨_, rfl⟩
      obtain ⟨x3, hx3⟩ : ∃ x, x = d k := ⟨_, rfl⟩
      obtain ⟨x4, hx4⟩ : ∃ x, x = yc k := ⟨_, rfl⟩
      obtain ⟨y1, hy1⟩ : ∃ x, x = xa' k := ⟨_, rfl⟩
      obtain ⟨y2, hy2⟩ : ∃ x, x = xc' k := ⟨_, rfl⟩
      obtain ⟨y3, hy3⟩ : ∃ x, x = d' k := ⟨_, rfl⟩
      obtain ⟨y4, hy4⟩ : ∃ x, x = yc' k := ⟨_, rfl⟩
      have KS := Lib.hid (show ∀ w5, Below W.heap.size W w5 → ((fun w' : World => w'.cell? ⟨b1, o1 + k * 3, none⟩ = some (.bool false) ∧ w'.cell? ⟨b1, o1 + k * 3 + 1, none⟩ = some (.slice x1 0 x2) ∧ w'.cell? ⟨b1, o1 + k * 3 + 2, none⟩ = some (.slice (some ⟨x3, 0, none⟩) 1 x4) ∧ w'.cell? ⟨b2, o2 + k * 3, none⟩ = some (.bool false) ∧ w'.cell? ⟨b2, o2 + k * 3 + 1, none⟩ = some (.slice y1 0 y2) ∧ w'.cell? ⟨b2, o2 + k * 3 + 2, none⟩ = some (.slice (some ⟨y3, 0, none⟩) 1 y4)) w5) ∧
          Calls Tryd.prog 10 #[.agg #[.bool false, .slice x1 0 x2, .slice (some ⟨x3, 0, none⟩) 1 x4], .agg #[.bool false, .slice y1 0 y2, .slice (some ⟨y3, 0, none⟩) 1 y4]] w5 fun e w' => e = .returned (.bool true) ∧ Below W.heap.size W w' from fun w5 b5 => by
        obtain ⟨g, off, e, _, _, r⟩ := H.out.below b5 (by omega)
        obtain ⟨g', off', e', _, _, r'⟩ := H'.out.below b5 (by omega)
        rw [ea1] at e
        rw [ea2] at e'
        simp only [Option.some.injEq, Addr.mk.injEq, and_true] at e e'
        obtain ⟨rfl, rfl⟩ := e
        obtain ⟨rfl, rfl⟩ := e'
        obtain ⟨⟨r0, r1, r2⟩, p1, p2, p3⟩ := r k hlt
        obtain ⟨⟨s0, s1, s2⟩, q1, q2, q3⟩ := r' k hlt
        rw [← hx1, ← hx2] at r1
        rw [← hx3, ← hx4] at r2
        rw [← hy1, ← hy2] at s1
        rw [← hy3, ← hy4] at s2
        rw [← hx3] at p1 p3
        rw [← hx4] at p2
        rw [← hy3] at q1 q3
        rw [← hy4] at q2
        exact ⟨⟨r0, r1, r2, s0, s1, s2⟩, (sr_zero x1 y1 x2 y2 x3 y3 x4 y4 w5 p3 q3 p1 q1 p2 q2).mono fun e w' h => ⟨h.1, bel_up b5 b5.size h.2⟩⟩)
      have HB0 := Lib.hid (show Below W.heap.size W wr.drew from by first | exact HB.out.drew | exact ⟨HB.out.os, HB.out.tape, HB.out.output, HB.out.size, HB.out.block⟩)
      clear hx1 hx2 hx3 hx4 hy1 hy2 hy3 hy4 H H'
      subst ea1 ea2
      go_wp2
      go_region_held3 (fun w' => w'.cell? ⟨b1, o1 + k * 3, none⟩ = some (.bool false) ∧ w'.cell? ⟨b1, o1 + k * 3 + 1, none⟩ = some (.slice x1 0 x2) ∧ w'.cell? ⟨b1, o1 + k * 3 + 2, none⟩ = some (.slice (some ⟨x3, 0, none⟩) 1 x4) ∧ w'.cell? ⟨b2, o2 + k * 3, none⟩ = some (.bool false) ∧ w'.cell? ⟨b2, o2 + k * 3 + 1, none⟩ = some (.slice y1 0 y2) ∧ w'.cell? ⟨b2, o2 + k * 3 + 2, none⟩ = some (.slice (some ⟨y3, 0, none⟩) 1 y4))
        (first
          | exact (KS.out _ HB1.out).1
          | exact (KS.out _ HB0.out).1
          | fail)
        (first
          | (go_at_call 10; (with_reducible refine (KS.out _ HB0.out).2.mono ?_); rintro e w1 ⟨rfl, q1⟩; have HB1 := Lib.hid q1; clear q1)
          | fail)
      go_wp2
      go_roundg (n - (k + 1))
      case measure => omega
      case rel => exact ⟨k + 1, by omega, by simp, Lib.hid (by first | exact HB1.out | exact HB1.out.drew | exact ⟨HB1.out.os, HB1.out.tape, HB1.out.output, HB1.out.size, HB1.out.block⟩)⟩
    · obtain rfl : k = n := by omega
      clear H H'
      go_wp2
      go_ret
      exact ⟨rfl, HB.out⟩
end Go.Proofs.YtkkahghhheameaaDoor
