/- The law package's own test of some answers: its walk. -/
import Derived.Test.YtbcipningfdgoaaAlive
namespace Go.Proofs.Ytbcipningfdgoaa
open Go Go.Proofs Go.RowKit Go.Shelf Nu

set_option maxRecDepth 100000 in
set_option maxHeartbeats 600000 in
theorem alive_any (w : World) : Calls Try.prog 11 #[] w fun e w' => e = .returned (.bool true) ∧ Below w.heap.size w w' := by
  go_enter Try.func11, Try.ntmps11
  go_wp2_with (first
    | (go_at_call 25; with_reducible refine (alive_b1 w).mono ?_; rintro e w1 ⟨rfl, r1⟩)
    | (go_at_call 25; with_reducible refine (alive_b2 w1).mono ?_; rintro e w2 ⟨rfl, r2⟩)
    | (go_at_call 19; with_reducible refine (alive_s1 w2).mono ?_; rintro e w3 ⟨rfl, r3⟩)
    | (go_at_call 16; with_reducible refine (alive_d1 w3).mono ?_; rintro e w4 ⟨a1, c1, a2, c2, rfl, f1, f2, r4⟩)
    | (go_at_call 16; with_reducible refine (alive_d2 w4).mono ?_; rintro e w5 ⟨rfl, r5⟩)
    | (go_at_call 23; with_reducible refine (alive_p1 w5).mono ?_; rintro e w6 ⟨a3, c3, rfl, f3, r6⟩)
    | (go_at_call 23; with_reducible refine (alive_p2 w6).mono ?_; rintro e w7 ⟨rfl, r7⟩)
    | (go_at_call 15; have ks := alive_same w7 (((f1.reads.below r5).below r6).below r7) (by decide) (l2 := [3]) rfl (vs := #[.int .u32 3]) (by first | rfl | simp [u32v]) (m := 1) (by rfl); with_reducible refine ks.mono ?_; clear ks; rintro e w8 ⟨rfl, r8⟩)
    | (go_at_call 15; have ks := alive_same w8 ((((f2.reads.below r5).below r6).below r7).below r8) (by decide) (l2 := [1]) rfl (vs := #[.int .u32 1]) (by first | rfl | simp [u32v]) (m := 1) (by rfl); with_reducible refine ks.mono ?_; clear ks; rintro e w9 ⟨rfl, r9⟩)
    | (go_at_call 15; have ks := alive_same w9 (((f3.reads.below r7).below r8).below r9) (by decide) (l2 := [0, 0, 1]) rfl (vs := #[.int .u32 0, .int .u32 0, .int .u32 1]) (by first | rfl | simp [u32v]) (m := 3) (by rfl); with_reducible refine ks.mono ?_; clear ks; rintro e w10 ⟨rfl, r10⟩)
    | (go_at_call 22; with_reducible refine (alive_t1 w10 ((((f3.reads.below r7).below r8).below r9).below r10)).mono ?_; rintro e w11 ⟨rfl, r11⟩)
    | (go_at_call 12; with_reducible refine (alive_a1 w11).mono ?_; rintro e w12 ⟨a4, c4, rfl, g4, r12⟩)
    | (go_at_call 15; have ks := alive_same w12 (g4) (by decide) (l2 := [0, 1]) rfl (vs := #[.int .u32 0, .int .u32 1]) (by first | rfl | simp [u32v]) (m := 2) (by rfl); with_reducible refine ks.mono ?_; clear ks; rintro e w13 ⟨rfl, r13⟩)
    | (go_at_call 13; with_reducible refine (alive_m1 w13).mono ?_; rintro e w14 ⟨a5, c5, rfl, g5, r14⟩)
    | (go_at_call 15; have ks := alive_same w14 (g5) (by decide) (l2 := [1, 4294967294]) rfl (vs := #[.int .u32 1, .int .u32 4294967294]) (by first | rfl | simp [u32v]) (m := 2) (by rfl); with_reducible refine ks.mono ?_; clear ks; rintro e w15 ⟨rfl, r15⟩)
    | (go_at_call 20; with_reducible refine (alive_g1 w15).mono ?_; rintro e w16 ⟨a6, c6, rfl, g6, r16⟩)
    | (go_at_call 15; have ks := alive_same w16 (g6) (by decide) (l2 := [6]) rfl (vs := #[.int .u32 6]) (by first | rfl | simp [u32v]) (m := 1) (by rfl); with_reducible refine ks.mono ?_; clear ks; rintro e w17 ⟨rfl, r17⟩)
    | (go_at_call 20; with_reducible refine (alive_g2 w17).mono ?_; rintro e w18 ⟨a7, c7, rfl, r18⟩)
    | (go_at_call 14; with_reducible refine (alive_c1 w18).mono ?_; rintro e w19 ⟨rfl, r19⟩))
  go_ret
  exact ⟨rfl, (then_below (then_below (then_below (then_below (then_below (then_below (then_below (then_below (then_below (then_below (then_below (then_below (then_below (then_below (then_below (then_below (then_below (then_below r1 r2) r3) r4) r5) r6) r7) r8) r9) r10) r11) r12) r13) r14) r15) r16) r17) r18) r19)⟩

end Go.Proofs.Ytbcipningfdgoaa
