/- The law package's own helpers of fractions: a fraction of two small numbers, two that are the same, one that is read. -/
import Derived.Test.YthnlmjnfdokdbaaGreatDoorGRatMkN
import Derived.Test.YthnlmjnfdokdbaaGreatDoorGRatLit
set_option linter.unusedSimpArgs false
set_option linter.unusedVariables false
namespace Go.Proofs.YthnlmjnfdokdbaaGreatDoor
open Go Go.Proofs Go.RowKit Go.Shelf Nu

attribute [local go_sem] Oper.semAt_some

theorem Mem.ne {w W : World} {bs : List (Nat × TypeId × List Value)} {rs : List (Value × List Nat)} (M : Mem w bs rs W) (j k : Nat) {x y : Nat × TypeId × List Value} (hx : bs[j]? = some x) (hy : bs[k]? = some y) (h : j ≠ k) : x.1 ≠ y.1 := fun e => h (M.2.2.1 j k x y hx hy e)
theorem Mem.start' {w : World} (W : World) (r : Below w.heap.size w W) {b c : Nat} {t u : TypeId} {cs ds : List Value} (h1 : BoxN W b t cs.toArray) (a1 : w.heap.size ≤ b) (h2 : BoxN W c u ds.toArray) (a2 : w.heap.size ≤ c) (hn : b ≠ c) : Mem w [(b, t, cs), (c, u, ds)] [] W := by
  refine ⟨r, fun k b' t' cs' e => ?_, fun j k x y ex ey e => ?_, by simp⟩
  · match k with
    | 0 => simp at e; obtain ⟨rfl, rfl, rfl⟩ := e; exact ⟨a1, h1⟩
    | 1 => simp at e; obtain ⟨rfl, rfl, rfl⟩ := e; exact ⟨a2, h2⟩
    | k + 2 => simp at e
  · match j, k with
    | 0, 0 => rfl
    | 1, 1 => rfl
    | 0, 1 => simp at ex ey; subst ex; subst ey; exact absurd e hn
    | 1, 0 => simp at ex ey; subst ex; subst ey; exact absurd e.symm hn
    | j + 2, _ => simp at ex
    | _, k + 2 => simp at ey
theorem r_make {w : World} {p1 p2 : Option Addr} {q1 q2 : Nat} {s1 s2 sZ : Bool} {L1 L2 LZ DZ : List Nat} {N M : Int} {Z : Rat} (cN : Can s1 L1 N) (cM : Can s2 L2 M) (hM : M ≠ 0) (kZ : RCan sZ LZ DZ Z) (eZ : Z = (N : Rat) / (M : Rat)) (b1 : L1.length ≤ 19999) (b2 : L2.length ≤ 19999) (g1 : Reads w (.slice p1 L1.length q1) L1) (g2 : Reads w (.slice p2 L2.length q2) L2) :
    Calls Tryz.prog 27 #[.agg #[.bool s1, .slice p1 L1.length q1], .agg #[.bool s2, .slice p2 L2.length q2]] w fun e w' => ∃ a c a' c', e = .returned (.tuple #[.agg #[.bool sZ, .slice a LZ.length c, .slice a' DZ.length c'], .int .i64 0]) ∧ Reads w' (.slice a LZ.length c) LZ ∧ Reads w' (.slice a' DZ.length c') DZ ∧ Below w.heap.size w w' := by
  by_cases h : M < 0
  · exact r_make_neg cN cM h kZ eZ b1 b2 g1 g2
  · exact r_make_pos cN cM (by omega) kZ eZ b1 b2 g1 g2
theorem can_len64 {s : Bool} {L : List Nat} {X : Int} (h : Can s L X) (h1 : -9223372036854775808 ≤ X) (h2 : X ≤ 9223372036854775807) : L.length ≤ 2 := by
  rw [h.2]; exact len64 (by omega)

set_option maxRecDepth 100000 in
set_option maxHeartbeats 2000000 in
theorem r_lof {s : Bool} {L D : List Nat} {Z : Rat} (n d : Int) (w : World) (kZ : RCan s L D Z) (eZ : Z = (n : Rat) / (d : Rat)) (hd : d ≠ 0) (n1 : -9223372036854775808 ≤ n) (n2 : n ≤ 9223372036854775807) (d1 : -9223372036854775808 ≤ d) (d2 : d ≤ 9223372036854775807) :
    Calls Tryz.prog 46 #[.int .i64 n, .int .i64 d] w fun e w' => ∃ a c a' c', e = .returned (.agg #[.bool s, .slice a L.length c, .slice a' D.length c']) ∧ Reads w' (.slice a L.length c) L ∧ Reads w' (.slice a' D.length c') D ∧ Below w.heap.size w w' := by
  obtain ⟨sn, Ln, cn⟩ := Can.ex n
  obtain ⟨sd, Ld, cd⟩ := Can.ex d
  have ln := can_len64 cn n1 n2
  have ld := can_len64 cd d1 d2
  have k1 := fun (W : World) => q_of (W := W) n cn n1 n2
  have k2 := fun (W : World) => q_of (W := W) d cd d1 d2
  have k3 := fun (W : World) {a b : Option Addr} {c e : Nat} (g1 : Reads W (.slice a Ln.length c) Ln) (g2 : Reads W (.slice b Ld.length e) Ld) => r_make cn cd hd kZ eZ (by omega) (by omega) g1 g2
  have M : Mem w [(w.heap.size, 27, [.bool false, .slice none 0 0, .slice none 0 0])] [] (w.alloc (.cells #[.bool false, .slice none 0 0, .slice none 0 0] 27)) := (Mem.start w).new _ _
  clear cn cd ln ld kZ eZ hd n1 n2 d1 d2
  go_enter Tryz.func46, Tryz.ntmps46
  go_wp2_with (first
    | (go_at_call 114; refine (k1 _).mono ?_; clear k1; rintro e w1 ⟨x1, y1, rfl, g, rr⟩; have M' := (M.up rr).add g; clear M g rr; have M := M'; clear M')
    | (go_at_call 114; refine (k2 _).mono ?_; clear k2; rintro e w2 ⟨x2, y2, rfl, g, rr⟩; have M' := (M.up rr).add g; clear M g rr; have M := M'; clear M')
    | (go_at_call 27; refine (k3 _ (M.get 1 rfl) (M.get 0 rfl)).mono ?_; clear k3; rintro e w3 ⟨a, c, a', c', rfl, g, g', rr⟩; have M' := (((M.up rr).add g).add g').new 27 [.bool s, .slice a L.length c, .slice a' D.length c']; clear M g g' rr; have M := M'; clear M'; have z0 := M.cell 1 rfl 0 rfl; have z1 := M.cell 1 rfl 1 rfl; have z2 := M.cell 1 rfl 2 rfl; have f0 := M.fr 1 rfl 0; have f1 := M.fr 1 rfl 1; have f2 := M.fr 1 rfl 2; have y0 := M.cell 0 rfl 0 rfl; have y1 := M.cell 0 rfl 1 rfl; have y2 := M.cell 0 rfl 2 rfl))
  have M' := ((M.put 1 rfl rfl 0 (.bool s)).put 1 rfl rfl 1 (.slice a L.length c)).put 1 rfl rfl 2 (.slice a' D.length c')
  refine ret_boxN rfl rfl (M'.box 1 rfl) Tryz.underlying27 size_rat rfl ?_
  exact ⟨a, c, a', c', rfl, M'.get 1 rfl, M'.get 0 rfl, M'.below⟩

section
variable {w : World} {p1 o1 p2 o2 : Option Addr} {q1 r1 q2 r2 : Nat} {n1 n2 : Bool} {l1 d1 l2 d2 : List Nat} {X Y : Rat}
set_option maxRecDepth 100000 in
set_option maxHeartbeats 2000000 in
theorem sameRat_any (R : Bool) (hX : RCan n1 l1 d1 X) (hY : RCan n2 l2 d2 Y) (e : decide (X = Y) = R) (b1 : l1.length ≤ 80000) (b2 : d1.length ≤ 80000) (b3 : l2.length ≤ 80000) (b4 : d2.length ≤ 80000) (g1 : Reads w (.slice p1 l1.length q1) l1) (g2 : Reads w (.slice o1 d1.length r1) d1) (g3 : Reads w (.slice p2 l2.length q2) l2) (g4 : Reads w (.slice o2 d2.length r2) d2) :
    Calls Tryz.prog 19 #[.agg #[.bool n1, .slice p1 l1.length q1, .slice o1 d1.length r1], .agg #[.bool n2, .slice p2 l2.length q2, .slice o2 d2.length r2]] w fun e w' => e = .returned (.bool R) ∧ Below w.heap.size w w' := by
  have hs := hX.same hY
  rw [e] at hs
  obtain ⟨B, hB⟩ : ∃ B, B = (n1 == n2 && decide (l1 = l2)) := ⟨_, rfl⟩
  obtain ⟨C, hC⟩ : ∃ C, C = decide (d1 = d2) := ⟨_, rfl⟩
  rw [← hB, ← hC] at hs
  have ki := fun (W : World) (g1 : Reads W (.slice p1 l1.length q1) l1) (g3 : Reads W (.slice p2 l2.length q2) l2) => sameInt_any (n1 := n1) (n2 := n2) g1 g3 (by omega) (by omega) hB
  have kn := fun (W : World) (g2 : Reads W (.slice o1 d1.length r1) d1) (g4 : Reads W (.slice o2 d2.length r2) d2) => sameNat_any g2 g4 (by omega) (by omega)
  rw [← hC] at kn
  have M : Mem w [(w.heap.size + 1, 27, [.bool n2, .slice p2 l2.length q2, .slice o2 d2.length r2]), (w.heap.size, 27, [.bool n1, .slice p1 l1.length q1, .slice o1 d1.length r1])] [(.slice o2 d2.length r2, d2), (.slice p2 l2.length q2, l2), (.slice o1 d1.length r1, d1), (.slice p1 l1.length q1, l1)]
      ((w.alloc (.cells #[.bool n1, .slice p1 l1.length q1, .slice o1 d1.length r1] 27)).alloc (.cells #[.bool n2, .slice p2 l2.length q2, .slice o2 d2.length r2] 27)) := by
    have M := (((((Mem.start w).add g1).add g2).add g3).add g4).new 27 [.bool n1, .slice p1 l1.length q1, .slice o1 d1.length r1] |>.new 27 [.bool n2, .slice p2 l2.length q2, .slice o2 d2.length r2]
    simpa only [World.size_alloc] using M
  clear hX hY e b1 b2 b3 b4 g1 g2 g3 g4 hB hC
  cases B with
  | false =>
    obtain rfl : R = false := by simpa using hs.symm
    clear hs kn
    go_enter Tryz.func19, Tryz.ntmps19
    go_wp2_with (go_at_call 40; refine (ki _ (M.get 3 rfl) (M.get 1 rfl)).mono ?_; clear ki; rintro e w1 ⟨rfl, rr⟩; have M' := M.up rr; clear M rr)
    go_ret
    exact ⟨rfl, M'.below⟩
  | true =>
    obtain rfl : R = C := by simpa using hs.symm
    clear hs
    go_enter Tryz.func19, Tryz.ntmps19
    go_wp2_with (first
      | (go_at_call 40; refine (ki _ (M.get 3 rfl) (M.get 1 rfl)).mono ?_; clear ki; rintro e w1 ⟨rfl, rr⟩; have M' := M.up rr; clear M rr; have z0 := M'.cell 0 rfl 2 rfl; have z1 := M'.cell 1 rfl 2 rfl)
      | (go_at_call 68; refine (kn _ (M'.get 2 rfl) (M'.get 0 rfl)).mono ?_; clear kn; rintro e w2 ⟨rfl, n, rfl⟩))
    go_ret
    exact ⟨rfl, ⟨M'.below.os, M'.below.tape, M'.below.output, M'.below.size, M'.below.block⟩⟩
set_option maxRecDepth 100000 in
set_option maxHeartbeats 2000000 in
theorem r_same (R : Bool) (hX : RCan n1 l1 d1 X) (hY : RCan n2 l2 d2 Y) (e : decide (X = Y) = R) (b1 : l1.length ≤ 80000) (b2 : d1.length ≤ 80000) (b3 : l2.length ≤ 80000) (b4 : d2.length ≤ 80000) (g1 : Reads w (.slice p1 l1.length q1) l1) (g2 : Reads w (.slice o1 d1.length r1) d1) (g3 : Reads w (.slice p2 l2.length q2) l2) (g4 : Reads w (.slice o2 d2.length r2) d2) :
    Calls Tryz.prog 45 #[.agg #[.bool n1, .slice p1 l1.length q1, .slice o1 d1.length r1], .agg #[.bool n2, .slice p2 l2.length q2, .slice o2 d2.length r2]] w fun e w' => e = .returned (.bool R) ∧ Below w.heap.size w w' := by
  have h0 : Below w.heap.size w ((w.alloc (.cells #[.bool n1, .slice p1 l1.length q1, .slice o1 d1.length r1] 27)).alloc (.cells #[.bool n2, .slice p2 l2.length q2, .slice o2 d2.length r2] 27)) := ((Below.refl _ _).alloc (Nat.le_refl _) _).alloc (by simp) _
  have k := sameRat_any R hX hY e b1 b2 b3 b4 (g1.below h0) (g2.below h0) (g3.below h0) (g4.below h0)
  clear hX hY e b1 b2 b3 b4 g1 g2 g3 g4
  go_enter Tryz.func45, Tryz.ntmps45
  go_wp2_with (go_at_call 19; refine k.mono ?_; clear k; rintro e w1 ⟨rfl, rr⟩)
  go_ret
  exact ⟨rfl, then_below h0 rr⟩
end
set_option maxRecDepth 100000 in
set_option maxHeartbeats 2000000 in
theorem r_read {s : Bool} {L D : List Nat} (t : ByteArray) (w : World) (kp : ∀ W : World, Calls Tryz.prog 34 #[.string t] W fun e w' => ∃ a c a' c', e = .returned (.tuple #[.agg #[.bool s, .slice a L.length c, .slice a' D.length c'], .int .i64 0]) ∧ Reads w' (.slice a L.length c) L ∧ Reads w' (.slice a' D.length c') D ∧ Below W.heap.size W w') :
    Calls Tryz.prog 138 #[.string t] w fun e w' => ∃ a c a' c', e = .returned (.agg #[.bool s, .slice a L.length c, .slice a' D.length c']) ∧ Reads w' (.slice a L.length c) L ∧ Reads w' (.slice a' D.length c') D ∧ Below w.heap.size w w' := by
  have M : Mem w [(w.heap.size, 27, [.bool false, .slice none 0 0, .slice none 0 0])] [] (w.alloc (.cells #[.bool false, .slice none 0 0, .slice none 0 0] 27)) := (Mem.start w).new _ _
  go_enter Tryz.func138, Tryz.ntmps138
  go_wp2_with (go_at_call 34; refine (kp _).mono ?_; clear kp; rintro e w3 ⟨a, c, a', c', rfl, g, g', rr⟩; have M' := (((M.up rr).add g).add g').new 27 [.bool s, .slice a L.length c, .slice a' D.length c']; clear M g g' rr; have M := M'; clear M'; have z0 := M.cell 1 rfl 0 rfl; have z1 := M.cell 1 rfl 1 rfl; have z2 := M.cell 1 rfl 2 rfl; have f0 := M.fr 1 rfl 0; have f1 := M.fr 1 rfl 1; have f2 := M.fr 1 rfl 2; have y0 := M.cell 0 rfl 0 rfl; have y1 := M.cell 0 rfl 1 rfl; have y2 := M.cell 0 rfl 2 rfl)
  have M' := ((M.put 1 rfl rfl 0 (.bool s)).put 1 rfl rfl 1 (.slice a L.length c)).put 1 rfl rfl 2 (.slice a' D.length c')
  refine ret_boxN rfl rfl (M'.box 1 rfl) Tryz.underlying27 size_rat rfl ?_
  exact ⟨a, c, a', c', rfl, M'.get 1 rfl, M'.get 0 rfl, M'.below⟩
end Go.Proofs.YthnlmjnfdokdbaaGreatDoor
