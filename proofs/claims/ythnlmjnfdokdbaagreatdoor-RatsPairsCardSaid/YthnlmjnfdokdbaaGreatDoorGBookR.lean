/- A book of fractions; what is no fraction, twice. -/
import Derived.Test.YthnlmjnfdokdbaaGreatDoorGRatLaw
import Derived.Test.YthnlmjnfdokdbaaGreatDoorGIPairsA
import Derived.Test.YthnlmjnfdokdbaaGreatDoorGGreatP
set_option linter.unusedSimpArgs false
set_option linter.unusedVariables false
namespace Go.Proofs.YthnlmjnfdokdbaaGreatDoor
open Go Go.Proofs Go.RowKit Go.Shelf Nu

attribute [local go_sem] Oper.semAt_some

set_option maxRecDepth 100000 in
set_option maxHeartbeats 2000000 in
theorem bk_keep2 {W : World} {B n : Nat} {hv : Value} {es : List (Value × Nat)} {a : Option Addr} {l c : Nat} (h : BookAt W B n hv) (hr : HRow W (B + 1) hv es) (hn : n ≤ 100000) (hl : es.length ≤ 100000) :
    Calls Tryz.prog 153 #[.pointer (some ⟨B, 0, none⟩), .slice a l c] W fun e w' => e = .returned (.tuple #[]) ∧ ∃ hv', BookAt w' B (n + 1) hv' ∧ HRow w' (B + 1) hv' (es ++ [(.slice a l c, n + 1)]) ∧ Below B W w' ∧ ∀ k, k < W.heap.size → k ≠ B → hv.ownBlock ≠ some k → w'.heap[k]? = W.heap[k]? := by
  obtain ⟨i0, hi, hz0, hz1, hz2⟩ := info_parts info_held
  obtain ⟨N1, hN1⟩ : ∃ N1, N1 = n + 1 := ⟨_, rfl⟩
  have hnn : ((n : Int) + 1) = (N1 : Int) := by omega
  have HN1 := Lib.hid hN1
  rw [← hN1]
  clear hN1
  have r1 := h.c0
  have r2 := h.fr 0
  have hlt := h.lt
  have h1 := Lib.hid (h.setn N1)
  have hr1 := Lib.hid (hr.other (o := 0) (.int .i64 (N1 : Int)))
  have hm1 : es.length + 1 ≤ maxLen := by unfold maxLen; omega
  have hm2 : (es.length + 1) * 56 ≤ 140737488355328 := by omega
  have hb1 := Lib.hid ((Below.refl B W).setCell (p := ⟨B, 0, none⟩) (Nat.le_refl _) (.int .i64 (N1 : Int)))
  have hk1 := Lib.hid (show ∀ k, k < W.heap.size → k ≠ B → (W.setCell ⟨B, 0, none⟩ (.int .i64 (N1 : Int))).heap[k]? = W.heap[k]? ∧ k < (W.setCell ⟨B, 0, none⟩ (.int .i64 (N1 : Int))).heap.size from fun k hk hB => ⟨Below.heap_setCell W ⟨B, 0, none⟩ _ k hB, by simpa using hk⟩)
  clear h hr
  go_enter Tryz.func153, Tryz.ntmps153
  go_wp2
  obtain ⟨W1, hW1⟩ : ∃ W1, W1 = W.setCell ⟨B, 0, none⟩ (.int .i64 (N1 : Int)) := ⟨_, rfl⟩
  rw [← hW1] at h1 hr1 hb1 hk1 ⊢
  have s1 := h1.out.c0
  have s2 := h1.out.c2
  have s3 := h1.out.lt
  clear hW1 r1 r2
  go_region_law
    ((first
      | (refine step_append_lies _ (by rfl) _ _ _ (by rfl) (B + 1) 121 i0 _ 3 56 Tryz.underlying38 hi hz0 hz1 hz2 rfl (by omega) _ es.length (hcells es) (by rfl) (World.ownsRow.alloc (World.ownsRow.drew hr1.out) _)
          ⟨W1.heap.size, 0, none⟩ 1 1 [.slice a l c, .slice none 0 0, .int .i64 (N1 : Int)] (by rfl) (by rfl) (World.news_of_block (cs := #[.slice a l c, .slice none 0 0, .int .i64 (N1 : Int)]) (t := 121) (fr := (0, 0)) (heap_alloc_new _ _)) (by simp [Value.oneCell'])
          (by omega) hm1 hm2 (by simp; omega) (W1.heap.size + 1) (by simp) ?_; intro gg cap w6 hown1 hgrow hat hlt6; have hg6 := undrew_grown hgrow; have b6 : BookAt w6 B N1 hv := (h1.out.alloc _).kept hg6 (fun e => by have := (World.ownsRow.lt hr1.out B e.symm).1; omega); have f6 := b6.fr 2; have c6 := b6.c2)))
  all_goals
    go_end0
    have q1 := HRow.snoc (.slice a l c) N1 hown1
    exact ⟨rfl, _, b6.setv _, q1.other _, (((hb1.out.alloc (by omega) _).grown hg6 (by simp; omega) (fun k e => by have := (World.ownsRow.lt hr1.out k e).1; omega)).setCell (p := ⟨B, 2, none⟩) (Nat.le_refl _) _), fun k hk hB hne => (Below.heap_setCell w6 ⟨B, 2, none⟩ _ k hB).trans ((hg6.block k (by have := (hk1.out k hk hB).2; simp; omega) (fun e => hne e.symm)).trans ((Below.heap_alloc W1 _ k (hk1.out k hk hB).2).trans (hk1.out k hk hB).1))⟩

theorem bk_nat2 {W : World} {B n : Nat} {hv : Value} {es : List (Value × Nat)} {a : Option Addr} {l c : Nat} (h : BookAt W B n hv) (hr : HRow W (B + 1) hv es) (hn : n ≤ 100000) (hl : es.length ≤ 100000) :
    Calls Tryz.prog 74 #[.pointer (some ⟨B, 0, none⟩), .slice a l c] W fun e w' => e = .returned (.tuple #[]) ∧ ∃ hv', BookAt w' B (n + 1) hv' ∧ HRow w' (B + 1) hv' (es ++ [(.slice a l c, n + 1)]) ∧ Below B W w' ∧ ∀ k, k < W.heap.size → k ≠ B → hv.ownBlock ≠ some k → w'.heap[k]? = W.heap[k]? := by
  have k := bk_keep2 (a := a) (l := l) (c := c) h hr hn hl
  have K := Lib.hid k
  clear h hr hn hl k
  go_enter Tryz.func74, Tryz.ntmps74
  go_wp2_with fail
  refine K.out.mono ?_
  rintro e w' ⟨rfl, q⟩
  have Q := Lib.hid q
  clear q
  go_wp2_with fail
  go_end0
  exact ⟨rfl, Q.out⟩
theorem bk_int2 {W : World} {n1 : Bool} {B n : Nat} {hv : Value} {es : List (Value × Nat)} {a : Option Addr} {l c : Nat} (h : BookAt W B n hv) (hr : HRow W (B + 1) hv es) (hn : n ≤ 100000) (hl : es.length ≤ 100000) :
    Calls Tryz.prog 32 #[.pointer (some ⟨B, 0, none⟩), .agg #[.bool n1, .slice a l c]] W fun e w' => e = .returned (.tuple #[]) ∧ ∃ hv', BookAt w' B (n + 1) hv' ∧ HRow w' (B + 1) hv' (es ++ [(.slice a l c, n + 1)]) ∧ Below B W w' ∧ ∀ k, k < W.heap.size → k ≠ B → hv.ownBlock ≠ some k → w'.heap[k]? = W.heap[k]? := by
  have hlt := h.lt
  have hr' : HRow (W.alloc (.cells #[.bool n1, .slice a l c] 25)) (B + 1) hv es := World.ownsRow.alloc hr _
  have K := Lib.hid (bk_nat2 (a := a) (l := l) (c := c) (h.alloc (.cells #[.bool n1, .slice a l c] 25)) hr' hn hl)
  clear h hr hn hl hr'
  go_enter Tryz.func32, Tryz.ntmps32
  go_wp2_with fail
  go_at_call 74
  refine K.out.mono ?_
  rintro e w' ⟨rfl, hv', q1, q2, q3, q4⟩
  have Q := Lib.hid (show ∃ hv', BookAt w' B (n + 1) hv' ∧ HRow w' (B + 1) hv' (es ++ [(.slice a l c, n + 1)]) ∧ Below B W w' ∧ ∀ k, k < W.heap.size → k ≠ B → hv.ownBlock ≠ some k → w'.heap[k]? = W.heap[k]? from ⟨hv', q1, q2, ((Below.refl B W).alloc (Nat.le_of_lt hlt) _).trans q3, fun k hk hB hne => (q4 k (by simp; omega) hB hne).trans (Below.heap_alloc W _ k hk)⟩)
  clear q1 q2 q3 q4
  go_wp2_with fail
  go_end0
  exact ⟨rfl, Q.out⟩
theorem bk_rat {W : World} {n1 : Bool} {B n : Nat} {hv : Value} {es : List (Value × Nat)} {a a' : Option Addr} {l c l' c' : Nat} (h : BookAt W B n hv) (hr : HRow W (B + 1) hv es) (hn : n ≤ 90000) (hl : es.length ≤ 90000) :
    Calls Tryz.prog 24 #[.pointer (some ⟨B, 0, none⟩), .agg #[.bool n1, .slice a l c, .slice a' l' c']] W fun e w' => e = .returned (.tuple #[]) ∧ ∃ hv', BookAt w' B (n + 2) hv' ∧ HRow w' (B + 1) hv' (es ++ [(.slice a l c, n + 1), (.slice a' l' c', n + 2)]) ∧ Below B W w' := by
  have hlt := h.lt
  have hr' : HRow (W.alloc (.cells #[.bool n1, .slice a l c, .slice a' l' c'] 27)) (B + 1) hv es := World.ownsRow.alloc hr _
  have K := Lib.hid (bk_int2 (n1 := n1) (a := a) (l := l) (c := c) (h.alloc (.cells #[.bool n1, .slice a l c, .slice a' l' c'] 27)) hr' (by omega) (by omega))
  have hX := BoxN.new W 27 #[.bool n1, .slice a l c, .slice a' l' c']
  have hO := Lib.hid (show hv.ownBlock ≠ some W.heap.size from fun e => by have := (World.ownsRow.lt hr _ e).2; omega)
  have z0 := hX.cell 0 _ rfl
  have z1 := hX.cell 1 _ rfl
  have HX := Lib.hid hX
  have HN := Lib.hid hn
  have HL := Lib.hid hl
  clear h hr hn hl hr' hX
  go_enter Tryz.func24, Tryz.ntmps24
  go_wp2_with fail
  go_at_call 32
  refine K.out.mono ?_
  rintro e w1 ⟨rfl, hv1, q1, q2, q3, q4⟩
  have hX1 : BoxN w1 W.heap.size 27 #[.bool n1, .slice a l c, .slice a' l' c'] := (q4 _ (by simp) (by omega) hO.out).trans HX.out
  have K2 := Lib.hid (bk_nat2 (a := a') (l := l') (c := c') q1 q2 (by have := HN.out; omega) (by have := HL.out; simp; omega))
  have Q3 := Lib.hid (show Below B W w1 from ((Below.refl B W).alloc (Nat.le_of_lt hlt) _).trans q3)
  clear q1 q2 q3 q4 z0 z1 HX K hO
  have z2 := hX1.cell 2 _ rfl
  clear hX1
  go_wp2_with fail
  go_at_call 74
  refine K2.out.mono ?_
  rintro e w2 ⟨rfl, hv2, q1, q2, q3, _⟩
  have Q := Lib.hid (show ∃ hv', BookAt w2 B (n + 2) hv' ∧ HRow w2 (B + 1) hv' (es ++ [(.slice a l c, n + 1), (.slice a' l' c', n + 2)]) ∧ Below B W w2 from ⟨hv2, q1, by rw [List.append_assoc] at q2; exact q2, Q3.out.trans q3⟩)
  clear q1 q2 q3 K2
  go_wp2_with fail
  go_end0
  exact ⟨rfl, Q.out⟩
set_option maxRecDepth 100000 in
set_option maxHeartbeats 2000000 in
theorem sameRat_same {w : World} {p1 o1 p2 o2 : Option Addr} {q1 r1 q2 r2 : Nat} {n : Bool} {l d : List Nat} (b1 : l.length ≤ 80000) (b2 : d.length ≤ 80000) (g1 : Reads w (.slice p1 l.length q1) l) (g2 : Reads w (.slice o1 d.length r1) d) (g3 : Reads w (.slice p2 l.length q2) l) (g4 : Reads w (.slice o2 d.length r2) d) :
    Calls Tryz.prog 19 #[.agg #[.bool n, .slice p1 l.length q1, .slice o1 d.length r1], .agg #[.bool n, .slice p2 l.length q2, .slice o2 d.length r2]] w fun e w' => e = .returned (.bool true) ∧ Below w.heap.size w w' := by
  have ki := fun (W : World) (g1 : Reads W (.slice p1 l.length q1) l) (g3 : Reads W (.slice p2 l.length q2) l) => sameInt_any (n1 := n) (n2 := n) (R := true) g1 g3 (by omega) (by omega) (by simp)
  have kn := fun (W : World) (g2 : Reads W (.slice o1 d.length r1) d) (g4 : Reads W (.slice o2 d.length r2) d) => same_lists g2 g4 (by omega)
  have M : Mem w [(w.heap.size + 1, 27, [.bool n, .slice p2 l.length q2, .slice o2 d.length r2]), (w.heap.size, 27, [.bool n, .slice p1 l.length q1, .slice o1 d.length r1])] [(.slice o2 d.length r2, d), (.slice p2 l.length q2, l), (.slice o1 d.length r1, d), (.slice p1 l.length q1, l)]
      ((w.alloc (.cells #[.bool n, .slice p1 l.length q1, .slice o1 d.length r1] 27)).alloc (.cells #[.bool n, .slice p2 l.length q2, .slice o2 d.length r2] 27)) := by
    have M := (((((Mem.start w).add g1).add g2).add g3).add g4).new 27 [.bool n, .slice p1 l.length q1, .slice o1 d.length r1] |>.new 27 [.bool n, .slice p2 l.length q2, .slice o2 d.length r2]
    simpa only [World.size_alloc] using M
  have KI := Lib.hid ki
  have KN := Lib.hid kn
  clear b1 b2 g1 g2 g3 g4 ki kn
  go_enter Tryz.func19, Tryz.ntmps19
  have z0 := M.cell 0 rfl 0 rfl; have z1 := M.cell 0 rfl 1 rfl; have z3 := M.cell 1 rfl 0 rfl; have z4 := M.cell 1 rfl 1 rfl
  go_wp2_with fail
  clear z0 z1 z3 z4
  refine (KI.out _ (M.get 3 rfl) (M.get 1 rfl)).mono ?_
  rintro e w1 ⟨rfl, rr⟩
  have M' := M.up rr; clear M rr; have M := M'; clear M'
  have z0 := M.cell 0 rfl 2 rfl; have z1 := M.cell 1 rfl 2 rfl
  go_wp2_with fail
  refine (KN.out _ (M.get 2 rfl) (M.get 0 rfl)).mono ?_
  rintro e w2 ⟨rfl, rr⟩
  have M' := M.up rr; clear M rr
  go_wp2_with fail
  go_ret
  exact ⟨rfl, M'.below⟩

end Go.Proofs.YthnlmjnfdokdbaaGreatDoor
