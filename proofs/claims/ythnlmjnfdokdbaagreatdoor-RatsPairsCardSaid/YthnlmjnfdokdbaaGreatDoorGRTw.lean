/- Fractions copied, looked at again; by another one that may not be. -/
import Derived.Test.YthnlmjnfdokdbaaGreatDoorGBookR
import Derived.Test.YthnlmjnfdokdbaaGreatDoorGMemO
import Derived.Test.YthnlmjnfdokdbaaGreatDoorGRatLit
set_option linter.unusedSimpArgs false
set_option linter.unusedVariables false
set_option maxRecDepth 100000
set_option maxHeartbeats 8000000
namespace Go.Proofs.YthnlmjnfdokdbaaGreatDoor
open Go Go.Proofs Go.RowKit Go.Shelf Nu

attribute [local go_sem] Oper.semAt_some

theorem rtwin_own {w : World} {p1 o1 : Option Addr} {q1 r1 : Nat} {n : Bool} {l d : List Nat} (b1 : l.length ≤ 100000) (b2 : d.length ≤ 100000) (h1 : Reads w (.slice p1 l.length q1) l) (h2 : Reads w (.slice o1 d.length r1) d) :
  Calls Tryz.prog 9 #[.agg #[.bool n, .slice p1 l.length q1, .slice o1 d.length r1]] w fun e w' => ∃ g1 c1 g2 c2, e = .returned (.agg #[.bool n, .slice (some ⟨g1, 0, none⟩) l.length c1, .slice (some ⟨g2, 0, none⟩) d.length c2]) ∧ Tw w' w.heap.size g1 c1 l ∧ Tw w' w.heap.size g2 c2 d ∧ Below w.heap.size w w' ∧ Two (.slice (some ⟨g1, 0, none⟩) l.length c1) (.slice (some ⟨g2, 0, none⟩) d.length c2) := by
 have M : Mem w [(w.heap.size + 1, 27, [.bool false, .slice none 0 0, .slice none 0 0]), (w.heap.size, 27, [.bool n, .slice p1 l.length q1, .slice o1 d.length r1])] [(.slice o1 d.length r1, d), (.slice p1 l.length q1, l)] ((w.alloc (.cells #[.bool n, .slice p1 l.length q1, .slice o1 d.length r1] 27)).alloc (.cells #[.bool false, .slice none 0 0, .slice none 0 0] 27)) := by
  have M := (((((Mem.start w).add h1).add h2).new 27 [.bool n, .slice p1 l.length q1, .slice o1 d.length r1]).new 27 [.bool false, .slice none 0 0, .slice none 0 0])
  simpa only [World.size_alloc] using M
 have M := MemO.of (n := 2) M
 clear h1 h2
 go_enter Tryz.func9, Tryz.ntmps9
 go_wp2
 refine region_memO (S := (fun W => BoxN W (w.heap.size) 27 #[.bool n, .slice p1 l.length q1, .slice o1 d.length r1])) M (by kernel_rfl) ?_
 intro V0 M
 have hS0 : (fun W => BoxN W (w.heap.size) 27 #[.bool n, .slice p1 l.length q1, .slice o1 d.length r1]) V0 := M.box 1 rfl
 refine wpAnyH_take (i := 0) (oi := ⟨_, _, _, _, _, _⟩) (v := (.pointer (some ⟨w.heap.size, 0, none⟩))) rfl (by kernel_rfl) (by kernel_rfl) (by kernel_rfl) (fun _ _ _ h => h) (Or.inl ⟨by rfl, fun W3 hS => by go_simp⟩) hS0 ?_
 try simp only [Act.put, List.setIfInBounds_toArray, List.set_cons_zero, List.set_cons_succ]
 refine wpAnyH_take (i := 1) (oi := ⟨_, _, _, _, _, _⟩) (v := (.agg #[.bool n, .slice p1 l.length q1])) rfl (by kernel_rfl) (by kernel_rfl) (by kernel_rfl) (fun _ _ _ h => h) (Or.inl ⟨by rfl, fun W3 hS => by have hS1 := hS; have c1_0 := hS1.cell 0 _ rfl; have c1_1 := hS1.cell 1 _ rfl; have c1_2 := hS1.cell 2 _ rfl; go_simp⟩) hS0 ?_
 try simp only [Act.put, List.setIfInBounds_toArray, List.set_cons_zero, List.set_cons_succ]
 refine wpAnyH_take (i := 3) (oi := ⟨_, _, _, _, _, _⟩) (v := (.pointer (some ⟨w.heap.size, 2, none⟩))) rfl (by kernel_rfl) (by kernel_rfl) (by kernel_rfl) (fun _ _ _ h => h) (Or.inl ⟨by rfl, fun W3 hS => by go_simp⟩) hS0 ?_
 try simp only [Act.put, List.setIfInBounds_toArray, List.set_cons_zero, List.set_cons_succ]
 refine wpAnyH_take (i := 4) (oi := ⟨_, _, _, _, _, _⟩) (v := (.slice o1 d.length r1)) rfl (by kernel_rfl) (by kernel_rfl) (by kernel_rfl) (fun _ _ _ h => h) (Or.inl ⟨by rfl, fun W3 hS => by have hS1 := hS; have c1_0 := hS1.cell 0 _ rfl; have c1_1 := hS1.cell 1 _ rfl; have c1_2 := hS1.cell 2 _ rfl; go_simp⟩) hS0 ?_
 try simp only [Act.put, List.setIfInBounds_toArray, List.set_cons_zero, List.set_cons_succ]
 clear hS0
 refine wpAnyH_all (rs := [2]) (by kernel_rfl) (by simp) ?_
 intro i hi
 obtain rfl : i = 2 := by simpa using hi
 refine wpOp_intro rfl (fun K1 hK => ?_)
 clear hi
 go_simp
 refine (itwin_own (n1 := n) (M.get 1 rfl) b1).mono ?_
 rintro e V1_2 ⟨g1, c1, rfl, g, rr⟩
 have M' := M.upadd rr g
 clear M rr g
 have M := M'; clear M'
 refine hK _ _ ⟨M.box 1 rfl, ?_⟩
 clear hK K1
 refine wpAnyH_all (rs := [5]) (by kernel_rfl) (by simp) ?_
 intro i hi
 obtain rfl : i = 5 := by simpa using hi
 refine wpOp_intro rfl (fun K2 hK => ?_)
 clear hi
 go_simp
 refine (twin_own (M.get 1 rfl) b2).mono ?_
 rintro e V2_5 ⟨g2, c2, rfl, g, rr⟩
 have M' := M.upadd rr g
 clear M rr g
 have M := M'; clear M'
 refine hK _ _ ⟨M.box 1 rfl, ?_⟩
 clear hK K2
 have hS0 : (fun W => BoxN W (w.heap.size) 27 #[.bool n, .slice p1 l.length q1, .slice o1 d.length r1]) _ := M.box 1 rfl
 refine wpAnyH_take (i := 6) (oi := ⟨_, _, _, _, _, _⟩) (v := (.agg #[.bool n, .slice (some ⟨g1, 0, none⟩) l.length c1, .slice (some ⟨g2, 0, none⟩) d.length c2])) rfl (by kernel_rfl) (by kernel_rfl) (by kernel_rfl) (fun _ _ _ h => h) (Or.inl ⟨by rfl, fun W3 hS => by go_simp⟩) hS0 ?_
 try simp only [Act.put, List.setIfInBounds_toArray, List.set_cons_zero, List.set_cons_succ]
 clear hS0
 have f0_0 := M.fr 0 rfl 0; have f0_1 := M.fr 0 rfl 1; have f0_2 := M.fr 0 rfl 2
 have z0_0 := M.cell 0 rfl 0 rfl; have z0_1 := M.cell 0 rfl 1 rfl; have z0_2 := M.cell 0 rfl 2 rfl
 refine wpAnyH_all (rs := [7]) (by kernel_rfl) (by simp) ?_
 intro i hi
 obtain rfl : i = 7 := by simpa using hi
 refine wpOp_intro rfl (fun Ks3 hK => ?_)
 clear hi
 go_simp
 have M' := (((M.put 0 rfl rfl 0 (.bool n)).put 0 rfl rfl 1 (.slice (some ⟨g1, 0, none⟩) l.length c1)).put 0 rfl rfl 2 (.slice (some ⟨g2, 0, none⟩) d.length c2))
 clear M f0_0 z0_0 f0_1 z0_1 f0_2 z0_2
 have M : MemO 2 w [(w.heap.size + 1, 27, [.bool n, .slice (some ⟨g1, 0, none⟩) l.length c1, .slice (some ⟨g2, 0, none⟩) d.length c2]), (w.heap.size, 27, [.bool n, .slice p1 l.length q1, .slice o1 d.length r1])] [(.slice (some ⟨g2, 0, none⟩) (d.length + 1) c2, (d ++ [77])), (.slice (some ⟨g1, 0, none⟩) (l.length + 1) c1, (l ++ [77])), (.slice o1 d.length r1, d), (.slice p1 l.length q1, l)] _ := M'
 clear M'
 refine hK _ _ ⟨M.box 1 rfl, ?_⟩
 clear hK Ks3
 refine wpAnyH_done (by kernel_rfl) ?_ _
 go_wp2
 refine ret_boxN rfl rfl (M.box 0 rfl) Tryz.underlying27 size_rat rfl ?_
 exact ⟨g1, c1, g2, c2, rfl, M.own 1 rfl, M.own 0 rfl, M.below, (M.two 0 1 rfl rfl).symm⟩
theorem rleft_any {w : World} {base base2 g1 c1 g2 c2 : Nat} {p1 o1 : Option Addr} {q1 r1 : Nat} {n : Bool} {l d : List Nat} (b1 : l.length ≤ 100000) (b2 : d.length ≤ 100000) (t1 : Tw w base g1 c1 l) (t2 : Tw w base2 g2 c2 d) (h1 : Reads w (.slice p1 l.length q1) l) (h2 : Reads w (.slice o1 d.length r1) d) :
  Calls Tryz.prog 23 #[.agg #[.bool n, .slice (some ⟨g1, 0, none⟩) l.length c1, .slice (some ⟨g2, 0, none⟩) d.length c2], .agg #[.bool n, .slice p1 l.length q1, .slice o1 d.length r1]] w fun e w' => e = .returned (.bool true) ∧ Below w.heap.size w w' := by
 have K1 := Lib.hid (fun (W : World) (hW : Below w.heap.size w W) => ileft_any (n1 := n) (t1.below hW) (h1.below hW) b1)
 have K2 := Lib.hid (fun (W : World) (hW : Below w.heap.size w W) => left_any (t2.below hW) (h2.below hW) b2)
 have M : Mem w [(w.heap.size + 1, 27, [.bool n, .slice p1 l.length q1, .slice o1 d.length r1]), (w.heap.size, 27, [.bool n, .slice (some ⟨g1, 0, none⟩) l.length c1, .slice (some ⟨g2, 0, none⟩) d.length c2])] [(.slice o1 d.length r1, d), (.slice p1 l.length q1, l)] ((w.alloc (.cells #[.bool n, .slice (some ⟨g1, 0, none⟩) l.length c1, .slice (some ⟨g2, 0, none⟩) d.length c2] 27)).alloc (.cells #[.bool n, .slice p1 l.length q1, .slice o1 d.length r1] 27)) := by
  have M := (((((Mem.start w).add h1).add h2).new 27 [.bool n, .slice (some ⟨g1, 0, none⟩) l.length c1, .slice (some ⟨g2, 0, none⟩) d.length c2]).new 27 [.bool n, .slice p1 l.length q1, .slice o1 d.length r1])
  simpa only [World.size_alloc] using M
 clear h1 h2 t1 t2
 go_enter Tryz.func23, Tryz.ntmps23
 have z0_0 := M.cell 0 rfl 0 rfl; have z0_1 := M.cell 0 rfl 1 rfl; have z0_2 := M.cell 0 rfl 2 rfl; have z1_0 := M.cell 1 rfl 0 rfl; have z1_1 := M.cell 1 rfl 1 rfl; have z1_2 := M.cell 1 rfl 2 rfl
 go_wp2_with fail
 clear z0_0 z0_1 z0_2 z1_0 z1_1 z1_2
 refine (K1.out _ M.below).mono ?_
 rintro e w1 ⟨rfl, rr⟩
 have M' := M.up rr; clear M rr; have M := M'; clear M'
 have z0_0 := M.cell 0 rfl 0 rfl; have z0_1 := M.cell 0 rfl 1 rfl; have z0_2 := M.cell 0 rfl 2 rfl; have z1_0 := M.cell 1 rfl 0 rfl; have z1_1 := M.cell 1 rfl 1 rfl; have z1_2 := M.cell 1 rfl 2 rfl
 go_wp2_with fail
 refine (K2.out _ M.below).mono ?_
 rintro e w2 ⟨rfl, rr⟩
 have M' := M.up rr; clear M rr
 go_wp2_with fail
 go_ret
 exact ⟨rfl, M'.below⟩

end Go.Proofs.YthnlmjnfdokdbaaGreatDoor
