/- The document's answer for fractions: one, or 0. -/
import Derived.Test.YthnlmjnfdokdbaaGreatDoorGRrC
set_option linter.unusedSimpArgs false
set_option linter.unusedVariables false
set_option maxRecDepth 100000
set_option maxHeartbeats 8000000
namespace Go.Proofs.YthnlmjnfdokdbaaGreatDoor
open Go Go.Proofs Go.RowKit Go.Shelf Nu

attribute [local go_sem] Oper.semAt_some

section
variable {w : World} {p1 p2 : Option Addr} {q1 q2 : Nat} {n : Bool} {l d : List Nat}
theorem rr_fit_ok {s : Bool} {L D : List Nat} {X : Rat} (hX : RIs n l d X) (cX : RCan s L D X) (l1 : l.length ≤ 70000) (l2 : d.length ≤ 70000) (h1 : Reads w (.slice p1 l.length q1) l) (h2 : Reads w (.slice p2 d.length q2) d) (hc : rchk n l d = true) :
  Calls Tryz.prog 63 #[.agg #[.bool n, .slice p1 l.length q1, .slice p2 d.length q2]] w fun e w' => ∃ a c a' c', e = .returned (.agg #[.bool s, .slice a L.length c, .slice a' D.length c']) ∧ Reads w' (.slice a L.length c) L ∧ Reads w' (.slice a' D.length c') D ∧ Below w.heap.size w w' := by
 have kc := fun (W : World) (g1 : Reads W (.slice p1 l.length q1) l) (g2 : Reads W (.slice p2 d.length q2) d) => rr_check (n := n) g1 g2 hX.1 hX.2.1 l1 l2
 rw [hc] at kc
 obtain ⟨rfl, rfl, rfl⟩ := (hX.can hc).uniq cX
 have M : Mem w [(w.heap.size + 1, 27, [.bool false, .slice none 0 0, .slice none 0 0]), (w.heap.size, 27, [.bool n, .slice p1 l.length q1, .slice p2 d.length q2])] [(.slice p2 d.length q2, d), (.slice p1 l.length q1, l)] ((w.alloc (.cells #[.bool n, .slice p1 l.length q1, .slice p2 d.length q2] 27)).alloc (.cells #[.bool false, .slice none 0 0, .slice none 0 0] 27)) := by
  have M := (((((Mem.start w).add h1).add h2).new 27 [.bool n, .slice p1 l.length q1, .slice p2 d.length q2]).new 27 [.bool false, .slice none 0 0, .slice none 0 0])
  simpa only [World.size_alloc] using M
 clear hX cX l1 l2 h1 h2 hc
 go_enter Tryz.func63, Tryz.ntmps63
 have z1_0 := M.cell 1 rfl 0 rfl; have z1_1 := M.cell 1 rfl 1 rfl; have z1_2 := M.cell 1 rfl 2 rfl
 go_wp2_with fail
 go_at_call 37
 refine (kc _ (M.get 1 rfl) (M.get 0 rfl)).mono ?_
 rintro e w1 ⟨rfl, rr⟩
 have M' := M.up rr
 clear M rr kc z1_0 z1_1 z1_2
 have M := M'; clear M'
 have z0_0 := M.cell 0 rfl 0 rfl; have z0_1 := M.cell 0 rfl 1 rfl; have z0_2 := M.cell 0 rfl 2 rfl; have z1_0 := M.cell 1 rfl 0 rfl; have z1_1 := M.cell 1 rfl 1 rfl; have z1_2 := M.cell 1 rfl 2 rfl
 have f0_0 := M.fr 0 rfl 0; have f0_1 := M.fr 0 rfl 1; have f0_2 := M.fr 0 rfl 2
 go_wp2_with fail
 have M' := ((M.put 0 rfl rfl 0 (.bool n)).put 0 rfl rfl 1 (.slice p1 l.length q1)).put 0 rfl rfl 2 (.slice p2 d.length q2)
 refine ret_boxN rfl rfl (M'.box 0 rfl) Tryz.underlying27 size_rat rfl ?_
 exact ⟨p1, q1, p2, q2, rfl, M'.get 1 rfl, M'.get 0 rfl, M'.below⟩
theorem rr_fit_no {s : Bool} {L D : List Nat} {X : Rat} (hX : RIs n l d X) (cX : RCan s L D X) (l1 : l.length ≤ 70000) (l2 : d.length ≤ 70000) (h1 : Reads w (.slice p1 l.length q1) l) (h2 : Reads w (.slice p2 d.length q2) d) (hc : rchk n l d = false) :
  Calls Tryz.prog 63 #[.agg #[.bool n, .slice p1 l.length q1, .slice p2 d.length q2]] w fun e w' => ∃ a c a' c', e = .returned (.agg #[.bool s, .slice a L.length c, .slice a' D.length c']) ∧ Reads w' (.slice a L.length c) L ∧ Reads w' (.slice a' D.length c') D ∧ Below w.heap.size w w' := by
 have kc := fun (W : World) (g1 : Reads W (.slice p1 l.length q1) l) (g2 : Reads W (.slice p2 d.length q2) d) => rr_check (n := n) g1 g2 hX.1 hX.2.1 l1 l2
 rw [hc] at kc
 obtain rfl := hX.zero hc
 obtain ⟨rfl, rfl, rfl⟩ := rcan_zero cX
 have M : Mem w [(w.heap.size + 1, 27, [.bool false, .slice none 0 0, .slice none 0 0]), (w.heap.size, 27, [.bool n, .slice p1 l.length q1, .slice p2 d.length q2])] [(.slice p2 d.length q2, d), (.slice p1 l.length q1, l)] ((w.alloc (.cells #[.bool n, .slice p1 l.length q1, .slice p2 d.length q2] 27)).alloc (.cells #[.bool false, .slice none 0 0, .slice none 0 0] 27)) := by
  have M := (((((Mem.start w).add h1).add h2).new 27 [.bool n, .slice p1 l.length q1, .slice p2 d.length q2]).new 27 [.bool false, .slice none 0 0, .slice none 0 0])
  simpa only [World.size_alloc] using M
 clear hX cX l1 l2 h1 h2 hc
 rw [digs_one1]
 go_enter Tryz.func63, Tryz.ntmps63
 have z1_0 := M.cell 1 rfl 0 rfl; have z1_1 := M.cell 1 rfl 1 rfl; have z1_2 := M.cell 1 rfl 2 rfl
 go_wp2_with fail
 go_at_call 37
 refine (kc _ (M.get 1 rfl) (M.get 0 rfl)).mono ?_
 rintro e w1 ⟨rfl, rr⟩
 have M' := M.up rr
 clear M rr kc z1_0 z1_1 z1_2
 have M := M'; clear M'
 have M1 := ((M.put 0 rfl rfl 0 (.bool false)).put 0 rfl rfl 1 (.slice none 0 0)).put 0 rfl rfl 2 (.slice (some ⟨w1.heap.size, 0, none⟩) 1 1)
 have hf := lit_one (((w1.setCell ⟨w.heap.size + 1, 0, none⟩ (.bool false)).setCell ⟨w.heap.size + 1, 1, none⟩ (.slice none 0 0)).setCell ⟨w.heap.size + 1, 2, none⟩ (.slice (some ⟨w1.heap.size, 0, none⟩) 1 1))
 have hs3 : (((w1.setCell ⟨w.heap.size + 1, 0, none⟩ (.bool false)).setCell ⟨w.heap.size + 1, 1, none⟩ (.slice none 0 0)).setCell ⟨w.heap.size + 1, 2, none⟩ (.slice (some ⟨w1.heap.size, 0, none⟩) 1 1)).heap.size = w1.heap.size := by simp
 rw [hs3] at hf
 have M' := (M1.up ((Below.refl _ _).alloc (Nat.le_refl _) (.cells #[.int .u32 1] 64))).add hf
 have z0 := M.cell 0 rfl 0 rfl; have z1 := M.cell 0 rfl 1 rfl; have z2 := M.cell 0 rfl 2 rfl
 have f0 := M.fr 0 rfl 0; have f1 := M.fr 0 rfl 1; have f2 := M.fr 0 rfl 2
 have q0 := M.lt (k := 0) rfl
 clear M M1 hf hs3
 go_wp2_with fail
 refine ret_boxN rfl rfl (M'.box 0 rfl) Tryz.underlying27 size_rat rfl ?_
 exact ⟨none, 0, some ⟨w1.heap.size, 0, none⟩, 1, rfl, Reads.nil _, M'.get 0 rfl, M'.below⟩
theorem rr_fit {s : Bool} {L D : List Nat} {X : Rat} (hX : RIs n l d X) (cX : RCan s L D X) (l1 : l.length ≤ 70000) (l2 : d.length ≤ 70000) (h1 : Reads w (.slice p1 l.length q1) l) (h2 : Reads w (.slice p2 d.length q2) d) :
  Calls Tryz.prog 63 #[.agg #[.bool n, .slice p1 l.length q1, .slice p2 d.length q2]] w fun e w' => ∃ a c a' c', e = .returned (.agg #[.bool s, .slice a L.length c, .slice a' D.length c']) ∧ Reads w' (.slice a L.length c) L ∧ Reads w' (.slice a' D.length c') D ∧ Below w.heap.size w w' := by
 cases hc : rchk n l d with
 | true => exact rr_fit_ok hX cX l1 l2 h1 h2 hc
 | false => exact rr_fit_no hX cX l1 l2 h1 h2 hc
end

end Go.Proofs.YthnlmjnfdokdbaaGreatDoor
