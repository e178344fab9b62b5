/- How often a number goes into another one, and what is left, of any two. Two numbers made less, with the same greatest common divisor. The greatest .. -/
import Derived.Deep.RegionHeld3
import Derived.Deep.LoopGhost
import Derived.Laws.ResultCell
import Derived.Test.YtgmbaamfobhceaaGreatGLong
import Derived.Test.YtgmbaamfobhceaaGreatGDiv
import Derived.Test.YtgmbaamfobhceaaGreatGInts
import Derived.Test.YtgmbaamfobhceaaGreatGSteps
import Derived.Test.YtgmbaamfobhceaaGreatGBlend
import Derived.Test.YtgmbaamfobhceaaGreatGCmp
import Derived.Test.YtgmbaamfobhceaaGreatGPart
import Derived.Test.YtgmbaamfobhceaaGreatGMathG
set_option linter.unusedSimpArgs false
set_option linter.unusedVariables false
set_option maxRecDepth 100000
set_option maxHeartbeats 8000000
namespace Go.Proofs.YtgmbaamfobhceaaGreat
section
open Go Go.Proofs Go.RowKit Go.Shelf Nu
theorem divide_long_own {w : World} {va vb : Value} {la lb : List Nat} (ha : Reads w va la) (hb : Reads w vb lb) (hla : la.length ≤ 80000) (hlb : lb.length ≤ 80000) (hsa : Sm la) (hsb : Sm lb) (hca : chk la = true) (hcb : chk lb = true) (h2 : 2 ≤ lb.length) (h : val lb ≤ val la) :
  Calls Tryz.prog 114 #[va, vb] w fun e w' => ∃ v1 v2, e = .returned (.tuple #[v1, v2]) ∧ Fresh w' w.heap.size v1 (digs (val la / val lb)) ∧ Fresh w' w.heap.size v2 (digs (val la % val lb)) ∧ Below w.heap.size w w' ∧ Two v1 v2 := by
 have hle : lb.length ≤ la.length := by
  rcases Nat.lt_or_ge la.length lb.length with h1 | h1
  · have := le_of_length_lt hsa hsb hcb h1; omega
  · exact h1
 have kc := cmp_any ha hb (by omega) (by omega) hsa hsb
 have hz : ¬ (sgn (val la) (val lb)) < 0 := by simp [sgn]; split <;> (try split) <;> omega
 rw [nv_chk hca, nv_chk hcb] at kc
 obtain ⟨z, hz1⟩ : ∃ z, z = sgn (val la) (val lb) := ⟨_, rfl⟩
 rw [← hz1] at kc hz
 have kd : ∀ W, Below w.heap.size w W → _ := fun W hW => divLong_own (ha.below hW) (hb.below hW) hla hlb hsa hsb hcb h2 hle
 obtain ⟨a1, c1, rfl⟩ := ha.form
 obtain ⟨b1, d1, rfl⟩ := hb.form
 have hm : ((lb.length : Int) == 1) = false := by simp; omega
 clear ha hb hz1 h hle h2 hca hcb
 go_enter Tryz.func114, Tryz.ntmps114
 go_wp2_with (first
  | (go_at_call 108; refine kc.mono ?_; rintro e w1 ⟨rfl, hb1⟩)
  | (go_at_call 149; refine (kd _ hb1).mono ?_; rintro e w2 ⟨v1, v2, rfl, f1, f2, hb2, h12⟩))
 go_ret2
 exact ⟨v1, v2, rfl, f1.mono hb1.size, f2.mono hb1.size, then_below hb1 hb2, h12⟩
theorem divide_own {w : World} {va vb : Value} {la lb : List Nat} (ha : Reads w va la) (hb : Reads w vb lb) (hla : la.length ≤ 80000) (hlb : lb.length ≤ 80000) (hsa : Sm la) (hsb : Sm lb) (hca : chk la = true) (hcb : chk lb = true) (h0 : lb ≠ []) :
   Calls Tryz.prog 114 #[va, vb] w fun e w' => ∃ v1 v2, e = .returned (.tuple #[v1, v2]) ∧ Fresh w' w.heap.size v1 (digs (val la / val lb)) ∧ Fresh w' w.heap.size v2 (digs (val la % val lb)) ∧ Below w.heap.size w w' ∧ Two v1 v2 := by
 rcases Nat.lt_or_ge (val la) (val lb) with h | h
 · refine (divide_less ha hb (by omega) (by omega) hsa hsb hca hcb h).mono ?_
   rintro e w' ⟨v, rfl, f, hb⟩
   refine ⟨_, v, rfl, ?_, ?_, hb, .inl rfl⟩
   · rw [Nat.div_eq_of_lt h, digs_zero]; exact Fresh.nil _ _
   · rw [Nat.mod_eq_of_lt h, digs_val hsa hca]; exact f
 · cases lb with
   | nil => exact absurd rfl h0
   | cons d t =>
     cases t with
     | nil =>
      have hd : 0 < d := by
       have : chk [d] = (d != 0) := by simp [chk]
       rw [this] at hcb; simp at hcb; omega
      have := divide_one_own ha hb (by omega) hsa hca hd hsb.head (by rw [val_one] at h; exact h)
      rw [val_one]; exact this
     | cons d2 t => exact divide_long_own ha hb hla hlb hsa hsb hca hcb (by simp) h
theorem divide_any {w : World} {va vb : Value} {la lb : List Nat} (ha : Reads w va la) (hb : Reads w vb lb) (hla : la.length ≤ 80000) (hlb : lb.length ≤ 80000) (hsa : Sm la) (hsb : Sm lb) (hca : chk la = true) (hcb : chk lb = true) (h0 : lb ≠ []) :
  Calls Tryz.prog 114 #[va, vb] w fun e w' => ∃ v1 v2, e = .returned (.tuple #[v1, v2]) ∧ Fresh w' w.heap.size v1 (digs (val la / val lb)) ∧ Fresh w' w.heap.size v2 (digs (val la % val lb)) ∧ Below w.heap.size w w' :=
 (divide_own ha hb hla hlb hsa hsb hca hcb h0).mono fun _ _ ⟨v1, v2, e, f, g, b, _⟩ => ⟨v1, v2, e, f, g, b⟩
section
variable {w : World} {p1 p2 : Option Addr} {q1 q2 A B : Nat}
theorem d_divide (Q R : Nat) (h1 : Reads w (.slice p1 (digs A).length q1) (digs A)) (h2 : Reads w (.slice p2 (digs B).length q2) (digs B)) (l1 : (digs A).length ≤ 80000) (l2 : (digs B).length ≤ 80000) (h0 : B ≠ 0) (eQ : Q = A / B) (eR : R = A % B) :
  Calls Tryz.prog 114 #[.slice p1 (digs A).length q1, .slice p2 (digs B).length q2] w fun e w' => ∃ a c b d, e = .returned (.tuple #[.slice a (digs Q).length c, .slice b (digs R).length d]) ∧ Reads w' (.slice a (digs Q).length c) (digs Q) ∧ Reads w' (.slice b (digs R).length d) (digs R) ∧ Below w.heap.size w w' := by
 subst eQ eR
 have k := divide_any h1 h2 l1 l2 (sm_digs _) (sm_digs _) (chk_digs _) (chk_digs _) (fun e => h0 (digs_eq_nil.1 e))
 rw [val_digs, val_digs] at k
 refine k.mono ?_
 rintro e w' ⟨v1, v2, rfl, f, g, hb⟩
 obtain ⟨a, c, rfl⟩ := f.reads.form
 obtain ⟨b, d, rfl⟩ := g.reads.form
 exact ⟨a, c, b, d, rfl, f.reads, g.reads, hb⟩
theorem d_quo (Q R : Nat) (h1 : Reads w (.slice p1 (digs A).length q1) (digs A)) (h2 : Reads w (.slice p2 (digs B).length q2) (digs B)) (l1 : (digs A).length ≤ 80000) (l2 : (digs B).length ≤ 80000) (h0 : B ≠ 0) (eQ : Q = A / B) (eR : R = A % B) :
  Calls Tryz.prog 142 #[.slice p1 (digs A).length q1, .slice p2 (digs B).length q2] w fun e w' => ∃ a c b d, e = .returned (.tuple #[.slice a (digs Q).length c, .slice b (digs R).length d, .int .i64 0]) ∧ Reads w' (.slice a (digs Q).length c) (digs Q) ∧ Reads w' (.slice b (digs R).length d) (digs R) ∧ Below w.heap.size w w' := by
 subst eQ eR
 have k := divide_any h1 h2 l1 l2 (sm_digs _) (sm_digs _) (chk_digs _) (chk_digs _) (fun e => h0 (digs_eq_nil.1 e))
 rw [val_digs, val_digs] at k
 refine (div_of h1 h2 (by omega) (by omega) (chk_digs _) (chk_digs _) (fun e => h0 (digs_eq_nil.1 e)) k).mono ?_
 rintro e w' ⟨v1, v2, rfl, f, g, hb⟩
 obtain ⟨a, c, rfl⟩ := f.reads.form
 obtain ⟨b, d, rfl⟩ := g.reads.form
 exact ⟨a, c, b, d, rfl, f.reads, g.reads, hb⟩
end
end
section
open Go Go.Proofs Go.RowKit Go.Shelf Nu
attribute [local go_sem] Oper.semAt_some
section
variable {w : World} {p1 p2 : Option Addr} {q1 q2 A B : Nat}
theorem d_blend (N t u : Nat) (h1 : Reads w (.slice p1 (digs A).length q1) (digs A)) (h2 : Reads w (.slice p2 (digs B).length q2) (digs B)) (l1 : (digs A).length ≤ 100000) (l2 : (digs B).length ≤ 100000) (ht : t < 4294967296) (hu : u < 4294967296) (e : N + u * B = t * A) (hN : N ≤ A ∨ N ≤ B) :
  Calls Tryz.prog 147 #[.slice p1 (digs A).length q1, .slice p2 (digs B).length q2, .int .u32 t, .int .u32 u] w fun e w' => ∃ a c, e = .returned (.slice a (digs N).length c) ∧ Reads w' (.slice a (digs N).length c) (digs N) ∧ Below w.heap.size w w' := by
 have eN : t * A - u * B = N := by omega
 have k := blend_any h1 h2 l1 l2 (sm_digs _) (sm_digs _) t u ht hu (by rw [val_digs, val_digs]; omega) (by
  rw [val_digs, val_digs, eN]
  rcases hN with h | h
  · exact Nat.lt_of_lt_of_le (Nat.lt_of_le_of_lt h (digs_lt A)) (Nat.pow_le_pow_right (by decide) (by omega))
  · exact Nat.lt_of_lt_of_le (Nat.lt_of_le_of_lt h (digs_lt B)) (Nat.pow_le_pow_right (by decide) (by omega)))
 rw [val_digs, val_digs, eN] at k
 refine k.mono ?_
 rintro e w' ⟨v, rfl, f, hb⟩
 obtain ⟨a, c, rfl⟩ := f.reads.form
 exact ⟨a, c, rfl, f.reads, hb⟩
end
def LessAns (A B : Nat) (w : World) (e : Ending) (w' : World) : Prop :=
 ∃ (X Y : Nat) (a : Option Addr) (c : Nat) (b : Option Addr) (d : Nat), e = .returned (.tuple #[.slice a (digs X).length c, .slice b (digs Y).length d]) ∧ Reads w' (.slice a (digs X).length c) (digs X) ∧ Reads w' (.slice b (digs Y).length d) (digs Y) ∧
  Y < B ∧ Y ≤ X ∧ X ≤ A ∧ Nat.gcd X Y = Nat.gcd A B ∧ Below w.heap.size w w'
theorem less_cases {x y u0 u1 v0 v1 : Nat} {ev : Bool} (hm : v0 = 0 ∨ Made x y u0 u1 v0 v1 ev) : (((v0 : Int) == 0) = true ∧ Hid (v0 = 0)) ∨ (((v0 : Int) == 0) = false ∧ ev = true ∧ Hid (Made x y u0 u1 v0 v1 true)) ∨ (((v0 : Int) == 0) = false ∧ ev = false ∧ Hid (Made x y u0 u1 v0 v1 false)) := by
 by_cases h : v0 = 0
 · exact .inl ⟨by rw [h]; rfl, Lib.hid h⟩
 · have e : ((v0 : Int) == 0) = false := beq_false_of_ne (by omega)
   have hM := hm.resolve_left h
   cases ev
   · exact .inr (.inr ⟨e, rfl, Lib.hid hM⟩)
   · exact .inr (.inl ⟨e, rfl, Lib.hid hM⟩)
theorem lessen_any {w : World} {p1 p2 : Option Addr} {q1 q2 A B : Nat} (ga : Reads w (.slice p1 (digs A).length q1) (digs A)) (gb : Reads w (.slice p2 (digs B).length q2) (digs B)) (l1 : (digs A).length ≤ 80000) (l2 : 2 < (digs B).length) (hle : B ≤ A) :
   Calls Tryz.prog 111 #[.slice p1 (digs A).length q1, .slice p2 (digs B).length q2] w (LessAns A B w) := by
 have hlb := digs_mono hle
 obtain ⟨n, hn⟩ : ∃ n, (digs A).length = n + 3 := ⟨(digs A).length - 3, by omega⟩
 have hB0 : B ≠ 0 := by rintro rfl; rw [digs_zero] at l2; simp at l2
 have kh := heads_any (n := n) ga gb hn (by omega) (by omega) (sm_digs _) (sm_digs _) (chk_digs _) (by rw [val_digs, val_digs]; exact hle)
 rw [val_digs, val_digs] at kh
 have kd := fun (W : World) (h1 : Reads W (.slice p1 (digs A).length q1) (digs A)) (h2 : Reads W (.slice p2 (digs B).length q2) (digs B)) => d_divide (A / B) (A % B) h1 h2 l1 (by omega) hB0 rfl rfl
 have ke := fun (N t u : Nat) (ht : t < 4294967296) (hu : u < 4294967296) (e : N + u * B = t * A) (hN : N ≤ B) (W : World) (h1 : Reads W (.slice p1 (digs A).length q1) (digs A)) (h2 : Reads W (.slice p2 (digs B).length q2) (digs B)) => d_blend N t u h1 h2 (by omega) (by omega) ht hu e (.inr hN)
 have kf := fun (N t u : Nat) (ht : t < 4294967296) (hu : u < 4294967296) (e : N + u * A = t * B) (hN : N ≤ B) (W : World) (h1 : Reads W (.slice p2 (digs B).length q2) (digs B)) (h2 : Reads W (.slice p1 (digs A).length q1) (digs A)) => d_blend N t u h1 h2 (by omega) (by omega) ht hu e (.inl hN)
 have HH := Lib.hid (show B ≤ A ∧ B ≠ 0 from ⟨hle, hB0⟩)
 have r0 := Below.refl w.heap.size w
 clear hlb hn hle hB0 l1 l2
 go_enter Tryz.func111, Tryz.ntmps111
 go_wp2_with (first
   | (go_at_call 146; refine kh.mono ?_; clear kh; rintro e w' ⟨s, x, y, rfl, hx, hy, hyx, hx64, rfl⟩; have hd1 := hd_heads A n s; have hd2 := hd_heads B n s; rw [← hx] at hd1; rw [← hy] at hd2; have HD := Lib.hid (And.intro hd1 hd2); clear hx hy hd1 hd2)
   | (go_at_call 145; refine (stepsOf_any hx64 hyx).mono ?_; rintro e w1 ⟨u0, v0, u1, v1, ev, rfl, b1, b2, b3, b4, hm, rr⟩; replace ga := ga.below rr; replace gb := gb.below rr; replace r0 := then_below r0 rr; clear rr; have al := (Below.refl w1.heap.size w1).alloc (Nat.le_refl _) (.cells #[.int .u32 u0, .int .u32 v0, .int .u32 u1, .int .u32 v1, .bool ev] 158); replace ga := ga.below al; replace gb := gb.below al; replace r0 := then_below r0 al; clear al; have BX := BoxN.new w1 158 #[.int .u32 u0, .int .u32 v0, .int .u32 u1, .int .u32 v1, .bool ev]; rcases less_cases hm with ⟨ht, h0⟩ | ⟨ht, rfl, hM⟩ | ⟨ht, rfl, hM⟩ <;> clear hm)
   | (go_at_call 114; with_reducible refine (kd _ ga gb).mono ?_; rintro e w2 ⟨x2, y2, x3, y3, rfl, gq, gr, rr⟩; replace gb := gb.below rr; replace r0 := then_below r0 rr; clear rr))
 · go_ret2
   refine ⟨B, A % B, _, _, _, _, rfl, gb, gr, Nat.mod_lt _ (Nat.pos_of_ne_zero HH.out.2), Nat.le_of_lt (Nat.mod_lt _ (Nat.pos_of_ne_zero HH.out.2)), HH.out.1, ?_, r0⟩
   rw [Nat.gcd_comm B, ← Nat.gcd_rec, Nat.gcd_comm]
 · have hd := HD.out
   obtain ⟨X, Y, he, h1, h2, h3⟩ := hM.out A B _ hd.1.1 hd.1.2 hd.2.1 hd.2.2
   simp only [if_true] at he
   have k1 := ke X u0 v0 b1 b2 he.1 h2
   have k2 := kf Y v1 u1 b4 b3 he.2 (by omega)
   have HF := Lib.hid (show Y < B ∧ Y ≤ X ∧ X ≤ A ∧ Nat.gcd X Y = Nat.gcd A B from ⟨by omega, by omega, Nat.le_trans h2 HH.out.1, h3⟩)
   clear hd he h1 h2 h3 ke kf kd
   have rd : Below (w1.alloc (.cells #[.int .u32 u0, .int .u32 v0, .int .u32 u1, .int .u32 v1, .bool true] 158)).heap.size (w1.alloc (.cells #[.int .u32 u0, .int .u32 v0, .int .u32 u1, .int .u32 v1, .bool true] 158)) (w1.alloc (.cells #[.int .u32 u0, .int .u32 v0, .int .u32 u1, .int .u32 v1, .bool true] 158)).drew := ⟨rfl, rfl, rfl, Nat.le_refl _, fun _ _ => rfl⟩
   replace ga := ga.below rd; replace gb := gb.below rd; replace BX := BX.below rd; replace r0 := then_below r0 rd
   clear rd
   go_region_held3 (fun W => W.cell? ⟨w1.heap.size, 0, none⟩ = some (.int .u32 u0) ∧ W.cell? ⟨w1.heap.size, 1, none⟩ = some (.int .u32 v0) ∧ W.cell? ⟨w1.heap.size, 2, none⟩ = some (.int .u32 u1) ∧ W.cell? ⟨w1.heap.size, 3, none⟩ = some (.int .u32 v1) ∧ W.cell? ⟨w1.heap.size, 4, none⟩ = some (.bool true)) (exact ⟨BX.cell 0 _ rfl, BX.cell 1 _ rfl, BX.cell 2 _ rfl, BX.cell 3 _ rfl, BX.cell 4 _ rfl⟩) (first
    | (go_at_call 147; with_reducible refine (k1 _ ga gb).mono ?_; rintro e w2 ⟨x2, y2, rfl, gX, rr⟩; replace ga := ga.below rr; replace gb := gb.below rr; replace BX := BX.below rr; replace r0 := then_below r0 rr; clear rr)
    | (go_at_call 147; with_reducible refine (k2 w2 gb ga).mono ?_; rintro e w3 ⟨x3, y3, rfl, gY, rr⟩; replace gX := gX.below rr; replace BX := BX.below rr; replace r0 := then_below r0 rr; clear rr))
   all_goals
    go_wp2
    go_ret2
    exact ⟨X, Y, _, _, _, _, rfl, gX, gY, HF.out.1, HF.out.2.1, HF.out.2.2.1, HF.out.2.2.2, r0⟩
 · have hd := HD.out
   obtain ⟨X, Y, he, h1, h2, h3⟩ := hM.out A B _ hd.1.1 hd.1.2 hd.2.1 hd.2.2
   simp only [Bool.false_eq_true, if_false] at he
   have k1 := kf X v0 u0 b2 b1 he.1 h2
   have k2 := ke Y u1 v1 b3 b4 he.2 (by omega)
   have HF := Lib.hid (show Y < B ∧ Y ≤ X ∧ X ≤ A ∧ Nat.gcd X Y = Nat.gcd A B from ⟨by omega, by omega, Nat.le_trans h2 HH.out.1, h3⟩)
   clear hd he h1 h2 h3 ke kf kd
   have rd : Below (w1.alloc (.cells #[.int .u32 u0, .int .u32 v0, .int .u32 u1, .int .u32 v1, .bool false] 158)).heap.size (w1.alloc (.cells #[.int .u32 u0, .int .u32 v0, .int .u32 u1, .int .u32 v1, .bool false] 158)) (w1.alloc (.cells #[.int .u32 u0, .int .u32 v0, .int .u32 u1, .int .u32 v1, .bool false] 158)).drew := ⟨rfl, rfl, rfl, Nat.le_refl _, fun _ _ => rfl⟩
   replace ga := ga.below rd; replace gb := gb.below rd; replace BX := BX.below rd; replace r0 := then_below r0 rd
   clear rd
   go_region_held3 (fun W => W.cell? ⟨w1.heap.size, 0, none⟩ = some (.int .u32 u0) ∧ W.cell? ⟨w1.heap.size, 1, none⟩ = some (.int .u32 v0) ∧ W.cell? ⟨w1.heap.size, 2, none⟩ = some (.int .u32 u1) ∧ W.cell? ⟨w1.heap.size, 3, none⟩ = some (.int .u32 v1) ∧ W.cell? ⟨w1.heap.size, 4, none⟩ = some (.bool false)) (exact ⟨BX.cell 0 _ rfl, BX.cell 1 _ rfl, BX.cell 2 _ rfl, BX.cell 3 _ rfl, BX.cell 4 _ rfl⟩) (first
    | (go_at_call 147; with_reducible refine (k1 _ gb ga).mono ?_; rintro e w2 ⟨x2, y2, rfl, gX, rr⟩; replace ga := ga.below rr; replace gb := gb.below rr; replace BX := BX.below rr; replace r0 := then_below r0 rr; clear rr)
    | (go_at_call 147; with_reducible refine (k2 w2 ga gb).mono ?_; rintro e w3 ⟨x3, y3, rfl, gY, rr⟩; replace gX := gX.below rr; replace BX := BX.below rr; replace r0 := then_below r0 rr; clear rr))
   all_goals
    go_wp2
    go_ret2
    exact ⟨X, Y, _, _, _, _, rfl, gX, gY, HF.out.1, HF.out.2.1, HF.out.2.2.1, HF.out.2.2.2, r0⟩
end
section
open Go Go.Proofs Go.RowKit Go.Shelf Nu
theorem gcdOfWords_any (w : World) (a b : Nat) (ha : a < 18446744073709551616) (hb : b < 18446744073709551616) :
  Calls Tryz.prog 115 #[.int .u64 a, .int .u64 b] w fun e w' => e = .returned (.int .u64 (Nat.gcd a b : Nat)) ∧ ∃ n, w' = w.drewN n := by
 obtain ⟨G, hG⟩ : ∃ G, G = Nat.gcd a b := ⟨_, rfl⟩
 rw [← hG]
 have HG := Lib.hid hG
 clear hG
 go_enter Tryz.func115, Tryz.ntmps115
 go_wp2
 go_loopw [0, 1] (fun x y wr => ∃ p q n : Nat, x = .int .u64 p ∧ y = .int .u64 q ∧ p < 18446744073709551616 ∧ q < 18446744073709551616 ∧ Hid (G = Nat.gcd p q) ∧ wr = w.drewN n) (fun _ y _ => (intOf y).toNat)
 case atStart => exact ⟨a, b, 0, rfl, rfl, ha, hb, HG, rfl⟩
 case round =>
  obtain ⟨p, q, n, rfl, rfl, hp, hq, hg, rfl⟩ := hrel
  by_cases h0 : q = 0
  · have ht : ((q : Int) != 0) = false := by simp [h0]
    have H0 := Lib.hid h0
    clear h0
    go_wp2
    go_ret
    exact ⟨ret_int (by rw [hg.out, H0.out]; simp), n, rfl⟩
  · have ht : ((q : Int) != 0) = true := by simp [h0]
    have hq1 : 1 ≤ q := by omega
    have H0 := Lib.hid h0
    clear h0
    go_wp2
    go_quiet (fail)
    go_wp2
    go_roundw
    case rel =>
     refine ⟨q, p % q, _, rfl, by rw [Int.natCast_emod], hq, Nat.lt_of_le_of_lt (Nat.mod_le _ _) hp, Lib.hid ?_, World.drewN_drewN ..⟩
     rw [hg.out, Nat.gcd_comm p q, Nat.gcd_rec q p, Nat.gcd_comm]
    case measure =>
     have := Nat.mod_lt p (show 0 < q by omega)
     simp [intOf]
     omega
end
section
open Go Go.Proofs Go.RowKit Go.Shelf Nu
attribute [local go_sem] Oper.semAt_some
def GcdInv (G : Nat) (w : World) (x y : Value) (wr : World) (k : Nat) : Prop :=
 ∃ (A B : Nat) (a : Option Addr) (c : Nat) (b : Option Addr) (d : Nat), x = .slice a (digs A).length c ∧ y = .slice b (digs B).length d ∧ Reads wr x (digs A) ∧ Reads wr y (digs B) ∧ B ≤ A ∧ (digs A).length ≤ 80000 ∧ Nat.gcd A B = G ∧ B ≤ k ∧ Below w.heap.size w wr
theorem gcd_any {w : World} {va vb : Value} {la lb : List Nat} (ha : Reads w va la) (hb : Reads w vb lb) (hla : la.length ≤ 80000) (hlb : lb.length ≤ 80000) (hsa : Sm la) (hsb : Sm lb) (G : Nat) (hG : G = Nat.gcd (nv la) (nv lb)) :
  Calls Tryz.prog 63 #[va, vb] w fun e w' => ∃ v, e = .returned v ∧ Fresh w' w.heap.size v (digs G) ∧ Below w.heap.size w w' := by
 have k1 := flip (orZero_any ha (by omega))
 have k2 := flip (orZero_any hb (by omega))
 have hA := orzV_reads ha
 have hB := orzV_reads hb
 have eA : orz la = digs (nv la) := by rw [← val_orz, digs_val (sm_orz hsa) (chk_orz la)]
 have eB : orz lb = digs (nv lb) := by rw [← val_orz, digs_val (sm_orz hsb) (chk_orz lb)]
 rw [eA] at hA
 rw [eB] at hB
 have lA : (digs (nv la)).length ≤ 80000 := eA ▸ Nat.le_trans (orz_length la) hla
 have lB : (digs (nv lb)).length ≤ 80000 := eB ▸ Nat.le_trans (orz_length lb) hlb
 generalize nv la = A at *
 generalize nv lb = B at *
 obtain ⟨a1, c1, e1⟩ := hA.form
 obtain ⟨b1, d1, e2⟩ := hB.form
 rw [e1] at k1 hA
 rw [e2] at k2 hB
 have kc := cmp_any hA hB (by omega) (by omega) (sm_digs _) (sm_digs _)
 rw [nv_digs, nv_digs] at kc
 obtain ⟨z, hz⟩ : ∃ z, z = sgn A B := ⟨_, rfl⟩
 rw [← hz] at kc
 have hlt : z < 0 ↔ A < B := by rw [hz]; simp only [sgn]; split <;> (try split) <;> omega
 obtain ⟨x1, x2, rfl⟩ := ha.form
 obtain ⟨y1, y2, rfl⟩ := hb.form
 have H0 := Lib.hid (show (A < B → GcdInv G w (.slice b1 (digs B).length d1) (.slice a1 (digs A).length c1) w A) ∧ (¬ A < B → GcdInv G w (.slice a1 (digs A).length c1) (.slice b1 (digs B).length d1) w B) from
  ⟨fun h => ⟨B, A, _, _, _, _, rfl, rfl, hB, hA, by omega, lB, by rw [hG, Nat.gcd_comm], Nat.le_refl _, Below.refl _ _⟩, fun h => ⟨A, B, _, _, _, _, rfl, rfl, hA, hB, by omega, lA, hG.symm, Nat.le_refl _, Below.refl _ _⟩⟩)
 have HG := Lib.hid hG
 clear ha hb e1 e2 eA eB hz hG hA hB
 by_cases hAB : A < B
 all_goals
  have S0 := H0.out
  first
   | (have S1 := Lib.hid (S0.1 hAB); have hz0 : z < 0 := hlt.2 hAB)
   | (have S1 := Lib.hid (S0.2 hAB); have hz0 : ¬ z < 0 := fun h => hAB (hlt.1 h))
  clear S0 H0 hlt hAB
  go_enter Tryz.func63, Tryz.ntmps63
  go_wp2_with (first
   | (go_at_call 110; with_reducible refine k1.mono ?_; clear k1; rintro e w' ⟨rfl, rfl⟩)
   | (go_at_call 110; with_reducible refine k2.mono ?_; clear k2; rintro e w' ⟨rfl, rfl⟩)
   | (go_at_call 108; refine kc.mono ?_; clear kc; rintro e w1 ⟨rfl, hb1⟩))
  go_loopg [0, 1] (A + B) (fun k x y wr => GcdInv G w x y wr k)
  case atStart =>
   obtain ⟨P, Q, a, c, b, d, f1, f2, f3, f4, f5, f6, f7, f8, f9⟩ := S1.out
   exact ⟨P, Q, a, c, b, d, f1, f2, f3.below hb1, f4.below hb1, f5, f6, f7, by omega, then_below f9 hb1⟩
  case round =>
   obtain ⟨P, Q, a, c, b, d, rfl, rfl, g1, g2, hle, hl, hg, hk, hbl⟩ := hrel
   have hlQ := digs_mono hle
   by_cases h2 : 2 < (digs Q).length
   · have i2 : (2 : Int) < ((digs Q).length : Int) := by omega
     have kl := lessen_any g1 g2 hl h2 hle
     have HF := Lib.hid (show Nat.gcd P Q = G ∧ Q ≤ gk from ⟨hg, hk⟩)
     clear hg hk hle hlQ h2 S1 g1 g2
     go_wp2_with (go_at_call 111; refine kl.mono ?_; clear kl; rintro e w2 ⟨X, Y, a2, c2, b2, d2, rfl, gX, gY, hY, hYX, hXP, hgc, rr⟩; have HG2 := Lib.hid hgc; clear hgc)
     go_roundg Y
     case measure => have := HF.out.2; omega
     case rel => exact ⟨X, Y, _, _, _, _, rfl, rfl, gX, gY, hYX, Nat.le_trans (digs_mono hXP) hl, HG2.out.trans HF.out.1, Nat.le_refl _, then_below hbl rr⟩
   · have i2 : ¬ (2 : Int) < ((digs Q).length : Int) := by omega
     have hQ64 : Q < 18446744073709551616 := by
       have := digs_le_iff.1 (show (digs Q).length ≤ 2 by omega)
       rwa [show (4294967296 : Nat) ^ 2 = 18446744073709551616 from by decide] at this
     by_cases h0 : Q = 0
     · have j0 : (((digs Q).length : Int) == 0) = true := by rw [h0, digs_zero]; rfl
       have eG : P = G := by rw [← hg, h0, Nat.gcd_zero_right]
       have HE := Lib.hid eG
       clear hg hk hle hlQ h2 S1 g2 h0 eG
       go_wp2_with (first
         | (go_at_call 113; refine (clone_any g1 (by omega)).mono ?_; rintro e w2 ⟨v', rfl, hF, hb2⟩; obtain ⟨ta, tc, v2, rfl, hR, kt⟩ := trim_any hF (by omega) (sm_digs _); rw [val_digs] at hR)
         | (go_at_call 112; refine kt.mono ?_; rintro e w' ⟨rfl, rfl⟩))
       go_ret
       rw [HE.out] at hR
       exact ⟨v2, rfl, hR.mono hbl.size, then_below hbl hb2⟩
     · have hpos := digs_len_pos h0
       have j0 : (((digs Q).length : Int) == 0) = false := beq_false_of_ne (by omega)
       have j0' : ¬ ((digs Q).length : Int) = 0 := by omega
       have hG64 : G < 18446744073709551616 := by
         rw [← hg]; exact Nat.lt_of_le_of_lt (Nat.gcd_le_right _ (Nat.pos_of_ne_zero h0)) hQ64
       have ko := fun W => of_any G hG64 W
       have kwQ := fun (W : World) (h : Reads W (.slice b (digs Q).length d) (digs Q)) => word_any h (by omega) (sm_digs _)
       rw [val_digs] at kwQ
       by_cases h3 : 2 < (digs P).length
       · have i3 : (2 : Int) < ((digs P).length : Int) := by omega
         obtain ⟨R, hR⟩ : ∃ R, R = P % Q := ⟨_, rfl⟩
         have hRQ : R < Q := hR ▸ Nat.mod_lt _ (Nat.pos_of_ne_zero h0)
         have hlR := digs_mono (Nat.le_of_lt hRQ)
         have kd := d_divide (P / Q) R g1 g2 hl (by omega) h0 rfl hR
         have kwR := fun (W : World) (p : Option Addr) (q : Nat) (h : Reads W (.slice p (digs R).length q) (digs R)) => word_any h (by omega) (sm_digs _)
         rw [val_digs] at kwR
         have eG : Nat.gcd Q R = G := by rw [hR, ← hg, Nat.gcd_comm Q, ← Nat.gcd_rec, Nat.gcd_comm]
         have kg := fun W => gcdOfWords_any W Q R hQ64 (by omega)
         rw [eG] at kg
         clear hg hk hle hlQ h2 S1 g1 eG hR hRQ hlR h3 h0 hpos
         go_wp2_with (first
          | (go_at_call 114; refine kd.mono ?_; clear kd; rintro e w2 ⟨x2, y2, x3, y3, rfl, gq, gr, rr⟩; replace g2 := g2.below rr; have hb2 := then_below hbl rr; clear rr gq)
          | (go_at_call 116; with_reducible refine (kwQ _ g2).mono ?_; rintro e w3 ⟨rfl, rr⟩; replace gr := gr.below rr; have hb3 := then_below hb2 rr; clear rr)
          | (go_at_call 116; with_reducible refine (kwR _ _ _ gr).mono ?_; rintro e w4 ⟨rfl, rr⟩; have hb4 := then_below hb3 rr; clear rr)
          | (go_at_call 115; refine (kg _).mono ?_; rintro e w5 ⟨rfl, n, rfl⟩; have hb5 : Below w.heap.size w (w4.drewN n) := ⟨hb4.os, hb4.tape, hb4.output, hb4.size, hb4.block⟩)
          | (go_at_call 109; refine (ko _).mono ?_; rintro e w6 ⟨v, rfl, hF, hb6⟩))
         go_ret
         exact ⟨v, rfl, hF.mono hb5.size, then_below hb5 hb6⟩
       · have i3 : ¬ (2 : Int) < ((digs P).length : Int) := by omega
         have hP64 : P < 18446744073709551616 := by
          have := digs_le_iff.1 (show (digs P).length ≤ 2 by omega)
          rwa [show (4294967296 : Nat) ^ 2 = 18446744073709551616 from by decide] at this
         have kwP := fun (W : World) (h : Reads W (.slice a (digs P).length c) (digs P)) => word_any h (by omega) (sm_digs _)
         rw [val_digs] at kwP
         have kg := fun W => gcdOfWords_any W P Q hP64 hQ64
         rw [hg] at kg
         clear hg hk hle hlQ h2 S1 h3 h0 hpos
         go_wp2_with (first
          | (go_at_call 116; with_reducible refine (kwP _ g1).mono ?_; rintro e w3 ⟨rfl, rr⟩; replace g2 := g2.below rr; have hb3 := then_below hbl rr; clear rr)
          | (go_at_call 116; with_reducible refine (kwQ _ g2).mono ?_; rintro e w4 ⟨rfl, rr⟩; have hb4 := then_below hb3 rr; clear rr)
          | (go_at_call 115; refine (kg _).mono ?_; rintro e w5 ⟨rfl, n, rfl⟩; have hb5 : Below w.heap.size w (w4.drewN n) := ⟨hb4.os, hb4.tape, hb4.output, hb4.size, hb4.block⟩)
          | (go_at_call 109; refine (ko _).mono ?_; rintro e w6 ⟨v, rfl, hF, hb6⟩))
         go_ret
         exact ⟨v, rfl, hF.mono hb5.size, then_below hb5 hb6⟩
section
variable {w : World} {p1 p2 : Option Addr} {q1 q2 A B : Nat}
theorem d_gcd (G : Nat) (h1 : Reads w (.slice p1 (digs A).length q1) (digs A)) (h2 : Reads w (.slice p2 (digs B).length q2) (digs B)) (l1 : (digs A).length ≤ 80000) (l2 : (digs B).length ≤ 80000) (e : G = Nat.gcd A B) :
  Calls Tryz.prog 63 #[.slice p1 (digs A).length q1, .slice p2 (digs B).length q2] w fun e w' => ∃ a c, e = .returned (.slice a (digs G).length c) ∧ Reads w' (.slice a (digs G).length c) (digs G) ∧ Below w.heap.size w w' := by
 refine (gcd_any h1 h2 l1 l2 (sm_digs _) (sm_digs _) G (by rw [nv_digs, nv_digs]; exact e)).mono ?_
 rintro e w' ⟨v, rfl, f, hb⟩
 obtain ⟨a, c, rfl⟩ := f.reads.form
 exact ⟨a, c, rfl, f.reads, hb⟩
end
theorem ret_boxA {fn : Func} {p : Tmp} {ty t e : TypeId} {n : Nat} {R : Ending → World → Prop} {a : Act} {w : World} {B : Nat} {cs : Array Value} (h : fn.results = #[.cell p ty]) (hp : a.tmps.getD p undef = .pointer (some ⟨B, 0, none⟩)) (hg : BoxN w B t cs)
    (hu : Tryz.prog.underlying ty = some (.array n e)) (hi : (Tryz.prog.info? ty).map (·.size) = some cs.size) (hde : a.defers = []) (hR : R (.returned (.agg cs)) w) : bodyPost Tryz.prog fn R .ret a w :=
  bodyPost_ret (results_cell_row h _ _ B t cs (0, 0) (.array n e) hp hg hu rfl hi) hde hR
theorem size_rat : (Tryz.prog.info? 44).map (·.size) = some 3 := by kernel_rfl
theorem size_parts : (Tryz.prog.info? 93).map (·.size) = some 4 := by kernel_rfl
section
variable {w : World} {p1 p2 : Option Addr} {q1 q2 : Nat} {s1 s2 : Bool} {L1 L2 L3 : List Nat}
theorem isOne_any {A : Nat} (h1 : Reads w (.slice p1 (digs A).length q1) (digs A)) (l1 : (digs A).length ≤ 80000) (R : Bool) (hR : decide (A = 1) = R) :
  Calls Tryz.prog 62 #[.slice p1 (digs A).length q1] w fun e w' => e = .returned (.bool R) ∧ Below w.heap.size w w' := by
 have ko := of_any 1 (by decide) w
 obtain ⟨z, hz⟩ : ∃ z, sgn A 1 = z := ⟨_, rfl⟩
 have hzR : (z == 0) = R := by
  rw [← hz, ← hR]
  unfold sgn
  split
  · simp; omega
  · split
    · simp; omega
    · simp; omega
 have kc := fun (W : World) (a : Option Addr) (c : Nat) (g1 : Reads W (.slice p1 (digs A).length q1) (digs A)) (g2 : Reads W (.slice a (digs 1).length c) (digs 1)) => d_cmp z g1 g2 (by omega) (by rw [digs_pos (by omega)]; simp [digs_zero]) hz
 clear hR hz l1
 go_enter Tryz.func62, Tryz.ntmps62
 go_wp2_with (first
  | (go_at_call 109; refine ko.mono ?_; clear ko; rintro e w1 ⟨v, rfl, f, r1⟩; obtain ⟨a, c, rfl⟩ := f.reads.form; have g := f.reads; clear f; replace h1 := h1.below r1)
  | (go_at_call 108; refine (kc _ _ _ h1 g).mono ?_; clear kc; rintro e w2 ⟨rfl, r2⟩))
 go_ret
 exact ⟨rfl, then_below r1 r2⟩
theorem common_any {A B : Nat} (hA : L1 = digs A) (hB : L2 = digs B) (hG : L3 = digs (Nat.gcd A B)) (l1 : L1.length ≤ 80000) (l2 : L2.length ≤ 80000) (h1 : Reads w (.slice p1 L1.length q1) L1) (h2 : Reads w (.slice p2 L2.length q2) L2) :
  Calls Tryz.prog 106 #[.agg #[.bool s1, .slice p1 L1.length q1], .agg #[.bool s2, .slice p2 L2.length q2]] w fun e w' => ∃ a c, e = .returned (.agg #[.bool false, .slice a L3.length c]) ∧ Reads w' (.slice a L3.length c) L3 ∧ Below w.heap.size w w' := by
 have kg : ∀ W, Below w.heap.size w W → Calls Tryz.prog 63 #[.slice p1 L1.length q1, .slice p2 L2.length q2] W fun e w' => ∃ a c, e = .returned (.slice a L3.length c) ∧ Reads w' (.slice a L3.length c) L3 ∧ Below W.heap.size W w' :=
  fun W hW => by subst hA hB hG; exact d_gcd _ (h1.below hW) (h2.below hW) l1 l2 rfl
 have M0 : Mem w [(w.heap.size + 1 + 1, 42, [.bool false, .slice none 0 0]), (w.heap.size + 1, 42, [.bool s2, .slice p2 L2.length q2]), (w.heap.size, 42, [.bool s1, .slice p1 L1.length q1])] []
   (((w.alloc (.cells #[.bool s1, .slice p1 L1.length q1] 42)).alloc (.cells #[.bool s2, .slice p2 L2.length q2] 42)).alloc (.cells #[.bool false, .slice none 0 0] 42)) := by
  have M := (((Mem.start w).new 42 [.bool s1, .slice p1 L1.length q1]).new 42 [.bool s2, .slice p2 L2.length q2]).new 42 [.bool false, .slice none 0 0]
  simpa only [World.size_alloc] using M
 clear h1 h2 hA hB hG l1 l2
 go_enter Tryz.func106, Tryz.ntmps106
 go_wp2_with (go_at_call 63; refine (kg _ M0.below).mono ?_; clear kg; rintro e w1 ⟨a, c, rfl, g, rr⟩; have M := (M0.up rr).add g; clear M0 g rr; have z0 := M.cell 0 rfl 0 rfl; have z1 := M.cell 0 rfl 1 rfl; have z2 := M.fr 0 rfl 0; have z3 := M.fr 0 rfl 1)
 have M' := (M.put 0 rfl rfl 0 (.bool false)).put 0 rfl rfl 1 (.slice a L3.length c)
 refine ret_boxN rfl rfl (M'.box 0 rfl) Tryz.underlying42 size_int rfl ?_
 exact ⟨a, c, rfl, M'.get 0 rfl, M'.below⟩
theorem over_any {X T : Int} {G : Nat} (hX : Can s1 L1 X) (hG : L2 = digs G) (hT : Can s1 L3 T) (e : X = G * T) (h0 : G ≠ 0) (l1 : L1.length ≤ 80000) (l2 : L2.length ≤ 80000) (h1 : Reads w (.slice p1 L1.length q1) L1) (h2 : Reads w (.slice p2 L2.length q2) L2) :
  Calls Tryz.prog 107 #[.agg #[.bool s1, .slice p1 L1.length q1], .agg #[.bool s2, .slice p2 L2.length q2]] w fun e w' => ∃ a c, e = .returned (.agg #[.bool s1, .slice a L3.length c]) ∧ Reads w' (.slice a L3.length c) L3 ∧ Below w.heap.size w w' := by
 have kg : ∀ W, Below w.heap.size w W → Calls Tryz.prog 142 #[.slice p1 L1.length q1, .slice p2 L2.length q2] W fun e w' => ∃ a c b d, e = .returned (.tuple #[.slice a L3.length c, .slice b 0 d, .int .i64 0]) ∧ Reads w' (.slice a L3.length c) L3 ∧ Below W.heap.size W w' := by
  intro W hW
  have eA : X.natAbs = G * T.natAbs := by rw [e, Int.natAbs_mul]; rfl
  obtain ⟨_, rfl⟩ := hX
  obtain ⟨_, rfl⟩ := hT
  subst hG
  refine (d_quo T.natAbs 0 (h1.below hW) (h2.below hW) l1 l2 h0 (by rw [eA, Nat.mul_div_cancel_left _ (by omega)]) (by rw [eA, Nat.mul_mod_right])).mono ?_
  rintro e w' ⟨a, c, b, d, rfl, g, _, rr⟩
  exact ⟨a, c, b, d, by rw [digs_zero]; rfl, g, rr⟩
 have M0 : Mem w [(w.heap.size + 1 + 1, 42, [.bool false, .slice none 0 0]), (w.heap.size + 1, 42, [.bool s2, .slice p2 L2.length q2]), (w.heap.size, 42, [.bool s1, .slice p1 L1.length q1])] []
   (((w.alloc (.cells #[.bool s1, .slice p1 L1.length q1] 42)).alloc (.cells #[.bool s2, .slice p2 L2.length q2] 42)).alloc (.cells #[.bool false, .slice none 0 0] 42)) := by
  have M := (((Mem.start w).new 42 [.bool s1, .slice p1 L1.length q1]).new 42 [.bool s2, .slice p2 L2.length q2]).new 42 [.bool false, .slice none 0 0]
  simpa only [World.size_alloc] using M
 clear h1 h2 hX hT hG l1 l2 e h0
 go_enter Tryz.func107, Tryz.ntmps107
 go_wp2_with (go_at_call 142; refine (kg _ M0.below).mono ?_; clear kg; rintro e w1 ⟨a, c, b, d, rfl, g, rr⟩; have M := (M0.up rr).add g; clear M0 g rr; have z0 := M.cell 0 rfl 0 rfl; have z1 := M.cell 0 rfl 1 rfl; have z2 := M.fr 0 rfl 0; have z3 := M.fr 0 rfl 1; have z4 := M.cell 2 rfl 0 rfl)
 have M' := (M.put 0 rfl rfl 0 (.bool s1)).put 0 rfl rfl 1 (.slice a L3.length c)
 refine ret_boxN rfl rfl (M'.box 0 rfl) Tryz.underlying42 size_int rfl ?_
 exact ⟨a, c, rfl, M'.get 0 rfl, M'.below⟩
end
section
variable {w : World} {p1 p2 : Option Addr} {q1 q2 : Nat} {n : Bool} {l d : List Nat}
theorem rcheck_any (h1 : Reads w (.slice p1 l.length q1) l) (h2 : Reads w (.slice p2 d.length q2) d) (s1 : Sm l) (s2 : Sm d) (l1 : l.length ≤ 80000) (l2 : d.length ≤ 80000) :
  Calls Tryz.prog 24 #[.agg #[.bool n, .slice p1 l.length q1, .slice p2 d.length q2]] w fun e w' => e = .returned (.bool (rchk n l d)) ∧ Below w.heap.size w w' := by
 have h0 : Below w.heap.size w (w.alloc (.cells #[.bool n, .slice p1 l.length q1, .slice p2 d.length q2] 44)) := (Below.refl _ _).alloc (Nat.le_refl _) _
 have M0 : Mem w [(w.heap.size, 44, [.bool n, .slice p1 l.length q1, .slice p2 d.length q2])] [(.slice p1 l.length q1, l), (.slice p2 d.length q2, d)] (w.alloc (.cells #[.bool n, .slice p1 l.length q1, .slice p2 d.length q2] 44)) := (((Mem.start w).add h2).add h1).new _ _
 have ki := icheck_any (n := n) (M0.get 0 rfl) (by omega)
 have kc := fun (W : World) (g : Reads W (.slice p2 d.length q2) d) => check_any g (show d.length ≤ 1000000 by omega)
 obtain ⟨R, hR⟩ : ∃ R, R = rchk n l d := ⟨_, rfl⟩
 rw [← hR]
 unfold rchk at hR
 cases c1 : ichk n l with
 | false =>
  rw [c1] at ki hR
  obtain rfl : R = false := by simpa using hR
  clear kc c1 hR h1 h2 s1 s2 l1 l2 M0
  go_enter Tryz.func24, Tryz.ntmps24
  go_wp2_with (go_at_call 60; refine ki.mono ?_; rintro e w1 ⟨rfl, rr⟩)
  go_ret
  exact ⟨rfl, then_below h0 rr⟩
 | true =>
  rw [c1] at ki
  cases c2 : chk d with
  | false =>
   rw [c2] at kc
   rw [c1, c2] at hR
   obtain rfl : R = false := by simpa using hR
   clear c1 c2 hR h1 h2 s1 s2 l1 l2 h0
   go_enter Tryz.func24, Tryz.ntmps24
   go_wp2_with (first
     | (go_at_call 60; refine ki.mono ?_; clear ki; rintro e w1 ⟨rfl, rr⟩; have M := M0.up rr; clear M0 rr; have z2 := M.cell 0 rfl 2 rfl)
     | (go_at_call 61; refine (kc _ (M.get 1 rfl)).mono ?_; clear kc; rintro e w2 ⟨rfl, rfl⟩))
   go_ret
   exact ⟨rfl, M.below⟩
  | true =>
   rw [c2] at kc
   rcases Nat.eq_zero_or_pos d.length with h4 | h4
   · have hd := decide_eq_false (p := 0 < d.length) (by omega)
     rw [c1, c2, hd] at hR
     obtain rfl : R = false := by simpa using hR
     have hd2 : decide ((0 : Int) < (d.length : Int)) = false := decide_eq_false (by omega)
     have hd3 : ¬ (0 : Int) < (d.length : Int) := by omega
     clear c1 c2 hR h1 h2 s1 s2 l1 l2 h0 hd h4
     go_enter Tryz.func24, Tryz.ntmps24
     go_wp2_with (first
      | (go_at_call 60; refine ki.mono ?_; clear ki; rintro e w1 ⟨rfl, rr⟩; have M := M0.up rr; clear M0 rr; have z2 := M.cell 0 rfl 2 rfl)
      | (go_at_call 61; refine (kc _ (M.get 1 rfl)).mono ?_; clear kc; rintro e w2 ⟨rfl, rfl⟩))
     go_ret
     exact ⟨rfl, M.below⟩
   · have hd := decide_eq_true (p := 0 < d.length) h4
     rw [c1, c2, hd] at hR
     simp only [Bool.true_and] at hR
     have hc : chk l = true := by unfold ichk at c1; simp at c1; exact c1.1
     obtain ⟨A, rfl⟩ := of_chk s1 hc
     obtain ⟨D, rfl⟩ := of_chk s2 c2
     rw [val_digs, val_digs] at hR
     have kg := fun (W : World) (g1 : Reads W (.slice p1 (digs A).length q1) (digs A)) (g2 : Reads W (.slice p2 (digs D).length q2) (digs D)) => d_gcd (Nat.gcd A D) g1 g2 l1 l2 rfl
     obtain ⟨G, hG⟩ : ∃ G, G = Nat.gcd A D := ⟨_, rfl⟩
     have lG : (digs G).length ≤ 80000 := by
      have hD : 0 < D := Nat.pos_of_ne_zero fun e => by rw [e, digs_zero] at h4; simp at h4
      have : G ≤ D := hG ▸ Nat.le_of_dvd hD (Nat.gcd_dvd_right A D)
      have := digs_mono this
      omega
     have hR' : decide (G = 1) = R := by rw [hR, hG]
     rw [← hG] at kg
     have ko := fun (W : World) (a : Option Addr) (c : Nat) (g : Reads W (.slice a (digs G).length c) (digs G)) => isOne_any g lG R hR'
     have hd2 : decide ((0 : Int) < ((digs D).length : Int)) = true := decide_eq_true (by omega)
     have hd3 : (0 : Int) < ((digs D).length : Int) := by omega
     clear c1 c2 hR hR' h1 h2 s1 s2 l1 l2 h0 hd h4 hc hG lG
     go_enter Tryz.func24, Tryz.ntmps24
     go_wp2_with (first
      | (go_at_call 60; refine ki.mono ?_; clear ki; rintro e w1 ⟨rfl, rr⟩; have M := M0.up rr; clear M0 rr; have z1 := M.cell 0 rfl 1 rfl; have z2 := M.cell 0 rfl 2 rfl)
      | (go_at_call 61; refine (kc _ (M.get 1 rfl)).mono ?_; clear kc; rintro e w2 ⟨rfl, rfl⟩)
      | (go_at_call 63; refine (kg _ (M.get 0 rfl) (M.get 1 rfl)).mono ?_; clear kg; rintro e w3 ⟨a, c, rfl, g, rr⟩; have M' := M.up rr; clear M rr)
      | (go_at_call 62; refine (ko _ _ _ g).mono ?_; clear ko; rintro e w4 ⟨rfl, rr⟩; have M'' := M'.up rr; clear M' rr))
     go_ret
     exact ⟨rfl, M''.below⟩
end
theorem can_one : Can false (digs 1) 1 := ⟨by decide, rfl⟩
theorem digs_one_len : (digs 1).length = 1 := by rw [digs_pos (by omega)]; simp [digs_zero]
theorem RCan.uniq {n m : Bool} {l d k e : List Nat} {X : Rat} (h : RCan n l d X) (g : RCan m k e X) : n = m ∧ l = k ∧ d = e := ⟨h.1.1.trans g.1.1.symm, h.1.2.trans g.1.2.symm, h.2.trans g.2.symm⟩
theorem rcan_zero {n : Bool} {l d : List Nat} (h : RCan n l d 0) : n = false ∧ l = [] ∧ d = digs 1 := by
 obtain ⟨⟨h1, h2⟩, h3⟩ := h
 exact ⟨h1.trans (by decide), h2.trans digs_zero, h3⟩
theorem rcan_int {n : Bool} {l d : List Nat} {X : Int} (h : RCan n l d (X : Rat)) : Can n l X ∧ d = digs 1 := by
 obtain ⟨h1, h3⟩ := h
 exact ⟨by simpa using h1, by simpa using h3⟩
theorem RIs.lens {n s : Bool} {l d L D : List Nat} {X : Rat} (hX : RIs n l d X) (cX : RCan s L D X) : L.length ≤ l.length ∧ D.length ≤ d.length + 1 := by
 cases hc : rchk n l d with
 | false =>
  rw [hX.zero hc] at cX
  obtain ⟨_, rfl, rfl⟩ := rcan_zero cX
  rw [digs_one_len]; simp
 | true =>
  obtain ⟨_, rfl, rfl⟩ := (hX.can hc).uniq cX
  omega
theorem fraction_any (s s2 : Bool) (a a2 : Option Addr) (n c n2 c2 : Nat) (w : World) :
  Calls Tryz.prog 64 #[.agg #[.bool s, .slice a n c, .bool s2, .slice a2 n2 c2]] w fun e w' => e = .returned (.agg #[.bool s, .slice a n c, .slice a2 n2 c2]) ∧ Below w.heap.size w w' := by
 go_enter Tryz.func64, Tryz.ntmps64
 go_wp2
 refine ret_boxN rfl rfl (BoxN.new1 w _ _ _) Tryz.underlying44 size_rat rfl ?_
 exact ⟨rfl, ((Below.refl _ _).alloc (Nat.le_refl _) _).alloc (by simp) _⟩
theorem idx_above (b0 v1 b2 v3 : Value) (w : World) : (Instr.index 93 (.agg #[b0, v1, b2, v3]) (.int .i64 0)).run Tryz.prog w = .ok (.agg #[b0, v1]) w := by kernel_rfl
section
variable {w : World} {p1 p2 : Option Addr} {q1 q2 : Nat} {n s : Bool} {l d L D : List Nat} {X : Rat}
theorem partsOf_any (hX : RIs n l d X) (cX : RCan s L D X) (l1 : l.length ≤ 80000) (l2 : d.length ≤ 80000) (h1 : Reads w (.slice p1 l.length q1) l) (h2 : Reads w (.slice p2 d.length q2) d) :
  Calls Tryz.prog 131 #[.agg #[.bool n, .slice p1 l.length q1, .slice p2 d.length q2]] w fun e w' => ∃ a c a' c', e = .returned (.agg #[.bool s, .slice a L.length c, .bool false, .slice a' D.length c']) ∧ Reads w' (.slice a L.length c) L ∧ Reads w' (.slice a' D.length c') D ∧ Below w.heap.size w w' := by
 have M0 : Mem w [(w.heap.size + 1, 93, [.bool false, .slice none 0 0, .bool false, .slice none 0 0]), (w.heap.size, 44, [.bool n, .slice p1 l.length q1, .slice p2 d.length q2])] [(.slice p1 l.length q1, l), (.slice p2 d.length q2, d)]
   ((w.alloc (.cells #[.bool n, .slice p1 l.length q1, .slice p2 d.length q2] 44)).alloc (.cells #[.bool false, .slice none 0 0, .bool false, .slice none 0 0] 93)) := by
  have M := ((((Mem.start w).add h2).add h1).new 44 [.bool n, .slice p1 l.length q1, .slice p2 d.length q2]).new 93 [.bool false, .slice none 0 0, .bool false, .slice none 0 0]
  simpa only [World.size_alloc] using M
 have kc := rcheck_any (n := n) (M0.get 0 rfl) (M0.get 1 rfl) hX.1 hX.2.1 l1 l2
 have ko := fun W => q_of (W := W) 1 can_one (by omega) (by omega)
 cases hc : rchk n l d with
 | false =>
  rw [hc] at kc
  obtain rfl := hX.zero hc
  obtain ⟨rfl, rfl, rfl⟩ := rcan_zero cX
  clear hX cX l1 l2 h1 h2 hc
  go_enter Tryz.func131, Tryz.ntmps131
  go_wp2_with (first
   | (go_at_call 24; refine kc.mono ?_; clear kc; rintro e w1 ⟨rfl, rr⟩; have M := M0.up rr; clear M0 rr)
   | (go_at_call 65; refine (ko _).mono ?_; clear ko; rintro e w2 ⟨a, c, rfl, g, rr⟩; have M' := (M.up rr).add g; clear M g rr; have z0 := M'.cell 0 rfl 0 rfl; have z1 := M'.cell 0 rfl 1 rfl; have z2 := M'.cell 0 rfl 2 rfl; have z3 := M'.cell 0 rfl 3 rfl; have f0 := M'.fr 0 rfl 0; have f1 := M'.fr 0 rfl 1; have f2 := M'.fr 0 rfl 2; have f3 := M'.fr 0 rfl 3))
  have M := (((M'.put 0 rfl rfl 0 (.bool false)).put 0 rfl rfl 1 (.slice none 0 0)).put 0 rfl rfl 2 (.bool false)).put 0 rfl rfl 3 (.slice a (digs 1).length c)
  refine ret_boxA rfl rfl (M.box 0 rfl) Tryz.underlying93 size_parts rfl ?_
  exact ⟨none, 0, a, c, rfl, Reads.nil _, M.get 0 rfl, M.below⟩
 | true =>
  rw [hc] at kc
  obtain ⟨rfl, rfl, rfl⟩ := (hX.can hc).uniq cX
  clear hX cX l1 l2 h1 h2 hc ko
  go_enter Tryz.func131, Tryz.ntmps131
  go_wp2_with (go_at_call 24; refine kc.mono ?_; clear kc; rintro e w1 ⟨rfl, rr⟩; have M := M0.up rr; clear M0 rr; have z0 := M.cell 0 rfl 0 rfl; have z1 := M.cell 0 rfl 1 rfl; have z2 := M.cell 0 rfl 2 rfl; have z3 := M.cell 0 rfl 3 rfl; have f0 := M.fr 0 rfl 0; have f1 := M.fr 0 rfl 1; have f2 := M.fr 0 rfl 2; have f3 := M.fr 0 rfl 3; have y0 := M.cell 1 rfl 0 rfl; have y1 := M.cell 1 rfl 1 rfl; have y2 := M.cell 1 rfl 2 rfl)
  have M' := (((M.put 0 rfl rfl 0 (.bool n)).put 0 rfl rfl 1 (.slice p1 l.length q1)).put 0 rfl rfl 2 (.bool false)).put 0 rfl rfl 3 (.slice p2 d.length q2)
  refine ret_boxA rfl rfl (M'.box 0 rfl) Tryz.underlying93 size_parts rfl ?_
  exact ⟨p1, q1, p2, q2, rfl, M'.get 0 rfl, M'.get 1 rfl, M'.below⟩
theorem r_of (X : Int) (cX : RCan s L D (X : Rat)) (h1 : -9223372036854775808 ≤ X) (h2 : X ≤ 9223372036854775807) :
  Calls Tryz.prog 26 #[.int .i64 X] w fun e w' => ∃ a c a' c', e = .returned (.agg #[.bool s, .slice a L.length c, .slice a' D.length c']) ∧ Reads w' (.slice a L.length c) L ∧ Reads w' (.slice a' D.length c') D ∧ Below w.heap.size w w' := by
 obtain ⟨cL, rfl⟩ := rcan_int cX
 have k1 := fun W => q_of (W := W) X cL h1 h2
 have k2 := fun W => q_of (W := W) 1 can_one (by omega) (by omega)
 have M0 : Mem w [(w.heap.size, 44, [.bool false, .slice none 0 0, .slice none 0 0])] [] (w.alloc (.cells #[.bool false, .slice none 0 0, .slice none 0 0] 44)) := (Mem.start w).new _ _
 clear cL cX h1 h2
 go_enter Tryz.func26, Tryz.ntmps26
 go_wp2_with (first
  | (go_at_call 65; with_reducible refine (k1 _).mono ?_; clear k1; rintro e w1 ⟨a, c, rfl, g, rr⟩; have M := (M0.up rr).add g; clear M0 g rr)
  | (go_at_call 65; refine (k2 _).mono ?_; clear k2; rintro e w2 ⟨a', c', rfl, g, rr⟩; have M' := (M.up rr).add g; clear M g rr)
  | (go_at_call 64; refine (fraction_any _ _ _ _ _ _ _ _ _).mono ?_; rintro e w3 ⟨rfl, rr⟩; have M := M'.up rr; clear M' rr; have z0 := M.cell 0 rfl 0 rfl; have z1 := M.cell 0 rfl 1 rfl; have z2 := M.cell 0 rfl 2 rfl; have f0 := M.fr 0 rfl 0; have f1 := M.fr 0 rfl 1; have f2 := M.fr 0 rfl 2))
 have M' := ((M.put 0 rfl rfl 0 (.bool s)).put 0 rfl rfl 1 (.slice a L.length c)).put 0 rfl rfl 2 (.slice a' (digs 1).length c')
 refine ret_boxN rfl rfl (M'.box 0 rfl) Tryz.underlying44 size_rat rfl ?_
 exact ⟨a, c, a', c', rfl, M'.get 1 rfl, M'.get 0 rfl, M'.below⟩
theorem r_sign (z : Int) (hX : RIs n l d X) (e : rsg X 0 = z) (l1 : l.length ≤ 40000) (l2 : d.length ≤ 40000) (h1 : Reads w (.slice p1 l.length q1) l) (h2 : Reads w (.slice p2 d.length q2) d) :
  Calls Tryz.prog 85 #[.agg #[.bool n, .slice p1 l.length q1, .slice p2 d.length q2]] w fun e w' => e = .returned (.int .i64 z) ∧ Below w.heap.size w w' := by
 obtain ⟨s, L, D, cX⟩ := RCan.ex X
 have lX := hX.lens cX
 have M0 : Mem w [(w.heap.size, 44, [.bool n, .slice p1 l.length q1, .slice p2 d.length q2])] [(.slice p1 l.length q1, l), (.slice p2 d.length q2, d)] (w.alloc (.cells #[.bool n, .slice p1 l.length q1, .slice p2 d.length q2] 44)) := (((Mem.start w).add h2).add h1).new _ _
 have kp := partsOf_any hX cX (by omega) (by omega) (M0.get 0 rfl) (M0.get 1 rfl)
 have ks := fun (W : World) (a : Option Addr) (c : Nat) (g : Reads W (.slice a L.length c) L) => q_sign z cX.1.is (by rw [rsg_num]; exact e) (show L.length ≤ 50000 by omega) g
 clear h1 h2 hX cX lX l1 l2 e
 have ix := idx_above
 go_enter Tryz.func85, Tryz.ntmps85
 go_wp2_with (first
  | (go_at_call 131; refine kp.mono ?_; clear kp; rintro e w1 ⟨a, c, a', c', rfl, g, g', rr⟩; have M := ((M0.up rr).add g').add g; clear M0 g g' rr)
  | (go_at_call 130; refine (ks _ _ _ (M.get 0 rfl)).mono ?_; clear ks; rintro e w2 ⟨rfl, rr⟩; have M' := M.up rr; clear M rr))
 go_ret
 exact ⟨rfl, M'.below⟩
end
end
end Go.Proofs.YtgmbaamfobhceaaGreat
