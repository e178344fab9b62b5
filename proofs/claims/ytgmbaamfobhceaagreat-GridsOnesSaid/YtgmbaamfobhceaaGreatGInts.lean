/- The closure is made; Text. Text: a number's digits, the highest first. A text's number: is it digits, and its number, digit by digit. Parse: what .. -/
import Derived.Laws.IdiomStrings
import Derived.Lib.ConvBytes
import Derived.Laws.Rows
import Derived.Test.YtgmbaamfobhceaaGreatGText
import Derived.Test.YtgmbaamfobhceaaGreatGPart
import Derived.Test.YtgmbaamfobhceaaGreatLay
import Derived.Test.YtgmbaamfobhceaaGreatGCmp
set_option linter.unusedSimpArgs false
set_option linter.unusedVariables false
set_option maxHeartbeats 2000000
namespace Go.Proofs.YtgmbaamfobhceaaGreat
section
open Go Go.Proofs Go.RowKit Go.Shelf Nu
end
section
open Go Go.Proofs Go.RowKit Go.Shelf Nu
attribute [local go_sem] Oper.semAt_some
def low (V : Nat) : List Nat := (48 + V % 10) :: (if h : V / 10 = 0 then [] else low (V / 10))
termination_by V
decreasing_by omega
theorem DigInv.below {w W : World} {base s V : Nat} (h : DigInv w base s V) (hb : Below (s + 3) w W) : DigInv W base s V := by
 obtain ⟨v, R, low, ready, h1, h2, h3, h4, h5, h6, h7, h8, h9, h10, h11⟩ := h
 refine ⟨v, R, low, ready, below_box hb (by omega) h1, below_box hb (by omega) h2, below_box hb (by omega) h3, ⟨h4.1, ?_⟩, h5, h6, h7, h8, h9, h10, h11⟩
 rcases h4.2 with hn | ⟨g, cap, cur, rfl, hb', hg, rest⟩
 · exact .inl hn
 · have hgs : g < s := by
    rcases h11 with h | ⟨g', h, h'⟩
    · cases h
    · cases h; exact h'
   exact .inr ⟨g, cap, cur, rfl, hb', (hb.block g (by omega)).trans hg, rest⟩
def bt (s : ByteArray) (j : Nat) : Nat := (s.data.toList.getD j 0).toNat
end
section
open Go Go.Proofs Go.RowKit Go.Shelf Nu
theorem nv_digs (n : Nat) : nv (digs n) = n := by rw [nv_chk (chk_digs n), val_digs]
theorem len_add {a b i j : Nat} (ha : a < 4294967296 ^ i) (hb : b < 4294967296 ^ j) : a + b < 4294967296 ^ (i + j + 1) := by
 have h1 : 4294967296 ^ i ≤ 4294967296 ^ (i + j) := Nat.pow_le_pow_right (by decide) (by omega)
 have h2 : 4294967296 ^ j ≤ 4294967296 ^ (i + j) := Nat.pow_le_pow_right (by decide) (by omega)
 rw [Nat.pow_succ]
 omega
theorem len_mul {a b i j : Nat} (ha : a < 4294967296 ^ i) (hb : b < 4294967296 ^ j) : a * b < 4294967296 ^ (i + j) := by
 rw [Nat.pow_add]
 exact Nat.mul_lt_mul'' ha hb
theorem of_chk {l : List Nat} (hs : Sm l) (hc : chk l = true) : ∃ A, l = digs A := ⟨val l, (digs_val hs hc).symm⟩
theorem digs_inj {a b : Nat} (h : digs a = digs b) : a = b := by rw [← val_digs a, h, val_digs]
theorem digs_le_iff {n k : Nat} : (digs n).length ≤ k ↔ n < 4294967296 ^ k := by
 refine ⟨fun h => ?_, digs_length_le⟩
 have := val_lt (sm_digs n)
 rw [val_digs] at this
 exact Nat.lt_of_lt_of_le this (Nat.pow_le_pow_right (by decide) h)
theorem digs_lt (n : Nat) : n < 4294967296 ^ (digs n).length := digs_le_iff.1 (Nat.le_refl _)
theorem digs_mono {a b : Nat} (h : a ≤ b) : (digs a).length ≤ (digs b).length := digs_le_iff.2 (Nat.lt_of_le_of_lt h (digs_lt b))
theorem digs_add_le (a b : Nat) : (digs (a + b)).length ≤ (digs a).length + (digs b).length + 1 := digs_le_iff.2 (len_add (digs_lt a) (digs_lt b))
theorem digs_mul_le (a b : Nat) : (digs (a * b)).length ≤ (digs a).length + (digs b).length := digs_le_iff.2 (len_mul (digs_lt a) (digs_lt b))
theorem digs_nil_iff {n : Nat} : (digs n).length = 0 ↔ n = 0 := by
 rw [List.length_eq_zero_iff]; exact digs_eq_nil
theorem digs_len_pos {n : Nat} (h : n ≠ 0) : 0 < (digs n).length := by
 rcases Nat.eq_zero_or_pos (digs n).length with h1 | h1
 · exact absurd (digs_nil_iff.1 h1) h
 · exact h1
section
variable {w : World} {p1 p2 : Option Addr} {q1 q2 A B : Nat}
theorem d_subno (h1 : Reads w (.slice p1 (digs A).length q1) (digs A)) (h2 : Reads w (.slice p2 (digs B).length q2) (digs B)) (l1 : (digs A).length ≤ 100000) (l2 : (digs B).length ≤ 100000) (h : A < B) :
  Calls Tryz.prog 191 #[.slice p1 (digs A).length q1, .slice p2 (digs B).length q2] w fun e w' => e = .returned (.tuple #[.slice none 0 0, .int .i64 1]) ∧ Below w.heap.size w w' :=
 sub_bad h1 h2 l1 l2 (sm_digs _) (sm_digs _) (.inr (.inr (by rw [val_digs, val_digs]; exact h)))
theorem d_cmp (z : Int) (h1 : Reads w (.slice p1 (digs A).length q1) (digs A)) (h2 : Reads w (.slice p2 (digs B).length q2) (digs B)) (l1 : (digs A).length ≤ 100000) (l2 : (digs B).length ≤ 100000) (h : sgn A B = z) :
  Calls Tryz.prog 108 #[.slice p1 (digs A).length q1, .slice p2 (digs B).length q2] w fun e w' => e = .returned (.int .i64 z) ∧ Below w.heap.size w w' := by
 have k := cmp_any h1 h2 l1 l2 (sm_digs _) (sm_digs _)
 rwa [nv_digs, nv_digs, h] at k
end
end
section
open Go Go.Proofs Go.RowKit Go.Shelf Nu
attribute [local go_sem] Oper.semAt_some
def ichk (n : Bool) (l : List Nat) : Bool := chk l && (!n || decide (0 < l.length))
def izN (n : Bool) (l : List Nat) : Bool := n && ichk n l
def izL (n : Bool) (l : List Nat) : List Nat := if ichk n l then l else []
def izS (n : Bool) (v : Value) (l : List Nat) : Value := if ichk n l then v else .slice none 0 0
def zz (n : Bool) (A : Nat) : Int := if n then -(A : Int) else (A : Int)
theorem izS_reads {W : World} {n : Bool} {v : Value} {l : List Nat} (h : Reads W v l) : Reads W (izS n v l) (izL n l) := by
 unfold izS izL
 split
 · exact h
 · exact Reads.nil W
theorem izL_digs {n : Bool} {l : List Nat} (hs : Sm l) : ∃ A, izL n l = digs A ∧ (izN n l = true → 0 < A) ∧ (digs A).length ≤ l.length := by
 unfold izL izN
 cases h : ichk n l with
 | false => exact ⟨0, by simp [digs_zero], by simp, by simp [digs_zero]⟩
 | true =>
  have hc : chk l = true := by unfold ichk at h; simp at h; exact h.1
  refine ⟨val l, by simp [digs_val hs hc], fun hn => ?_, by rw [digs_val hs hc]; exact Nat.le_refl _⟩
  have h2 : 0 < l.length := by
    unfold ichk at h; simp at h hn
    rcases h.2 with h2 | h2
    · rw [hn] at h2; cases h2
    · exact h2
  rcases Nat.eq_zero_or_pos (val l) with h3 | h3
  · have := digs_val hs hc
    rw [h3, digs_zero] at this
    rw [← this] at h2; simp at h2
  · exact h3
theorem icheck_any {w : World} {n : Bool} {v : Value} {l : List Nat} (h : Reads w v l) (hl : l.length ≤ 1000000) :
  Calls Tryz.prog 60 #[.agg #[.bool n, v]] w fun e w' => e = .returned (.bool (ichk n l)) ∧ Below w.heap.size w w' := by
 have kb : ∀ W, Below w.heap.size w W → _ := fun W hW => check_any (h.below hW) hl
 obtain ⟨a, c, rfl⟩ := h.form
 obtain ⟨R, hR⟩ : ∃ R, R = chk l := ⟨_, rfl⟩
 rw [← hR] at kb
 have e : ichk n l = (R && (!n || decide (0 < l.length))) := by rw [hR]; rfl
 rw [e]
 clear h hR e hl
 cases R with
 | false =>
  go_enter Tryz.func60, Tryz.ntmps60
  go_wp2_with (go_at_call 61; refine (kb _ (by first | assumption | exact (Below.refl _ _).alloc (Nat.le_refl _) _)).mono ?_; rintro e w' ⟨rfl, rfl⟩)
  go_ret
  exact ⟨by simp, (Below.refl _ _).alloc (Nat.le_refl _) _⟩
 | true =>
  cases n with
  | false =>
   go_enter Tryz.func60, Tryz.ntmps60
   go_wp2_with (go_at_call 61; refine (kb _ (by first | assumption | exact (Below.refl _ _).alloc (Nat.le_refl _) _)).mono ?_; rintro e w' ⟨rfl, rfl⟩)
   go_ret
   exact ⟨by simp, (Below.refl _ _).alloc (Nat.le_refl _) _⟩
  | true =>
   obtain ⟨m, hm⟩ : ∃ m, m = l.length := ⟨_, rfl⟩
   rw [← hm] at kb ⊢
   clear hm
   rcases Nat.eq_zero_or_pos m with rfl | h0
   · go_enter Tryz.func60, Tryz.ntmps60
     go_wp2_with (go_at_call 61; refine (kb _ (by first | assumption | exact (Below.refl _ _).alloc (Nat.le_refl _) _)).mono ?_; rintro e w' ⟨rfl, rfl⟩)
     go_ret
     exact ⟨by simp, (Below.refl _ _).alloc (Nat.le_refl _) _⟩
   · have hi : 0 < (m : Int) := by omega
     go_enter Tryz.func60, Tryz.ntmps60
     go_wp2_with (go_at_call 61; refine (kb _ (by first | assumption | exact (Below.refl _ _).alloc (Nat.le_refl _) _)).mono ?_; rintro e w' ⟨rfl, rfl⟩)
     go_ret
     exact ⟨by simp [h0], (Below.refl _ _).alloc (Nat.le_refl _) _⟩
def Box2 (W : World) (B : Nat) (t : TypeId) (u v : Value) : Prop := W.heap[B]? = some (.cells #[u, v] t (0, 0))
theorem Box2.new (W : World) (t : TypeId) (u v : Value) : Box2 (W.alloc (.cells #[u, v] t)) W.heap.size t u v := World.alloc_heap_new W _
theorem Box2.lt {W : World} {B : Nat} {t : TypeId} {u v : Value} (h : Box2 W B t u v) : B < W.heap.size := (Array.getElem?_eq_some_iff.1 h).1
theorem Box2.alloc {W : World} {B : Nat} {t : TypeId} {u v : Value} (h : Box2 W B t u v) (o : Obj) : Box2 (W.alloc o) B t u v := (Below.heap_alloc W o B h.lt).trans h
theorem Box2.new1 (W : World) (o : Obj) (t : TypeId) (u v : Value) : Box2 ((W.alloc o).alloc (.cells #[u, v] t)) (W.heap.size + 1) t u v := by
 have := Box2.new (W.alloc o) t u v; rwa [World.size_alloc] at this
theorem Box2.below {W W' : World} {B : Nat} {t : TypeId} {u v : Value} (h : Box2 W B t u v) (hb : Below W.heap.size W W') : Box2 W' B t u v := (hb.block B h.lt).trans h
theorem Box2.drew {W : World} {B : Nat} {t : TypeId} {u v : Value} (h : Box2 W B t u v) : Box2 W.drew B t u v := h
theorem Box2.c0 {W : World} {B : Nat} {t : TypeId} {u v : Value} (h : Box2 W B t u v) : W.cell? ⟨B, 0, none⟩ = some u := by
 unfold World.cell?; rw [show W.heap[B]? = _ from h]; rfl
theorem Box2.c1 {W : World} {B : Nat} {t : TypeId} {u v : Value} (h : Box2 W B t u v) : W.cell? ⟨B, 1, none⟩ = some v := by
 unfold World.cell?; rw [show W.heap[B]? = _ from h]; rfl
theorem Box2.fr {W : World} {B : Nat} {t : TypeId} {u v : Value} (h : Box2 W B t u v) (o : Nat) : W.frozen? ⟨B, o, none⟩ = false := by
 unfold World.frozen?; rw [show W.heap[B]? = _ from h]; simp
theorem Box2.set0 {W : World} {B : Nat} {t : TypeId} {u v : Value} (h : Box2 W B t u v) (x : Value) : Box2 (W.setCell ⟨B, 0, none⟩ x) B t x v := by
 obtain ⟨hlt, hk⟩ := Array.getElem?_eq_some_iff.1 h
 show (W.heap.modify B _)[B]? = _
 rw [Array.getElem?_eq_getElem (by rw [Array.size_modify]; exact hlt), Array.getElem_modify_self, hk]
 rfl
theorem Box2.set1 {W : World} {B : Nat} {t : TypeId} {u v : Value} (h : Box2 W B t u v) (x : Value) : Box2 (W.setCell ⟨B, 1, none⟩ x) B t u x := by
 obtain ⟨hlt, hk⟩ := Array.getElem?_eq_some_iff.1 h
 show (W.heap.modify B _)[B]? = _
 rw [Array.getElem?_eq_getElem (by rw [Array.size_modify]; exact hlt), Array.getElem_modify_self, hk]
 rfl
theorem Box2.other {W : World} {B B' o : Nat} {t : TypeId} {u v : Value} (h : Box2 W B t u v) (hne : B ≠ B') (x : Value) : Box2 (W.setCell ⟨B', o, none⟩ x) B t u v :=
 (Below.heap_setCell W ⟨B', o, none⟩ x B hne).trans h
theorem ret_box2 {fn : Func} {p : Tmp} {ty t : TypeId} {R : Ending → World → Prop} {a : Act} {w : World} {B : Nat} {u v : Value} {fs : Array Field} (h : fn.results = #[.cell p ty]) (hp : a.tmps.getD p undef = .pointer (some ⟨B, 0, none⟩)) (hg : Box2 w B t u v)
    (hu : Tryz.prog.underlying ty = some (.struct fs)) (hi : (Tryz.prog.info? ty).map (·.size) = some 2) (hde : a.defers = []) (hR : R (.returned (.agg #[u, v])) w) : bodyPost Tryz.prog fn R .ret a w :=
  bodyPost_ret (results_cell_row h _ _ B t #[u, v] (0, 0) (.struct fs) hp hg hu rfl hi) hde hR
theorem size_int : (Tryz.prog.info? 42).map (·.size) = some 2 := by kernel_rfl
theorem size_number : (Tryz.prog.info? 144).map (·.size) = some 2 := by kernel_rfl
theorem below_sets {w W : World} {B : Nat} (h : Below w.heap.size w W) (hB : w.heap.size ≤ B) (x y : Value) : Below w.heap.size w ((W.setCell ⟨B, 0, none⟩ x).setCell ⟨B, 1, none⟩ y) :=
 (h.setCell (p := ⟨B, 0, none⟩) hB _).setCell (p := ⟨B, 1, none⟩) hB _
theorem below_from {w a b : World} {n : Nat} (h : Below w.heap.size w a) (k : Below n a b) (hn : w.heap.size ≤ n) : Below w.heap.size w b := h.trans (k.mono hn)
theorem iorZero_any {w : World} {n : Bool} {v : Value} {l : List Nat} (h : Reads w v l) (hl : l.length ≤ 1000000) :
  Calls Tryz.prog 134 #[.agg #[.bool n, v]] w fun e w' => e = .returned (.agg #[.bool (izN n l), izS n v l]) ∧ Below w.heap.size w w' := by
 have kb : ∀ W, Below w.heap.size w W → _ := fun W hW => icheck_any (n := n) (h.below hW) hl
 obtain ⟨a, c, rfl⟩ := h.form
 have hb0 : Below w.heap.size w ((w.alloc (.cells #[.bool n, .slice a l.length c] 42)).alloc (.cells #[.bool false, .slice none 0 0] 144)) := ((Below.refl _ _).alloc (Nat.le_refl _) _).alloc (by simp) _
 have B1 := (Box2.new w 42 (.bool n) (.slice a l.length c)).alloc (.cells #[.bool false, .slice none 0 0] 144)
 have B2 := Box2.new1 w (.cells #[.bool n, .slice a l.length c] 42) 144 (.bool false) (.slice none 0 0)
 cases hR : ichk n l with
 | false =>
  have e1 : izN n l = false := by simp [izN, hR]
  have e2 : ∀ v, izS n v l = .slice none 0 0 := fun v => by simp [izS, hR]
  rw [e1, e2]
  rw [hR] at kb
  have kc := kb _ hb0
  clear e1 e2 hR h kb hb0
  go_enter Tryz.func134, Tryz.ntmps134
  go_wp2_with (go_at_call 60; refine kc.mono ?_; rintro e w1 ⟨rfl, r1⟩; have q2 := (B2.below r1).c0; have q3 := (B2.below r1).c1; have q4 := (B2.below r1).fr 0; have q5 := (B2.below r1).fr 1)
  refine ret_box2 rfl rfl (((B2.below r1).set0 _).set1 _) Tryz.underlying144 size_number rfl ?_
  exact ⟨rfl, below_sets (below_from (((Below.refl _ _).alloc (Nat.le_refl _) _).alloc (by simp) _) r1 (by simp; omega)) (by omega) _ _⟩
 | true =>
  have e1 : izN n l = n := by simp [izN, hR]
  have e2 : ∀ v, izS n v l = v := fun v => by simp [izS, hR]
  rw [e1, e2]
  rw [hR] at kb
  have kc := kb _ hb0
  clear e1 e2 hR h kb hb0
  go_enter Tryz.func134, Tryz.ntmps134
  go_wp2_with (go_at_call 60; refine kc.mono ?_; rintro e w1 ⟨rfl, r1⟩; have q0 := (B1.below r1).c0; have q1 := (B1.below r1).c1; have q2 := (B2.below r1).c0; have q3 := (B2.below r1).c1; have q4 := (B2.below r1).fr 0; have q5 := (B2.below r1).fr 1)
  refine ret_box2 rfl rfl (((B2.below r1).set0 _).set1 _) Tryz.underlying144 size_number rfl ?_
  exact ⟨rfl, below_sets (below_from (((Below.refl _ _).alloc (Nat.le_refl _) _).alloc (by simp) _) r1 (by simp; omega)) (by omega) _ _⟩
theorem signed_any (n : Bool) (a : Option Addr) (m c : Nat) (w : World) :
  Calls Tryz.prog 117 #[.bool n, .slice a m c] w fun e w' => e = .returned (.agg #[.bool (n && decide (0 < m)), .slice a m c]) ∧ Below w.heap.size w w' := by
 cases n with
 | false =>
  go_enter Tryz.func117, Tryz.ntmps117
  go_wp2
  refine ret_box2 rfl rfl (Box2.new w _ _ _) Tryz.underlying42 size_int rfl ?_
  exact ⟨by simp, (Below.refl _ _).alloc (Nat.le_refl _) _⟩
 | true =>
  rcases Nat.eq_zero_or_pos m with rfl | h0
  · go_enter Tryz.func117, Tryz.ntmps117
    go_wp2
    refine ret_box2 rfl rfl (Box2.new w _ _ _) Tryz.underlying42 size_int rfl ?_
    exact ⟨by simp, (Below.refl _ _).alloc (Nat.le_refl _) _⟩
  · have hi : 0 < (m : Int) := by omega
    go_enter Tryz.func117, Tryz.ntmps117
    go_wp2
    refine ret_box2 rfl rfl (Box2.new w _ _ _) Tryz.underlying42 size_int rfl ?_
    exact ⟨by simp [h0], (Below.refl _ _).alloc (Nat.le_refl _) _⟩
theorem adding_same (n : Bool) (a : Option Addr) (m c : Nat) (w : World) :
  Calls Tryz.prog 141 #[.agg #[.bool n, .slice a m c], .bool n] w fun e w' => e = .returned (.func (.func 165) #[.agg #[.bool n, .slice a m c]] #[]) ∧ Below w.heap.size w w' := by
 have hmf : ∀ (fn : Fn) (first cap : Array Value) (w : World), (Instr.makeFunc fn first cap).run Tryz.prog w = .ok (.func fn first cap) w := fun _ _ _ _ => rfl
 cases n
 all_goals
  go_enter Tryz.func141, Tryz.ntmps141
  go_wp2
  go_ret
  exact ⟨rfl, (Below.refl _ _).alloc (Nat.le_refl _) _⟩
theorem adding_other (n : Bool) (a : Option Addr) (m c : Nat) (w : World) :
  Calls Tryz.prog 141 #[.agg #[.bool n, .slice a m c], .bool (!n)] w fun e w' => e = .returned (.func (.func 166) #[.agg #[.bool n, .slice a m c]] #[]) ∧ Below w.heap.size w w' := by
 have hmf : ∀ (fn : Fn) (first cap : Array Value) (w : World), (Instr.makeFunc fn first cap).run Tryz.prog w = .ok (.func fn first cap) w := fun _ _ _ _ => rfl
 cases n
 all_goals
  go_enter Tryz.func141, Tryz.ntmps141
  go_wp2
  go_ret
  exact ⟨rfl, (Below.refl _ _).alloc (Nat.le_refl _) _⟩
end
end Go.Proofs.YtgmbaamfobhceaaGreat
