/- Whole numbers: may one be, 0 in its place, a number with its sign. -/
import Derived.Test.YtjcoaoacgcpooaaForm
import Derived.Laws.Rows
namespace Go.Proofs.Ytjcoaoacgcpooaa
open Go Go.Proofs Go.RowKit Go.Shelf Nu

attribute [local go_sem] Oper.semAt_some

/-- may a whole number be? -/
def ichk (n : Bool) (l : List Nat) : Bool := chk l && (!n || decide (0 < l.length))
/-- its sign, its parts; those of 0, if it may not be -/
def izN (n : Bool) (l : List Nat) : Bool := n && ichk n l
def izL (n : Bool) (l : List Nat) : List Nat := if ichk n l then l else []
def izS (n : Bool) (v : Value) (l : List Nat) : Value := if ichk n l then v else .slice none 0 0
/-- a whole number of a sign and an amount -/
def zz (n : Bool) (A : Nat) : Int := if n then -(A : Int) else (A : Int)

theorem izS_reads {W : World} {n : Bool} {v : Value} {l : List Nat} (h : Reads W v l) : Reads W (izS n v l) (izL n l) := by
  unfold izS izL
  split
  · exact h
  · exact Reads.nil W
theorem izL_digs {n : Bool} {l : List Nat} (hs : Sm l) : ∃ A, izL n l = digs A ∧ (izN n l = true → 0 < A) ∧ (digs A).length ≤ l.length := by
  unfold izL izN
  cases h : ichk n l with
  | false => exact ⟨0, by simp [digs_zero], by simp, by simp [digs_zero]⟩
  | true =>
    have hc : chk l = true := by unfold ichk at h; simp at h; exact h.1
    refine ⟨val l, by simp [digs_val hs hc], fun hn => ?_, by rw [digs_val hs hc]; exact Nat.le_refl _⟩
    have h2 : 0 < l.length := by
      unfold ichk at h; simp at h hn
      rcases h.2 with h2 | h2
      · rw [hn] at h2; cases h2
      · exact h2
    rcases Nat.eq_zero_or_pos (val l) with h3 | h3
    · have := digs_val hs hc
      rw [h3, digs_zero] at this
      rw [← this] at h2; simp at h2
    · exact h3

set_option maxHeartbeats 2000000 in
theorem icheck_any {w : World} {n : Bool} {v : Value} {l : List Nat} (h : Reads w v l) (hl : l.length ≤ 1000000) :
    Calls Try.prog 12 #[.agg #[.bool n, v]] w fun e w' => e = .returned (.bool (ichk n l)) ∧ Below w.heap.size w w' := by
  have kb : ∀ W, Below w.heap.size w W → _ := fun W hW => check_any (h.below hW) hl
  obtain ⟨a, c, rfl⟩ := h.form
  obtain ⟨R, hR⟩ : ∃ R, R = chk l := ⟨_, rfl⟩
  rw [← hR] at kb
  have e : ichk n l = (R && (!n || decide (0 < l.length))) := by rw [hR]; rfl
  rw [e]
  clear h hR e hl
  cases R with
  | false =>
    go_enter Try.func12, Try.ntmps12
    go_wp2_with (go_at_call 24; refine (kb _ (by first | assumption | exact (Below.refl _ _).alloc (Nat.le_refl _) _)).mono ?_; rintro e w' ⟨rfl, rfl⟩)
    go_ret
    exact ⟨by simp, (Below.refl _ _).alloc (Nat.le_refl _) _⟩
  | true =>
    cases n with
    | false =>
      go_enter Try.func12, Try.ntmps12
      go_wp2_with (go_at_call 24; refine (kb _ (by first | assumption | exact (Below.refl _ _).alloc (Nat.le_refl _) _)).mono ?_; rintro e w' ⟨rfl, rfl⟩)
      go_ret
      exact ⟨by simp, (Below.refl _ _).alloc (Nat.le_refl _) _⟩
    | true =>
      obtain ⟨m, hm⟩ : ∃ m, m = l.length := ⟨_, rfl⟩
      rw [← hm] at kb ⊢
      clear hm
      rcases Nat.eq_zero_or_pos m with rfl | h0
      · go_enter Try.func12, Try.ntmps12
        go_wp2_with (go_at_call 24; refine (kb _ (by first | assumption | exact (Below.refl _ _).alloc (Nat.le_refl _) _)).mono ?_; rintro e w' ⟨rfl, rfl⟩)
        go_ret
        exact ⟨by simp, (Below.refl _ _).alloc (Nat.le_refl _) _⟩
      · have hi : 0 < (m : Int) := by omega
        go_enter Try.func12, Try.ntmps12
        go_wp2_with (go_at_call 24; refine (kb _ (by first | assumption | exact (Below.refl _ _).alloc (Nat.le_refl _) _)).mono ?_; rintro e w' ⟨rfl, rfl⟩)
        go_ret
        exact ⟨by simp [h0], (Below.refl _ _).alloc (Nat.le_refl _) _⟩

/-- Block B holds a struct of two cells. -/
def Box2 (W : World) (B : Nat) (t : TypeId) (u v : Value) : Prop := W.heap[B]? = some (.cells #[u, v] t (0, 0))
theorem Box2.new (W : World) (t : TypeId) (u v : Value) : Box2 (W.alloc (.cells #[u, v] t)) W.heap.size t u v := World.alloc_heap_new W _
theorem Box2.lt {W : World} {B : Nat} {t : TypeId} {u v : Value} (h : Box2 W B t u v) : B < W.heap.size := (Array.getElem?_eq_some_iff.1 h).1
theorem Box2.alloc {W : World} {B : Nat} {t : TypeId} {u v : Value} (h : Box2 W B t u v) (o : Obj) : Box2 (W.alloc o) B t u v := (Below.heap_alloc W o B h.lt).trans h
theorem Box2.new1 (W : World) (o : Obj) (t : TypeId) (u v : Value) : Box2 ((W.alloc o).alloc (.cells #[u, v] t)) (W.heap.size + 1) t u v := by
  have := Box2.new (W.alloc o) t u v; rwa [World.size_alloc] at this
theorem Box2.below {W W' : World} {B : Nat} {t : TypeId} {u v : Value} (h : Box2 W B t u v) (hb : Below W.heap.size W W') : Box2 W' B t u v := (hb.block B h.lt).trans h
theorem Box2.drew {W : World} {B : Nat} {t : TypeId} {u v : Value} (h : Box2 W B t u v) : Box2 W.drew B t u v := h
theorem Box2.c0 {W : World} {B : Nat} {t : TypeId} {u v : Value} (h : Box2 W B t u v) : W.cell? ⟨B, 0, none⟩ = some u := by
  unfold World.cell?; rw [show W.heap[B]? = _ from h]; rfl
theorem Box2.c1 {W : World} {B : Nat} {t : TypeId} {u v : Value} (h : Box2 W B t u v) : W.cell? ⟨B, 1, none⟩ = some v := by
  unfold World.cell?; rw [show W.heap[B]? = _ from h]; rfl
theorem Box2.fr {W : World} {B : Nat} {t : TypeId} {u v : Value} (h : Box2 W B t u v) (o : Nat) : W.frozen? ⟨B, o, none⟩ = false := by
  unfold World.frozen?; rw [show W.heap[B]? = _ from h]; simp
theorem Box2.set0 {W : World} {B : Nat} {t : TypeId} {u v : Value} (h : Box2 W B t u v) (x : Value) : Box2 (W.setCell ⟨B, 0, none⟩ x) B t x v := by
  obtain ⟨hlt, hk⟩ := Array.getElem?_eq_some_iff.1 h
  show (W.heap.modify B _)[B]? = _
  rw [Array.getElem?_eq_getElem (by rw [Array.size_modify]; exact hlt), Array.getElem_modify_self, hk]
  rfl
theorem Box2.set1 {W : World} {B : Nat} {t : TypeId} {u v : Value} (h : Box2 W B t u v) (x : Value) : Box2 (W.setCell ⟨B, 1, none⟩ x) B t u x := by
  obtain ⟨hlt, hk⟩ := Array.getElem?_eq_some_iff.1 h
  show (W.heap.modify B _)[B]? = _
  rw [Array.getElem?_eq_getElem (by rw [Array.size_modify]; exact hlt), Array.getElem_modify_self, hk]
  rfl
theorem Box2.other {W : World} {B B' o : Nat} {t : TypeId} {u v : Value} (h : Box2 W B t u v) (hne : B ≠ B') (x : Value) : Box2 (W.setCell ⟨B', o, none⟩ x) B t u v :=
  (Below.heap_setCell W ⟨B', o, none⟩ x B hne).trans h
theorem ret_box2 {fn : Func} {p : Tmp} {ty t : TypeId} {R : Ending → World → Prop} {a : Act} {w : World} {B : Nat} {u v : Value} {fs : Array Field} (h : fn.results = #[.cell p ty]) (hp : a.tmps.getD p undef = .pointer (some ⟨B, 0, none⟩)) (hg : Box2 w B t u v)
    (hu : Try.prog.underlying ty = some (.struct fs)) (hi : (Try.prog.info? ty).map (·.size) = some 2) (hde : a.defers = []) (hR : R (.returned (.agg #[u, v])) w) : bodyPost Try.prog fn R .ret a w :=
  bodyPost_ret (results_cell_row h _ _ B t #[u, v] (0, 0) (.struct fs) hp hg hu rfl hi) hde hR
theorem size_int : (Try.prog.info? 25).map (·.size) = some 2 := by kernel_rfl
theorem size_number : (Try.prog.info? 52).map (·.size) = some 2 := by kernel_rfl
theorem below_sets {w W : World} {B : Nat} (h : Below w.heap.size w W) (hB : w.heap.size ≤ B) (x y : Value) : Below w.heap.size w ((W.setCell ⟨B, 0, none⟩ x).setCell ⟨B, 1, none⟩ y) :=
  (h.setCell (p := ⟨B, 0, none⟩) hB _).setCell (p := ⟨B, 1, none⟩) hB _
theorem below_from {w a b : World} {n : Nat} (h : Below w.heap.size w a) (k : Below n a b) (hn : w.heap.size ≤ n) : Below w.heap.size w b := h.trans (k.mono hn)

set_option maxHeartbeats 2000000 in
theorem iorZero_any {w : World} {n : Bool} {v : Value} {l : List Nat} (h : Reads w v l) (hl : l.length ≤ 1000000) :
    Calls Try.prog 30 #[.agg #[.bool n, v]] w fun e w' => e = .returned (.agg #[.bool (izN n l), izS n v l]) ∧ Below w.heap.size w w' := by
  have kb : ∀ W, Below w.heap.size w W → _ := fun W hW => icheck_any (n := n) (h.below hW) hl
  obtain ⟨a, c, rfl⟩ := h.form
  have hb0 : Below w.heap.size w ((w.alloc (.cells #[.bool n, .slice a l.length c] 25)).alloc (.cells #[.bool false, .slice none 0 0] 52)) := ((Below.refl _ _).alloc (Nat.le_refl _) _).alloc (by simp) _
  have B1 := (Box2.new w 25 (.bool n) (.slice a l.length c)).alloc (.cells #[.bool false, .slice none 0 0] 52)
  have B2 := Box2.new1 w (.cells #[.bool n, .slice a l.length c] 25) 52 (.bool false) (.slice none 0 0)
  cases hR : ichk n l with
  | false =>
    have e1 : izN n l = false := by simp [izN, hR]
    have e2 : ∀ v, izS n v l = .slice none 0 0 := fun v => by simp [izS, hR]
    rw [e1, e2]
    rw [hR] at kb
    have kc := kb _ hb0
    clear e1 e2 hR h kb hb0
    go_enter Try.func30, Try.ntmps30
    go_wp2_with (go_at_call 12; refine kc.mono ?_; rintro e w1 ⟨rfl, r1⟩; have q2 := (B2.below r1).c0; have q3 := (B2.below r1).c1; have q4 := (B2.below r1).fr 0; have q5 := (B2.below r1).fr 1)
    refine ret_box2 rfl rfl (((B2.below r1).set0 _).set1 _) Try.underlying52 size_number rfl ?_
    exact ⟨rfl, below_sets (below_from (((Below.refl _ _).alloc (Nat.le_refl _) _).alloc (by simp) _) r1 (by simp; omega)) (by omega) _ _⟩
  | true =>
    have e1 : izN n l = n := by simp [izN, hR]
    have e2 : ∀ v, izS n v l = v := fun v => by simp [izS, hR]
    rw [e1, e2]
    rw [hR] at kb
    have kc := kb _ hb0
    clear e1 e2 hR h kb hb0
    go_enter Try.func30, Try.ntmps30
    go_wp2_with (go_at_call 12; refine kc.mono ?_; rintro e w1 ⟨rfl, r1⟩; have q0 := (B1.below r1).c0; have q1 := (B1.below r1).c1; have q2 := (B2.below r1).c0; have q3 := (B2.below r1).c1; have q4 := (B2.below r1).fr 0; have q5 := (B2.below r1).fr 1)
    refine ret_box2 rfl rfl (((B2.below r1).set0 _).set1 _) Try.underlying52 size_number rfl ?_
    exact ⟨rfl, below_sets (below_from (((Below.refl _ _).alloc (Nat.le_refl _) _).alloc (by simp) _) r1 (by simp; omega)) (by omega) _ _⟩

theorem signed_any (n : Bool) (a : Option Addr) (m c : Nat) (w : World) :
    Calls Try.prog 32 #[.bool n, .slice a m c] w fun e w' => e = .returned (.agg #[.bool (n && decide (0 < m)), .slice a m c]) ∧ Below w.heap.size w w' := by
  cases n with
  | false =>
    go_enter Try.func32, Try.ntmps32
    go_wp2
    refine ret_box2 rfl rfl (Box2.new w _ _ _) Try.underlying25 size_int rfl ?_
    exact ⟨by simp, (Below.refl _ _).alloc (Nat.le_refl _) _⟩
  | true =>
    rcases Nat.eq_zero_or_pos m with rfl | h0
    · go_enter Try.func32, Try.ntmps32
      go_wp2
      refine ret_box2 rfl rfl (Box2.new w _ _ _) Try.underlying25 size_int rfl ?_
      exact ⟨by simp, (Below.refl _ _).alloc (Nat.le_refl _) _⟩
    · have hi : 0 < (m : Int) := by omega
      go_enter Try.func32, Try.ntmps32
      go_wp2
      refine ret_box2 rfl rfl (Box2.new w _ _ _) Try.underlying25 size_int rfl ?_
      exact ⟨by simp [h0], (Below.refl _ _).alloc (Nat.le_refl _) _⟩

theorem adding_same (n : Bool) (a : Option Addr) (m c : Nat) (w : World) :
    Calls Try.prog 31 #[.agg #[.bool n, .slice a m c], .bool n] w fun e w' => e = .returned (.func (.func 48) #[.agg #[.bool n, .slice a m c]] #[]) ∧ Below w.heap.size w w' := by
  have hmf : ∀ (fn : Fn) (first cap : Array Value) (w : World), (Instr.makeFunc fn first cap).run Try.prog w = .ok (.func fn first cap) w := fun _ _ _ _ => rfl
  cases n
  all_goals
    go_enter Try.func31, Try.ntmps31
    go_wp2
    go_ret
    exact ⟨rfl, (Below.refl _ _).alloc (Nat.le_refl _) _⟩
theorem adding_other (n : Bool) (a : Option Addr) (m c : Nat) (w : World) :
    Calls Try.prog 31 #[.agg #[.bool n, .slice a m c], .bool (!n)] w fun e w' => e = .returned (.func (.func 49) #[.agg #[.bool n, .slice a m c]] #[]) ∧ Below w.heap.size w w' := by
  have hmf : ∀ (fn : Fn) (first cap : Array Value) (w : World), (Instr.makeFunc fn first cap).run Try.prog w = .ok (.func fn first cap) w := fun _ _ _ _ => rfl
  cases n
  all_goals
    go_enter Try.func31, Try.ntmps31
    go_wp2
    go_ret
    exact ⟨rfl, (Below.refl _ _).alloc (Nat.le_refl _) _⟩

end Go.Proofs.Ytjcoaoacgcpooaa
