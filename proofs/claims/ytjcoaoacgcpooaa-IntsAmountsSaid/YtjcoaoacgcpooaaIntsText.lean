/- Whole numbers: their texts, and back. -/
import Derived.Test.YtjcoaoacgcpooaaIntsMore
import Derived.Test.YtjcoaoacgcpooaaDec
import Derived.Test.YtjcoaoacgcpooaaLayB
import Derived.Laws.ResultCell
namespace Go.Proofs.Ytjcoaoacgcpooaa
open Go Go.Proofs Go.RowKit Go.Shelf Nu

attribute [local go_sem] Oper.semAt_some

/-- a whole number's text -/
def itxt (X : Int) : ByteArray := if X < 0 then ⟨#[45]⟩ ++ txt X.natAbs else txt X.natAbs

theorem cut_any (s : ByteArray) (w : World) : Calls Try.prog 37 #[.string s, .string ⟨#[45]⟩] w fun e w' => e = .returned (.tuple #[.string ⟨(Lib.trimPrefix s.data.toList [45]).toArray⟩, .bool (Lib.hasPrefix s.data.toList [45])]) ∧ w' = w :=
  Any.strings_CutPrefix Ytjcoaoacgcpooaa.cutL s ⟨#[45]⟩ w

set_option maxHeartbeats 2000000 in
theorem i_text {w : World} {v1 : Value} {l1 : List Nat} {n1 : Bool} (S : ByteArray) (h1 : Reads w v1 l1) (k1 : l1.length ≤ 50000) (s1 : Sm l1) (hS : S = itxt (zv n1 l1)) :
    Calls Try.prog 22 #[.agg #[.bool n1, v1]] w fun e w' => e = .returned (.string S) ∧ Below w.heap.size w w' := by
  obtain ⟨m1, p1, q1, A, e1, f1, r1, z1, t1, y1⟩ := iarg (n := n1) h1 s1
  have ko1 : ∀ W, Below w.heap.size w W → _ := fun W hW => iorZero_any (n := n1) (h1.below hW) (by omega)
  rw [e1, f1] at ko1
  rw [y1] at hS
  have kt : ∀ W, Below w.heap.size w W → _ := fun W hW => text_any (r1.below hW) (sm_digs _) (chk_digs _) (by omega) (txt A) (by rw [val_digs]; rfl)
  obtain ⟨s, t, c, rfl⟩ := h1.parts
  have h0 : Below w.heap.size w (w.alloc (.cells #[.bool n1, .slice s t c] 25)) := (Below.refl _ _).alloc (Nat.le_refl _) _
  cases m1
  · have e : S = txt A := by rw [hS, zz_f]; unfold itxt; rw [if_neg (by omega)]; rfl
    rw [e]
    clear e hS h1 r1 k1 s1 y1 z1 t1
    go_enter Try.func22, Try.ntmps22
    go_wp2_with (first
      | (go_at_call 30; refine (ko1 _ h0).mono ?_; clear ko1; rintro e w1 ⟨rfl, r1⟩; have h2 := then_below h0 r1; have X := Box2.new w1 52 (.bool false) (.slice p1 (digs A).length q1); have h3 := h2.alloc h2.size (.cells #[.bool false, .slice p1 (digs A).length q1] 52))
      | (go_at_call 36; refine (kt _ h3).mono ?_; clear kt; rintro e w2 ⟨rfl, r2⟩))
    go_ret
    exact ⟨rfl, then_below h3 r2⟩
  · have hA := z1 rfl
    have e : S = ⟨#[45]⟩ ++ txt A := by
      rw [hS, zz_t]; unfold itxt; rw [if_pos (by omega)]
      congr 2
      omega
    rw [e]
    have hsz : ¬ 9223372036854775807 < 1 + (txt A).size := by
      rw [txt_size]
      have := low_len_val (sm_digs A)
      rw [val_digs] at this
      omega
    clear e hS h1 r1 k1 s1 y1 z1 t1 hA
    go_enter Try.func22, Try.ntmps22
    go_wp2_with (first
      | (go_at_call 30; refine (ko1 _ h0).mono ?_; clear ko1; rintro e w1 ⟨rfl, r1⟩; have h2 := then_below h0 r1; have X := Box2.new w1 52 (.bool true) (.slice p1 (digs A).length q1); have h3 := h2.alloc h2.size (.cells #[.bool true, .slice p1 (digs A).length q1] 52))
      | (go_at_call 36; refine (kt _ h3).mono ?_; clear kt; rintro e w2 ⟨rfl, r2⟩))
    go_ret
    exact ⟨rfl, then_below h3 r2⟩

theorem ret_box2_tmp {fn : Func} {p q : Tmp} {ty t : TypeId} {R : Ending → World → Prop} {a : Act} {w : World} {B : Nat} {u v x : Value} {fs : Array Field} (h : fn.results = #[.cell p ty, .tmp q]) (hp : a.tmps.getD p undef = .pointer (some ⟨B, 0, none⟩)) (hx : a.tmps.getD q undef = x) (hg : Box2 w B t u v)
    (hu : Try.prog.underlying ty = some (.struct fs)) (hi : (Try.prog.info? ty).map (·.size) = some 2) (hde : a.defers = []) (hR : R (.returned (.tuple #[.agg #[u, v], x])) w) : bodyPost Try.prog fn R .ret a w := by
  refine bodyPost_ret (v := .tuple #[.agg #[u, v], x]) ?_ hde hR
  rw [results_cell_tmp h, hp, hx]
  simp [asAddr, run_loadVar_row (P := Try.prog) w B t ty #[u, v] (0, 0) (.struct fs) hg hu rfl hi, Result.andThen]

section
variable {s d : ByteArray} {neg : Bool} {w : World}
/-- Parse, where the digits are none -/
theorem i_parse_no (E : Int) (hE : E ≠ 0) (hk : ∀ W, Calls Try.prog 37 #[.string s, .string ⟨#[45]⟩] W fun e w' => e = .returned (.tuple #[.string d, .bool neg]) ∧ w' = W)
    (kp : ∀ W, Calls Try.prog 38 #[.string d] W fun e w' => e = .returned (.tuple #[.slice none 0 0, .int .i64 E]) ∧ Below W.heap.size W w') :
    Calls Try.prog 23 #[.string s] w fun e w' => e = .returned (.tuple #[.agg #[.bool false, .slice none 0 0], .int .i64 E]) ∧ Below w.heap.size w w' := by
  have B := Box2.new w 25 (.bool false) (.slice none 0 0)
  have h0 : Below w.heap.size w (w.alloc (.cells #[.bool false, .slice none 0 0] 25)) := (Below.refl _ _).alloc (Nat.le_refl _) _
  have hb : (E != 0) = true := by simpa using hE
  clear hE
  go_enter Try.func23, Try.ntmps23
  go_wp2_with (first
    | (go_at_call 37; refine (hk _).mono ?_; clear hk; rintro e w' ⟨rfl, rfl⟩)
    | (go_at_call 38; refine (kp _).mono ?_; clear kp; rintro e w1 ⟨rfl, r1⟩; have B1 := B.below r1; have z2 := B1.c0; have z3 := B1.c1; have z4 := B1.fr 0; have z5 := B1.fr 1; have h3 := then_below h0 r1))
  refine ret_box2_tmp rfl rfl rfl ((B1.set0 _).set1 _) Try.underlying25 size_int rfl ?_
  exact ⟨rfl, below_sets h3 (Nat.le_refl _) _ _⟩
set_option maxHeartbeats 1000000 in
/-- .. where a hyphen stands ahead of 0 -/
theorem i_parse_zero (hk : ∀ W, Calls Try.prog 37 #[.string s, .string ⟨#[45]⟩] W fun e w' => e = .returned (.tuple #[.string d, .bool true]) ∧ w' = W) {L : Nat} (hL : L = 0)
    (kp : ∀ W, Calls Try.prog 38 #[.string d] W fun e w' => ∃ a c, e = .returned (.tuple #[.slice a L c, .int .i64 0]) ∧ Below W.heap.size W w') :
    Calls Try.prog 23 #[.string s] w fun e w' => e = .returned (.tuple #[.agg #[.bool false, .slice none 0 0], .int .i64 4]) ∧ Below w.heap.size w w' := by
  subst hL
  have B := Box2.new w 25 (.bool false) (.slice none 0 0)
  have h0 : Below w.heap.size w (w.alloc (.cells #[.bool false, .slice none 0 0] 25)) := (Below.refl _ _).alloc (Nat.le_refl _) _
  go_enter Try.func23, Try.ntmps23
  go_wp2_with (first
    | (go_at_call 37; refine (hk _).mono ?_; clear hk; rintro e w' ⟨rfl, rfl⟩)
    | (go_at_call 38; refine (kp _).mono ?_; clear kp; rintro e w1 ⟨a, c, rfl, r1⟩; have B1 := B.below r1; have z2 := B1.c0; have z3 := B1.c1; have z4 := B1.fr 0; have z5 := B1.fr 1; have h3 := then_below h0 r1))
  refine ret_box2_tmp rfl rfl rfl ((B1.set0 _).set1 _) Try.underlying25 size_int rfl ?_
  exact ⟨rfl, below_sets h3 (Nat.le_refl _) _ _⟩
set_option maxHeartbeats 1000000 in
/-- .. where it is read -/
theorem i_parse_yes {M : Nat} (hM : neg = true → 0 < M) (hk : ∀ W, Calls Try.prog 37 #[.string s, .string ⟨#[45]⟩] W fun e w' => e = .returned (.tuple #[.string d, .bool neg]) ∧ w' = W)
    (kp : ∀ W, Calls Try.prog 38 #[.string d] W fun e w' => ∃ a c, e = .returned (.tuple #[.slice a (digs M).length c, .int .i64 0]) ∧ Reads w' (.slice a (digs M).length c) (digs M) ∧ Below W.heap.size W w') :
    Calls Try.prog 23 #[.string s] w fun e w' => ∃ a c, e = .returned (.tuple #[.agg #[.bool neg, .slice a (digs M).length c], .int .i64 0]) ∧ Reads w' (.slice a (digs M).length c) (digs M) ∧ Below w.heap.size w w' := by
  have B := Box2.new w 25 (.bool false) (.slice none 0 0)
  have h0 : Below w.heap.size w (w.alloc (.cells #[.bool false, .slice none 0 0] 25)) := (Below.refl _ _).alloc (Nat.le_refl _) _
  have ks := fun V a c => signed_any neg a (digs M).length c V
  rw [dec_digs, show (neg && decide (0 < M)) = neg by cases neg; rfl; simpa using hM rfl] at ks
  cases neg
  · go_enter Try.func23, Try.ntmps23
    go_wp2_with (first
      | (go_at_call 37; refine (hk _).mono ?_; clear hk; rintro e w' ⟨rfl, rfl⟩)
      | (go_at_call 38; refine (kp _).mono ?_; clear kp; rintro e w1 ⟨a, c, rfl, g, r1⟩; have B1 := B.below r1; have h3 := then_below h0 r1)
      | (go_at_call 32; refine (ks _ _ _).mono ?_; clear ks; rintro e w2 ⟨rfl, r2⟩; have B2 := B1.below r2; have z2 := B2.c0; have z3 := B2.c1; have z4 := B2.fr 0; have z5 := B2.fr 1; have h4 := then_below h3 r2))
    refine ret_box2_tmp rfl rfl rfl ((B2.set0 _).set1 _) Try.underlying25 size_int rfl ?_
    exact ⟨a, c, rfl, (g.below r2).sets B2, below_sets h4 (Nat.le_refl _) _ _⟩
  · have hpos := digs_len_pos (n := M) (by have := hM rfl; omega)
    have hn : (((digs M).length : Int) == 0) = false := beq_eq_false_iff_ne.2 (by omega)
    clear hM hpos
    go_enter Try.func23, Try.ntmps23
    go_wp2_with (first
      | (go_at_call 37; refine (hk _).mono ?_; clear hk; rintro e w' ⟨rfl, rfl⟩)
      | (go_at_call 38; refine (kp _).mono ?_; clear kp; rintro e w1 ⟨a, c, rfl, g, r1⟩; have B1 := B.below r1; have h3 := then_below h0 r1)
      | (go_at_call 32; refine (ks _ _ _).mono ?_; clear ks; rintro e w2 ⟨rfl, r2⟩; have B2 := B1.below r2; have z2 := B2.c0; have z3 := B2.c1; have z4 := B2.fr 0; have z5 := B2.fr 1; have h4 := then_below h3 r2))
    refine ret_box2_tmp rfl rfl rfl ((B2.set0 _).set1 _) Try.underlying25 size_int rfl ?_
    exact ⟨a, c, rfl, (g.below r2).sets B2, below_sets h4 (Nat.le_refl _) _ _⟩
end

end Go.Proofs.Ytjcoaoacgcpooaa
