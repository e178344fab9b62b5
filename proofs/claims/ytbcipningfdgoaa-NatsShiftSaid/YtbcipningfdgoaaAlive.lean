/- The law package's own test of some answers. -/
import Derived.Test.YtbcipningfdgoaaGcd
import Derived.Test.YtbcipningfdgoaaTextC
import Derived.Test.YtbcipningfdgoaaAdd
import Derived.Test.YtbcipningfdgoaaMul
import Derived.Test.YtbcipningfdgoaaSub
import Derived.Test.YtbcipningfdgoaaDiv
import Derived.Test.YtbcipningfdgoaaParseB
namespace Go.Proofs.Ytbcipningfdgoaa
open Go Go.Proofs Go.RowKit Go.Shelf Nu

theorem lit_fresh (W : World) (l : List Nat) (hl : l.length ≤ 10) : Fresh (W.alloc (.cells (l.map u32v).toArray 37)) W.heap.size (.slice (some ⟨W.heap.size, 0, none⟩) l.length l.length) l :=
  ⟨by simp, .inr ⟨W.heap.size, l.length, _, rfl, Nat.le_refl _, World.alloc_heap_new W _, Nat.le_refl _, small_max (by omega), by simp, by simp [List.take_of_length_le]⟩⟩
theorem lit_fresh2 (W : World) (o : Obj) (l : List Nat) (hl : l.length ≤ 10) : Fresh ((W.alloc o).alloc (.cells (l.map u32v).toArray 37)) W.heap.size (.slice (some ⟨W.heap.size + 1, 0, none⟩) l.length l.length) l := by
  have h := lit_fresh (W.alloc o) l hl
  rw [World.size_alloc] at h
  exact h.mono (by omega)
theorem below1 {W w' : World} {o : Obj} (h : Below (W.alloc o).heap.size (W.alloc o) w') : Below W.heap.size W w' :=
  ((Below.refl _ W).alloc (Nat.le_refl _) o).trans (h.mono (by rw [World.size_alloc]; omega))
theorem below2 {W w' : World} {o o2 : Obj} (h : Below ((W.alloc o).alloc o2).heap.size ((W.alloc o).alloc o2) w') : Below W.heap.size W w' := below1 (below1 h)
theorem digs_lit {l : List Nat} (hs : Sm l) (hc : chk l = true) {n : Nat} (h : val l = n) : digs n = l := by rw [← h]; exact digs_val hs hc
theorem sm1 {a : Nat} (h : a < 4294967296) : Sm [a] := Sm.cons h Sm.nil
theorem sm2 {a b : Nat} (h : a < 4294967296) (h2 : b < 4294967296) : Sm [a, b] := Sm.cons h (sm1 h2)
theorem sm3 {a b c : Nat} (h : a < 4294967296) (h2 : b < 4294967296) (h3 : c < 4294967296) : Sm [a, b, c] := Sm.cons h (sm2 h2 h3)

theorem alive_b1 (W : World) : Calls Try.prog 25 #[.slice (some ⟨W.heap.size, 0, none⟩) 2 2] (W.alloc (.cells #[.int .u32 0, .int .u32 1] 37)) fun e w' => e = .returned (.tuple #[.int .u64 4294967296, .int .i64 0]) ∧ Below W.heap.size W w' :=
  (back_any' (lit_fresh W [0, 1] (by decide)).reads (by decide) (sm2 (by decide) (by decide))).mono fun _ _ ⟨h1, h2⟩ => ⟨h1.trans (by simp [backV, chk, val]), below1 h2⟩
theorem alive_b2 (W : World) : Calls Try.prog 25 #[.slice (some ⟨W.heap.size, 0, none⟩) 3 3] (W.alloc (.cells #[.int .u32 0, .int .u32 0, .int .u32 1] 37)) fun e w' => e = .returned (.tuple #[.int .u64 0, .int .i64 3]) ∧ Below W.heap.size W w' :=
  (back_any' (lit_fresh W [0, 0, 1] (by decide)).reads (by decide) (sm3 (by decide) (by decide) (by decide))).mono fun _ _ ⟨h1, h2⟩ => ⟨h1.trans (by simp [backV, chk]), below1 h2⟩
theorem alive_s1 (W : World) : Calls Try.prog 19 #[.slice (some ⟨W.heap.size, 0, none⟩) 1 1, .slice (some ⟨W.heap.size + 1, 0, none⟩) 1 1] ((W.alloc (.cells #[.int .u32 1] 37)).alloc (.cells #[.int .u32 2] 37)) fun e w' => e = .returned (.tuple #[.slice none 0 0, .int .i64 1]) ∧ Below W.heap.size W w' :=
  (sub_bad ((lit_fresh W [1] (by decide)).allocs _).reads (lit_fresh2 W _ [2] (by decide)).reads (by decide) (by decide) (sm1 (by decide)) (sm1 (by decide)) (.inr (.inr (by decide)))).mono fun _ _ ⟨h1, h2⟩ => ⟨h1, below2 h2⟩
theorem alive_d1 (W : World) : Calls Try.prog 16 #[.slice (some ⟨W.heap.size, 0, none⟩) 1 1, .slice (some ⟨W.heap.size + 1, 0, none⟩) 1 1] ((W.alloc (.cells #[.int .u32 7] 37)).alloc (.cells #[.int .u32 2] 37)) fun e w' => ∃ a1 c1 a2 c2, e = .returned (.tuple #[.slice a1 1 c1, .slice a2 1 c2, .int .i64 0]) ∧ Fresh w' W.heap.size (.slice a1 1 c1) [3] ∧ Fresh w' W.heap.size (.slice a2 1 c2) [1] ∧ Below W.heap.size W w' := by
  have h1 := ((lit_fresh W [7] (by decide)).allocs (.cells ([2].map u32v).toArray 37)).reads
  have h2 := (lit_fresh2 W (.cells ([7].map u32v).toArray 37) [2] (by decide)).reads
  have kd := divide_one h1 h2 (by decide) (sm1 (by decide)) (by decide) (by decide) (by decide) (by decide)
  rw [digs_lit (l := [3]) (sm1 (by decide)) (by decide) (by decide), digs_lit (l := [1]) (sm1 (by decide)) (by decide) (by decide)] at kd
  refine (div_of h1 h2 (by decide) (by decide) (by decide) (by decide) (by decide) kd).mono ?_
  rintro e w' ⟨v1, v2, rfl, f1, f2, hb⟩
  obtain ⟨a1, c1, rfl⟩ := f1.reads.form
  obtain ⟨a2, c2, rfl⟩ := f2.reads.form
  exact ⟨a1, c1, a2, c2, rfl, f1.mono (by simp; omega), f2.mono (by simp; omega), below2 hb⟩
theorem alive_d2 (W : World) : Calls Try.prog 16 #[.slice (some ⟨W.heap.size, 0, none⟩) 1 1, .slice none 0 0] (W.alloc (.cells #[.int .u32 7] 37)) fun e w' => e = .returned (.tuple #[.slice none 0 0, .slice none 0 0, .int .i64 10]) ∧ Below W.heap.size W w' :=
  (div_zero (lit_fresh W [7] (by decide)).reads (.inl ⟨rfl, rfl⟩) (by decide) (by decide)).mono fun _ _ ⟨h1, h2⟩ => ⟨h1, by rw [h2]; exact (Below.refl _ W).alloc (Nat.le_refl _) _⟩

/-- 2 to the power of 64, as a text -/
abbrev two64 : ByteArray := ⟨#[49, 56, 52, 52, 54, 55, 52, 52, 48, 55, 51, 55, 48, 57, 53, 53, 49, 54, 49, 54]⟩
theorem two64_num : isNum two64 := ⟨by decide, by decide⟩
theorem two64_val : numv two64 two64.size = 18446744073709551616 := by decide
theorem alive_p1 (W : World) : Calls Try.prog 23 #[.string two64] W fun e w' => ∃ a c, e = .returned (.tuple #[.slice a 3 c, .int .i64 0]) ∧ Fresh w' W.heap.size (.slice a 3 c) [0, 0, 1] ∧ Below W.heap.size W w' := by
  have k := parse_ok two64 W two64_num (by decide)
  rw [two64_val, digs_lit (l := [0, 0, 1]) (sm3 (by decide) (by decide) (by decide)) (by decide) (by decide)] at k
  refine k.mono ?_
  rintro e w' ⟨v, rfl, f, hb⟩
  obtain ⟨a, c, rfl⟩ := f.reads.form
  exact ⟨a, c, rfl, f, hb⟩
theorem alive_p2 (W : World) : Calls Try.prog 23 #[.string ⟨#[48, 49]⟩] W fun e w' => e = .returned (.tuple #[.slice none 0 0, .int .i64 4]) ∧ Below W.heap.size W w' :=
  parse_form ⟨#[48, 49]⟩ W (by decide) (by unfold isNum; decide)
theorem alive_t1 (W : World) {a : Option Addr} {c : Nat} (h : Reads W (.slice a 3 c) [0, 0, 1]) : Calls Try.prog 22 #[.slice a 3 c] W fun e w' => e = .returned (.string two64) ∧ Below W.heap.size W w' :=
  text_any h (sm3 (by decide) (by decide) (by decide)) (by decide) (by decide) two64 (by
    have : low (val [0, 0, 1]) = [54, 49, 54, 49, 53, 53, 57, 48, 55, 51, 55, 48, 52, 52, 55, 54, 52, 52, 56, 49] := by
      rw [show val [0, 0, 1] = 18446744073709551616 by decide]
      simp [low]
    rw [this]; rfl)

theorem alive_same (W : World) {a : Option Addr} {n c : Nat} {l : List Nat} (h : Reads W (.slice a n c) l) (hl : l.length ≤ 10) {l2 : List Nat} (e : l2 = l) {vs : Array Value} (hv : vs = (l2.map u32v).toArray) {m : Nat} (hm : m = l2.length) :
    Calls Try.prog 15 #[.slice a n c, .slice (some ⟨W.heap.size, 0, none⟩) m m] (W.alloc (.cells vs 37)) fun e w' => e = .returned (.bool true) ∧ Below W.heap.size W w' := by
  subst e; subst hv; subst hm
  refine (sameNat_any (h.below ((Below.refl _ W).alloc (Nat.le_refl _) _)) (lit_fresh W l2 hl).reads (by omega) (by omega)).mono ?_
  rintro e w' ⟨rfl, n, rfl⟩
  exact ⟨by simp, ⟨rfl, rfl, rfl, by show W.heap.size ≤ (W.alloc _).heap.size; simp, fun k hk => Below.heap_alloc W _ k hk⟩⟩
theorem alive_a1 (W : World) : Calls Try.prog 12 #[.slice (some ⟨W.heap.size, 0, none⟩) 1 1, .slice (some ⟨W.heap.size + 1, 0, none⟩) 1 1] ((W.alloc (.cells #[.int .u32 4294967295] 37)).alloc (.cells #[.int .u32 1] 37)) fun e w' => ∃ a c, e = .returned (.slice a 2 c) ∧ Reads w' (.slice a 2 c) [0, 1] ∧ Below W.heap.size W w' := by
  have h1 := ((lit_fresh W [4294967295] (by decide)).allocs (.cells ([1].map u32v).toArray 37)).reads
  have h2 := (lit_fresh2 W (.cells ([4294967295].map u32v).toArray 37) [1] (by decide)).reads
  have k := add_any h1 h2 (by decide) (by decide) (sm1 (by decide)) (sm1 (by decide))
  rw [digs_lit (l := [0, 1]) (sm2 (by decide) (by decide)) (by decide) (by decide)] at k
  refine k.mono ?_
  rintro e w' ⟨v, rfl, f, hb⟩
  obtain ⟨a, c, rfl⟩ := f.reads.form
  exact ⟨a, c, rfl, f.reads, below2 hb⟩
theorem alive_m1 (W : World) : Calls Try.prog 13 #[.slice (some ⟨W.heap.size, 0, none⟩) 1 1, .slice (some ⟨W.heap.size + 1, 0, none⟩) 1 1] ((W.alloc (.cells #[.int .u32 4294967295] 37)).alloc (.cells #[.int .u32 4294967295] 37)) fun e w' => ∃ a c, e = .returned (.slice a 2 c) ∧ Reads w' (.slice a 2 c) [1, 4294967294] ∧ Below W.heap.size W w' := by
  have h1 := ((lit_fresh W [4294967295] (by decide)).allocs (.cells ([4294967295].map u32v).toArray 37)).reads
  have h2 := (lit_fresh2 W (.cells ([4294967295].map u32v).toArray 37) [4294967295] (by decide)).reads
  have k := mul_any h1 h2 (by decide) (by decide) (sm1 (by decide)) (sm1 (by decide))
  rw [digs_lit (l := [1, 4294967294]) (sm2 (by decide) (by decide)) (by decide) (by decide)] at k
  refine k.mono ?_
  rintro e w' ⟨v, rfl, f, hb⟩
  obtain ⟨a, c, rfl⟩ := f.reads.form
  exact ⟨a, c, rfl, f.reads, below2 hb⟩
theorem alive_g1 (W : World) : Calls Try.prog 20 #[.slice (some ⟨W.heap.size, 0, none⟩) 1 1, .slice (some ⟨W.heap.size + 1, 0, none⟩) 1 1] ((W.alloc (.cells #[.int .u32 12] 37)).alloc (.cells #[.int .u32 18] 37)) fun e w' => ∃ a c, e = .returned (.slice a 1 c) ∧ Reads w' (.slice a 1 c) [6] ∧ Below W.heap.size W w' := by
  have h1 := ((lit_fresh W [12] (by decide)).allocs (.cells ([18].map u32v).toArray 37)).reads
  have h2 := (lit_fresh2 W (.cells ([12].map u32v).toArray 37) [18] (by decide)).reads
  have k := gcd_two h1 h2 (by decide) (by decide) (sm1 (by decide)) (sm1 (by decide)) (by decide) (by decide) (by decide) (by decide)
  rw [digs_lit (l := [6]) (sm1 (by decide)) (by decide) (by decide)] at k
  refine k.mono ?_
  rintro e w' ⟨v, rfl, f, hb⟩
  obtain ⟨a, c, rfl⟩ := f.reads.form
  exact ⟨a, c, rfl, f.reads, below2 hb⟩
theorem alive_g2 (W : World) : Calls Try.prog 20 #[.slice none 0 0, .slice none 0 0] W fun e w' => ∃ a c, e = .returned (.slice a 0 c) ∧ Below W.heap.size W w' := by
  refine (gcd_nils W).mono ?_
  rintro e w' ⟨v, rfl, f, hb⟩
  obtain ⟨a, c, rfl⟩ := f.reads.form
  exact ⟨a, c, rfl, hb⟩
theorem alive_c1 (W : World) : Calls Try.prog 14 #[.slice (some ⟨W.heap.size, 0, none⟩) 1 1] (W.alloc (.cells #[.int .u32 0] 37)) fun e w' => e = .returned (.bool false) ∧ Below W.heap.size W w' :=
  (check_any (lit_fresh W [0] (by decide)).reads (by decide)).mono fun _ _ ⟨h1, h2⟩ => ⟨h1, by rw [← h2]; exact (Below.refl _ W).alloc (Nat.le_refl _) _⟩

end Go.Proofs.Ytbcipningfdgoaa
