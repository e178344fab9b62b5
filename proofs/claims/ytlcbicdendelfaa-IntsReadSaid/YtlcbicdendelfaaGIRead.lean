/- IntsRead: what a text's number is, with a hyphen more, too. -/
import Derived.Deep.RegionHeld3
import Derived.Test.YtlcbicdendelfaaGIntsAlive
import Derived.Test.YtlcbicdendelfaaGIntsGreat
set_option linter.unusedSimpArgs false
set_option linter.unusedVariables false
namespace Go.Proofs.Ytlcbicdendelfaa
open Go Go.Proofs Go.RowKit Go.Shelf Nu

attribute [local go_sem] Oper.semAt_some


/-- what Parse answers: a number -/
def IYes (s : ByteArray) (neg : Bool) (L : List Nat) : Prop := ∀ W : World, Calls Try.prog 9 #[.string s] W fun e w' => ∃ a c, e = .returned (.tuple #[.agg #[.bool neg, .slice a L.length c], .int .i64 0]) ∧ Reads w' (.slice a L.length c) L ∧ Below W.heap.size W w'
/-- .. or an error -/
def INo (s : ByteArray) (F : Int) : Prop := ∀ W : World, Calls Try.prog 9 #[.string s] W fun e w' => e = .returned (.tuple #[.agg #[.bool false, .slice none 0 0], .int .i64 F]) ∧ Below W.heap.size W w'

theorem cutG {s : ByteArray} (h : s.size = 0 ∨ bt s 0 ≠ 45) : Lib.hasPrefix s.data.toList [45] = false := by
  rcases s with ⟨⟨l⟩⟩
  cases l with
  | nil => rfl
  | cons a l =>
    rcases h with h | h
    · simp [ByteArray.size] at h
    · have : a ≠ 45 := by rintro rfl; exact h rfl
      simp [Lib.hasPrefix, List.isPrefixOf, this.symm]
theorem cutH (d : ByteArray) : Lib.hasPrefix (⟨#[45]⟩ ++ d : ByteArray).data.toList [45] = true ∧ (⟨(Lib.trimPrefix (⟨#[45]⟩ ++ d : ByteArray).data.toList [45]).toArray⟩ : ByteArray) = d := by
  have e : (⟨#[45]⟩ ++ d : ByteArray).data.toList = 45 :: d.data.toList := by
    rw [ByteArray.data_append]; simp
  rw [e]
  have e2 : Lib.hasPrefix (45 :: d.data.toList) [45] = true := by simp [Lib.hasPrefix, List.isPrefixOf]
  refine ⟨e2, ?_⟩
  simp [Lib.trimPrefix, e2]
theorem hyph_split {s : ByteArray} (h : 0 < s.size) (hb : bt s 0 = 45) : ∃ d : ByteArray, s = ⟨#[45]⟩ ++ d := by
  rcases s with ⟨⟨l⟩⟩
  cases l with
  | nil => simp [ByteArray.size] at h
  | cons a l =>
    have ha : a = 45 := by
      have : a.toNat = 45 := hb
      exact UInt8.toNat_inj.1 this
    subst ha
    refine ⟨⟨⟨l⟩⟩, ?_⟩
    apply ByteArray.ext
    rw [ByteArray.data_append]; simp
theorem hyph_size (d : ByteArray) : (⟨#[45]⟩ ++ d : ByteArray).size = 1 + d.size := by
  rw [ByteArray.size_append]; rfl
theorem kp_of {d : ByteArray} (h1 : isNum d) (h2 : d.size ≤ 200) (W : World) : Calls Try.prog 34 #[.string d] W fun e w' => ∃ a c, e = .returned (.tuple #[.slice a (digs (numv d d.size)).length c, .int .i64 0]) ∧ Reads w' (.slice a (digs (numv d d.size)).length c) (digs (numv d d.size)) ∧ Below W.heap.size W w' := by
  refine (parse_ok d W h1 h2).mono ?_
  rintro e w' ⟨v, rfl, f, b⟩
  obtain ⟨a, c, rfl⟩ := f.reads.form
  exact ⟨a, c, rfl, f.reads, b⟩
section
variable {s d : ByteArray}
theorem hk_plain (h : s.size = 0 ∨ bt s 0 ≠ 45) (W : World) : Calls Try.prog 33 #[.string s, .string ⟨#[45]⟩] W fun e w' => e = .returned (.tuple #[.string s, .bool false]) ∧ w' = W := by
  have p1 := cutG h
  exact cut_of (by simp [Lib.trimPrefix, p1]) p1 W
theorem hk_hyph (d : ByteArray) (W : World) : Calls Try.prog 33 #[.string (⟨#[45]⟩ ++ d), .string ⟨#[45]⟩] W fun e w' => e = .returned (.tuple #[.string d, .bool true]) ∧ w' = W :=
  cut_of (cutH d).2 (cutH d).1 W
theorem plain_form (h : s.size = 0 ∨ bt s 0 ≠ 45) (hs : s.size ≤ 2000000) (n : ¬ isNum s) : INo s 4 := fun W => i_parse_no 4 (by decide) (hk_plain h) (fun V => parse_form s V hs n)
theorem plain_limit (h : s.size = 0 ∨ bt s 0 ≠ 45) (hs : s.size ≤ 2000000) (n : isNum s) (n2 : 200 < s.size) : INo s 3 := fun W => i_parse_no 3 (by decide) (hk_plain h) (fun V => parse_limit s V hs n n2)
theorem plain_ok (h : s.size = 0 ∨ bt s 0 ≠ 45) (n : isNum s) (n2 : s.size ≤ 200) : IYes s false (digs (numv s s.size)) := fun W => i_parse_yes (fun h => nomatch h) (hk_plain h) (kp_of n n2)
theorem hyph_form (hs : d.size ≤ 2000000) (n : ¬ isNum d) : INo (⟨#[45]⟩ ++ d) 4 := fun W => i_parse_no 4 (by decide) (hk_hyph d) (fun V => parse_form d V hs n)
theorem hyph_limit (hs : d.size ≤ 2000000) (n : isNum d) (n2 : 200 < d.size) : INo (⟨#[45]⟩ ++ d) 3 := fun W => i_parse_no 3 (by decide) (hk_hyph d) (fun V => parse_limit d V hs n n2)
theorem hyph_zero (n : isNum d) (n2 : d.size ≤ 200) (e0 : numv d d.size = 0) : INo (⟨#[45]⟩ ++ d) 4 := fun W =>
  i_parse_zero (hk_hyph d) (L := (digs (numv d d.size)).length) (by rw [e0, digs_zero]; rfl) (fun V => (kp_of n n2 V).mono fun e w' ⟨a, c, h1, _, h2⟩ => ⟨a, c, h1, h2⟩)
theorem hyph_ok (n : isNum d) (n2 : d.size ≤ 200) (e0 : 0 < numv d d.size) : IYes (⟨#[45]⟩ ++ d) true (digs (numv d d.size)) := fun W => i_parse_yes (fun _ => e0) (hk_hyph d) (kp_of n n2)
end
theorem num_no_hyph {s : ByteArray} (h : isNum s) : s.size = 0 ∨ bt s 0 ≠ 45 := by
  refine .inr ?_
  have hp : 0 < s.size := by rcases h.2 with h | h <;> omega
  have := (h.1 0 hp).1
  omega

/-- what is known of the number that is written -/
def AKnow (n1 : Bool) (l1 : List Nat) (tx : ByteArray) (z1 : Int) (ck : Bool) : Prop :=
  (∀ (W : World) (a : Option Addr) (c : Nat), Reads W (.slice a l1.length c) l1 → Calls Try.prog 8 #[.agg #[.bool n1, .slice a l1.length c]] W fun e w' => e = .returned (.string tx) ∧ Below W.heap.size W w') ∧
  (∀ (W : World) (a : Option Addr) (c : Nat), Reads W (.slice a l1.length c) l1 → Calls Try.prog 10 #[.agg #[.bool n1, .slice a l1.length c]] W fun e w' => e = .returned (.int .i64 z1) ∧ Below W.heap.size W w') ∧
  (∀ (W : World) (a : Option Addr) (c : Nat), Reads W (.slice a l1.length c) l1 → Calls Try.prog 11 #[.agg #[.bool n1, .slice a l1.length c]] W fun e w' => e = .returned (.bool ck) ∧ Below W.heap.size W w')
theorem AKnow.of {n1 : Bool} {l1 : List Nat} (hs : Sm l1) (hl : l1.length ≤ 200) : AKnow n1 l1 (itxt (zv n1 l1)) (sgz (zv n1 l1) 0) (ichk n1 l1) :=
  ⟨fun W a c h => i_text _ h (by omega) hs rfl, fun W a c h => i_sign _ h (by omega) hs rfl, fun W a c h => icheck_any h (by omega)⟩
/-- two whole numbers that are read are the same -/
def ASame (n1 : Bool) (l1 : List Nat) (n2 : Bool) (l2 : List Nat) : Prop :=
  ∀ (W : World) (a b : Option Addr) (c d : Nat), Reads W (.slice a l1.length c) l1 → Reads W (.slice b l2.length d) l2 → Calls Try.prog 12 #[.agg #[.bool n1, .slice a l1.length c], .agg #[.bool n2, .slice b l2.length d]] W fun e w' => e = .returned (.bool true) ∧ Below W.heap.size W w'
theorem ASame.of {n1 n2 : Bool} {l1 l2 : List Nat} (e1 : n1 = n2) (e2 : l1 = l2) (hl : l1.length ≤ 50000) : ASame n1 l1 n2 l2 := by
  subst e1; subst e2
  exact fun W a b c d h1 h2 => same_any h1 h2 (by omega) (by omega) (by simp)
def ANeg (n1 : Bool) (l1 : List Nat) (n2 : Bool) (l2 : List Nat) : Prop :=
  ∀ (W : World) (a : Option Addr) (c : Nat), Reads W (.slice a l1.length c) l1 → Calls Try.prog 13 #[.agg #[.bool n1, .slice a l1.length c]] W fun e w' => ∃ b d, e = .returned (.agg #[.bool n2, .slice b l2.length d]) ∧ Reads w' (.slice b l2.length d) l2 ∧ Below W.heap.size W w'
theorem wrap_len {n : Nat} (h : n ≤ 3000000) : IntKind.i64.wrap ((n : Int) - 1) = (n : Int) - 1 := by rw [IntKind.wrap_i64]; omega

end Go.Proofs.Ytlcbicdendelfaa
