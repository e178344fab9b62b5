/- Great numbers as lists of parts below 2^32: what a list is worth, its digits, sums, differences and products part by part. Part by part: how a .. -/
import Init
import Derived.RangeFuncNested
import Derived.RangeFuncBound
import Derived.RangeFuncCalls
import Derived.RangeFuncLeaves
import Derived.Shelf.Abstract
import Derived.WalkKit
import Derived.OwnWalkIn
import Derived.TacticsInMore
import Derived.LoopNIn
import Derived.LoopIn
import Derived.LoopTactic
import Derived.Lib.Hide
import Derived.WalkSpells
import Derived.WalkLawsBesides
import Derived.Outline
import Derived.StillTailTactics
import Derived.Deep.QuietTactic
import Derived.BigQuiet
import Derived.OrdersHeld
import Derived.Test.YtgmbaamfobhceaaGreatProg
set_option linter.unusedSimpArgs false
set_option linter.unusedVariables false
set_option maxHeartbeats 400000
namespace Go.Proofs.YtgmbaamfobhceaaGreat.Nu
def val : List Nat → Nat
 | [] => 0
 | x :: l => x + 4294967296 * val l
def Sm (l : List Nat) : Prop := ∀ x ∈ l, x < 4294967296
def digs (n : Nat) : List Nat := if n = 0 then [] else (n % 4294967296) :: digs (n / 4294967296)
termination_by n
def cut : List Nat → List Nat
 | [] => []
 | x :: l => if x = 0 ∧ cut l = [] then [] else x :: cut l
def chk (l : List Nat) : Bool := l.isEmpty || l.getD (l.length - 1) 0 != 0
def nv (l : List Nat) : Nat := if chk l then val l else 0
theorem Sm.nil : Sm [] := fun _ h => by cases h
theorem Sm.cons {x : Nat} {l : List Nat} (hx : x < 4294967296) (h : Sm l) : Sm (x :: l) := fun y hy => by
 rcases List.mem_cons.1 hy with rfl | hy
 · exact hx
 · exact h y hy
theorem Sm.head {x : Nat} {l : List Nat} (h : Sm (x :: l)) : x < 4294967296 := h x (by simp)
theorem Sm.tail {x : Nat} {l : List Nat} (h : Sm (x :: l)) : Sm l := fun y hy => h y (by simp [hy])
theorem Sm.snoc {l : List Nat} {x : Nat} (h : Sm l) (hx : x < 4294967296) : Sm (l ++ [x]) := fun y hy => by
 rcases List.mem_append.1 hy with hy | hy
 · exact h y hy
 · have : y = x := by simpa using hy
   omega
theorem Sm.take {l : List Nat} (h : Sm l) (k : Nat) : Sm (l.take k) := fun y hy => h y (List.mem_of_mem_take hy)
theorem Sm.drop {l : List Nat} (h : Sm l) (k : Nat) : Sm (l.drop k) := fun y hy => h y (List.mem_of_mem_drop hy)
theorem Sm.append {l m : List Nat} (h : Sm l) (k : Sm m) : Sm (l ++ m) := fun y hy => (List.mem_append.1 hy).elim (h y) (k y)
theorem Sm.getD {l : List Nat} (h : Sm l) (k : Nat) : l.getD k 0 < 4294967296 := by
 rw [List.getD_eq_getElem?_getD]
 by_cases hk : k < l.length
 · rw [List.getElem?_eq_getElem hk]; exact h _ (List.getElem_mem hk)
 · rw [List.getElem?_eq_none (by omega)]; decide
theorem Sm.set {l : List Nat} (h : Sm l) (k x : Nat) (hx : x < 4294967296) : Sm (l.set k x) := fun y hy => by
 rcases List.mem_or_eq_of_mem_set hy with hy | rfl
 · exact h y hy
 · exact hx
theorem Sm.replicate (n : Nat) : Sm (List.replicate n 0) := fun y hy => by
 have := (List.mem_replicate.1 hy).2; omega
theorem val_append (l m : List Nat) : val (l ++ m) = val l + 4294967296 ^ l.length * val m := by
 induction l with
 | nil => simp [val]
 | cons x l ih => simp only [List.cons_append, val, ih, List.length_cons, Nat.pow_succ]; rw [Nat.mul_add, Nat.add_assoc, ← Nat.mul_assoc, Nat.mul_comm 4294967296 (4294967296 ^ l.length)]
theorem val_one (x : Nat) : val [x] = x := by simp [val]
theorem val_snoc (l : List Nat) (x : Nat) : val (l ++ [x]) = val l + 4294967296 ^ l.length * x := by rw [val_append, val_one]
theorem val_lt {l : List Nat} (h : Sm l) : val l < 4294967296 ^ l.length := by
 induction l with
 | nil => simp [val]
 | cons x l ih =>
  have h1 := h.head
  have h2 := ih h.tail
  simp only [val, List.length_cons, Nat.pow_succ]
  omega
theorem val_replicate (n : Nat) : val (List.replicate n 0) = 0 := by
 induction n with
 | zero => rfl
 | succ n ih => simp [List.replicate_succ, val, ih]
theorem val_take_succ (l : List Nat) (k : Nat) : val (l.take (k + 1)) = val (l.take k) + 4294967296 ^ k * l.getD k 0 := by
 by_cases hk : k < l.length
 · rw [List.take_succ_eq_append_getElem hk, val_snoc, List.length_take, Nat.min_eq_left (by omega), List.getD_eq_getElem?_getD, List.getElem?_eq_getElem hk]; rfl
 · rw [List.take_of_length_le (by omega), List.take_of_length_le (by omega), List.getD_eq_getElem?_getD, List.getElem?_eq_none (by omega)]; simp
theorem val_split (l : List Nat) (k : Nat) (hk : k ≤ l.length) : val l = val (l.take k) + 4294967296 ^ k * val (l.drop k) := by
 conv => lhs; rw [← List.take_append_drop k l]
 rw [val_append, List.length_take, Nat.min_eq_left hk]
theorem digs_zero : digs 0 = [] := by rw [digs]; rfl
theorem digs_pos {n : Nat} (h : n ≠ 0) : digs n = (n % 4294967296) :: digs (n / 4294967296) := by rw [digs, if_neg h]
theorem val_digs (n : Nat) : val (digs n) = n := by
 induction n using Nat.strongRecOn with
 | _ n ih =>
  by_cases h : n = 0
  · subst h; rw [digs_zero]; rfl
  · rw [digs_pos h, val, ih (n / 4294967296) (by omega)]; omega
theorem sm_digs (n : Nat) : Sm (digs n) := by
 induction n using Nat.strongRecOn with
 | _ n ih =>
  by_cases h : n = 0
  · subst h; rw [digs_zero]; exact Sm.nil
  · rw [digs_pos h]; exact Sm.cons (by omega) (ih _ (by omega))
theorem digs_eq_nil {n : Nat} : digs n = [] ↔ n = 0 := by
 constructor
 · intro h
   by_cases h0 : n = 0
   · exact h0
   · rw [digs_pos h0] at h; cases h
 · rintro rfl; exact digs_zero
theorem val_eq_zero_cut {l : List Nat} : val l = 0 ↔ cut l = [] := by
 induction l with
 | nil => simp [val, cut]
 | cons x l ih =>
  simp only [val, cut]
  by_cases h : x = 0 ∧ cut l = []
  · rw [if_pos h]
    simp only [iff_true]
    have := ih.2 h.2
    omega
  · rw [if_neg h]
    simp only [reduceCtorEq, iff_false]
    intro h0
    exact h ⟨by omega, ih.1 (by omega)⟩
theorem cut_eq {l : List Nat} (h : Sm l) : cut l = digs (val l) := by
 induction l with
 | nil => simp [cut, val, digs_zero]
 | cons x l ih =>
  have hx := h.head
  have hl := ih h.tail
  simp only [cut]
  by_cases hc : x = 0 ∧ cut l = []
  · rw [if_pos hc]
    have h0 := val_eq_zero_cut.2 hc.2
    rw [show val (x :: l) = 0 by simp [val, h0, hc.1], digs_zero]
  · rw [if_neg hc]
    have hne : val (x :: l) ≠ 0 := by
     intro h0
     simp only [val] at h0
     exact hc ⟨by omega, val_eq_zero_cut.1 (by omega)⟩
    rw [digs_pos hne]
    have e1 : val (x :: l) % 4294967296 = x := by simp only [val]; omega
    have e2 : val (x :: l) / 4294967296 = val l := by simp only [val]; omega
    rw [e1, e2, hl]
theorem cut_eq_take (l : List Nat) (n : Nat) (hn : n ≤ l.length) (h0 : ∀ j, n ≤ j → l.getD j 0 = 0) (h1 : n = 0 ∨ l.getD (n - 1) 0 ≠ 0) : cut l = l.take n := by
 induction l generalizing n with
 | nil => simp [cut]
 | cons x l ih =>
  cases n with
  | zero =>
   have hc : cut l = l.take 0 := ih 0 (by omega) (fun j _ => by have := h0 (j + 1) (by omega); simpa using this) (.inl rfl)
   have hx : x = 0 := by have := h0 0 (by omega); simpa using this
   simp only [cut]
   rw [if_pos ⟨hx, by rw [hc]; simp⟩]; simp
  | succ n =>
   have h0' : ∀ j, n ≤ j → l.getD j 0 = 0 := fun j hj => by have := h0 (j + 1) (by omega); simpa using this
   have hn' : n ≤ l.length := by simpa using hn
   cases n with
   | zero =>
    have hc : cut l = l.take 0 := ih 0 (by omega) h0' (.inl rfl)
    have hx : x ≠ 0 := by
     rcases h1 with h1 | h1
     · omega
     · simpa using h1
    simp only [cut]
    rw [if_neg (fun h => hx h.1), hc]; simp
   | succ n =>
    have hc : cut l = l.take (n + 1) := ih (n + 1) hn' h0' (.inr (by
     rcases h1 with h1 | h1
     · omega
     · simpa using h1))
    have hne : cut l ≠ [] := by
     rw [hc]
     cases l with
     | nil => simp at hn'
     | cons y l => simp
    simp only [cut]
    rw [if_neg (fun h => hne h.2), hc]; simp
theorem chk_iff (l : List Nat) : chk l = true ↔ l = [] ∨ l.getD (l.length - 1) 0 ≠ 0 := by
 unfold chk
 cases l with
 | nil => simp
 | cons x l => simp
theorem cut_chk {l : List Nat} (h : chk l = true) : cut l = l := by
 have := cut_eq_take l l.length (Nat.le_refl _) (fun j hj => by rw [List.getD_eq_getElem?_getD, List.getElem?_eq_none hj]; rfl) (by
  rcases (chk_iff l).1 h with rfl | h
  · exact .inl rfl
  · exact .inr h)
 rw [this, List.take_length]
theorem digs_val {l : List Nat} (h : Sm l) (hc : chk l = true) : digs (val l) = l := by rw [← cut_eq h, cut_chk hc]
theorem chk_digs (n : Nat) : chk (digs n) = true := by
 induction n using Nat.strongRecOn with
 | _ n ih =>
  by_cases h : n = 0
  · subst h; rw [digs_zero]; rfl
  · rw [chk_iff]
    right
    rw [digs_pos h]
    have hr := ih (n / 4294967296) (by omega)
    by_cases h2 : n / 4294967296 = 0
    · rw [h2, digs_zero]; simp; omega
    · rcases (chk_iff _).1 hr with e | e
      · exact absurd (digs_eq_nil.1 e) h2
      · cases hd : digs (n / 4294967296) with
        | nil => exact absurd (digs_eq_nil.1 hd) h2
        | cons y t => rw [hd] at e; simpa using e
theorem digs_length_le {n k : Nat} (h : n < 4294967296 ^ k) : (digs n).length ≤ k := by
  induction k generalizing n with
  | zero => have : n = 0 := by simpa using h
            subst this; rw [digs_zero]; simp
  | succ k ih =>
    by_cases h0 : n = 0
    · subst h0; rw [digs_zero]; simp
    · rw [digs_pos h0]
      have := ih (n := n / 4294967296) (by rw [Nat.pow_succ] at h; exact Nat.div_lt_of_lt_mul (by rw [Nat.mul_comm]; exact h))
      simp; omega
theorem le_of_length_lt {l m : List Nat} (hl : Sm l) (_hm : Sm m) (hc : chk m = true) (h : l.length < m.length) : val l < val m := by
 have h1 := val_lt hl
 have hm0 : m ≠ [] := by intro e; rw [e] at h; simp at h
 have h2 : m.getD (m.length - 1) 0 ≠ 0 := ((chk_iff m).1 hc).resolve_left hm0
 have h3 := val_take_succ m (m.length - 1)
 rw [show m.length - 1 + 1 = m.length by omega, List.take_length] at h3
 have h4 : 4294967296 ^ l.length ≤ 4294967296 ^ (m.length - 1) := Nat.pow_le_pow_right (by decide) (by omega)
 have h5 : 4294967296 ^ (m.length - 1) * 1 ≤ 4294967296 ^ (m.length - 1) * m.getD (m.length - 1) 0 := Nat.mul_le_mul_left _ (by omega)
 omega
theorem nv_chk {l : List Nat} (h : chk l = true) : nv l = val l := by simp [nv, h]
end Go.Proofs.YtgmbaamfobhceaaGreat.Nu
namespace Go.Proofs.YtgmbaamfobhceaaGreat.Nu
theorem ring_add (A B C D P s r q : Nat) (h : A + P * C = B) (hs : s = C + D) (hq : s = r + 4294967296 * q) : (A + P * r) + P * 4294967296 * q = B + P * D := by
 grind
theorem ring_mul (A a b p c x t P s r q : Nat) (h : A + P * c = a + x * b) (hs : s = c + (p * x + t)) (hq : s = r + 4294967296 * q) : (A + P * r) + P * 4294967296 * q = (a + P * t) + x * (b + P * p) := by
 grind
theorem ring_blend (A a b t u p q pl mi bo P d pl' mi' bo' dl ml: Int) (h : A + P * (pl - mi - bo) = t * a - u * b)
 (h1 : pl + p * t = dl + 4294967296 * pl') (h2 : mi + q * u = ml + 4294967296 * mi') (h3 : dl - ml - bo = d - 4294967296 * bo') :
 A + P * d + P * 4294967296 * (pl' - mi' - bo') = t * (a + P * p) - u * (b + P * q) := by grind
theorem add_step {la lb out : List Nat} {k c : Nat} (hk : out.length = k) (h : val out + 4294967296 ^ k * c = val (la.take k) + val (lb.take k)) :
  val (out ++ [(c + (la.getD k 0 + lb.getD k 0)) % 4294967296]) + 4294967296 ^ (k + 1) * ((c + (la.getD k 0 + lb.getD k 0)) / 4294967296) = val (la.take (k + 1)) + val (lb.take (k + 1)) := by
 rw [val_snoc, val_take_succ, val_take_succ, hk, Nat.pow_succ]
 have := ring_add _ _ c (la.getD k 0 + lb.getD k 0) _ _ ((c + (la.getD k 0 + lb.getD k 0)) % 4294967296) ((c + (la.getD k 0 + lb.getD k 0)) / 4294967296) h rfl (by omega)
 rw [this, Nat.mul_add]; omega
theorem blend_step {A B out : List Nat} {k t u pl mi bo P1 P2 pl' mi' al ml d : Nat} (hk : out.length = k) (h : (val out : Int) + 4294967296 ^ k * ((pl : Int) - mi - bo) = t * val (A.take k) - u * val (B.take k))
  (e1 : P1 = A.getD k 0 * t) (e2 : P2 = B.getD k 0 * u) (e3 : pl' = (pl + P1) / 4294967296) (e4 : mi' = (mi + P2) / 4294967296) (e5 : al = (pl + P1) % 4294967296) (e6 : ml = (mi + P2) % 4294967296)
  (hd : (al : Int) - ml - bo = (d % 4294967296 : Nat) - 4294967296 * (d / 9223372036854775808 : Nat)) :
  (val (out ++ [d % 4294967296]) : Int) + 4294967296 ^ (k + 1) * ((pl' : Int) - mi' - (d / 9223372036854775808 : Nat)) = t * val (A.take (k + 1)) - u * val (B.take (k + 1)) := by
 rw [val_snoc, val_take_succ, val_take_succ, hk, Int.pow_succ]
 have f1 : (pl : Int) + (A.getD k 0 : Nat) * (t : Nat) = al + 4294967296 * pl' := by rw [e5, e3, ← Int.natCast_mul, ← e1]; omega
 have f2 : (mi : Int) + (B.getD k 0 : Nat) * (u : Nat) = ml + 4294967296 * mi' := by rw [e6, e4, ← Int.natCast_mul, ← e2]; omega
 have := ring_blend (val out) (val (A.take k)) (val (B.take k)) t u (A.getD k 0 : Nat) (B.getD k 0 : Nat) pl mi bo (4294967296 ^ k) (d % 4294967296 : Nat) pl' mi' (d / 9223372036854775808 : Nat) al ml h f1 f2 hd
 generalize d % 4294967296 = dm at this ⊢
 generalize d / 9223372036854775808 = db at this ⊢
 have hp : ((4294967296 ^ k : Nat) : Int) = (4294967296 : Int) ^ k := by rw [Int.natCast_pow]; rfl
 simp only [Int.natCast_add, Int.natCast_mul, hp]
 exact this
theorem blend_end {a b o N : Nat} {t u : Nat} {x : Int} (h : (o : Int) + 4294967296 ^ N * x = t * a - u * b) (h1 : u * b ≤ t * a) (h2 : t * a - u * b < 4294967296 ^ N) (h3 : o < 4294967296 ^ N) : o = t * a - u * b := by
 have hp : ((4294967296 ^ N : Nat) : Int) = (4294967296 : Int) ^ N := by rw [Int.natCast_pow]; rfl
 rw [← hp, ← Int.natCast_mul, ← Int.natCast_mul] at h
 generalize 4294967296 ^ N = P at *
 generalize t * a = p at *
 generalize u * b = q at *
 rcases Int.lt_trichotomy x 0 with hx | hx | hx
 · have := Int.mul_le_mul_of_nonneg_left (show x ≤ -1 by omega) (show (0 : Int) ≤ (P : Int) by omega)
   omega
 · subst hx; omega
 · have := Int.mul_le_mul_of_nonneg_left (show 1 ≤ x by omega) (show (0 : Int) ≤ (P : Int) by omega)
   omega
theorem set_take (l : List Nat) (k x : Nat) (hk : k < l.length) : (l.set k x).take (k + 1) = l.take k ++ [x] := by
 rw [List.take_set, List.take_succ_eq_append_getElem hk, List.set_append_right _ _ (by simp; omega)]
 simp [List.length_take, Nat.min_eq_left (Nat.le_of_lt hk)]
theorem set_drop (l : List Nat) (k x : Nat) : (l.set k x).drop (k + 1) = l.drop (k + 1) := by
 rw [List.drop_set, if_pos (by omega)]
theorem getD_of_drop {l m : List Nat} {k : Nat} (h : l.drop k = m.drop k) (j : Nat) (hj : k ≤ j) : l.getD j 0 = m.getD j 0 := by
 have := congrArg (fun t => t.getD (j - k) 0) h
 simpa [List.getD_eq_getElem?_getD, List.getElem?_drop, show k + (j - k) = j by omega] using this
theorem drop_succ_of_drop {l m : List Nat} {k : Nat} (h : l.drop k = m.drop k) : l.drop (k + 1) = m.drop (k + 1) := by
 have := congrArg (List.drop 1) h
 simpa [List.drop_drop] using this
theorem times_step {row b cur : List Nat} {k c t : Nat} (hk : k < cur.length) (hd : cur.drop k = row.drop k) (h : val (cur.take k) + 4294967296 ^ k * c = val (row.take k) + t * val (b.take k)) :
  val ((cur.set k ((c + (b.getD k 0 * t + cur.getD k 0)) % 4294967296)).take (k + 1)) + 4294967296 ^ (k + 1) * ((c + (b.getD k 0 * t + cur.getD k 0)) / 4294967296) = val (row.take (k + 1)) + t * val (b.take (k + 1)) := by
 rw [set_take _ _ _ hk, val_snoc, val_take_succ row, val_take_succ b, List.length_take, Nat.min_eq_left (Nat.le_of_lt hk), Nat.pow_succ, getD_of_drop hd k (Nat.le_refl _)]
 exact ring_mul _ _ _ _ c t _ _ _ _ _ h rfl (by omega)
theorem times_bound {c p t r : Nat} (hc : c < 4294967296) (hp : p < 4294967296) (ht : t < 4294967296) (hr : r < 4294967296) : p * t ≤ 18446744065119617025 ∧ c + (p * t + r) < 18446744073709551616 := by
 have : p * t ≤ 4294967295 * 4294967295 := Nat.mul_le_mul (by omega) (by omega)
 omega
theorem val_row (l : List Nat) (i m : Nat) (row' : List Nat) (c : Nat) (x y : Nat) (hl : i + m < l.length) (h0 : l.getD (i + m) 0 = 0) (hr : row'.length = m)
  (h : val row' + 4294967296 ^ m * c = val ((l.drop i).take m) + x * y) :
  val (l.take i ++ row' ++ [c] ++ l.drop (i + m + 1)) = val l + 4294967296 ^ i * (x * y) := by
 have e1 := val_split l i (by omega)
 have e2 := val_split (l.drop i) m (by simp; omega)
 have e3 : (l.drop i).drop m = l.getD (i + m) 0 :: l.drop (i + m + 1) := by
  rw [List.drop_drop, List.drop_eq_getElem_cons hl, List.getD_eq_getElem?_getD, List.getElem?_eq_getElem hl]; rfl
 rw [e3, h0] at e2
 simp only [val] at e2
 rw [e1, e2]
 simp only [val_append, List.length_append, List.length_take, Nat.min_eq_left (show i ≤ l.length by omega), hr, List.length_singleton, val_one, Nat.pow_add, Nat.pow_one]
 generalize 4294967296 ^ i = P at *
 generalize 4294967296 ^ m = S at *
 generalize val (l.drop (i + m + 1)) = Z at *
 generalize val (l.take i) = A at *
 generalize val ((l.drop i).take m) = T at *
 generalize val row' = U at *
 generalize x * y = V at *
 grind
end Go.Proofs.YtgmbaamfobhceaaGreat.Nu
namespace Go.Proofs.YtgmbaamfobhceaaGreat
section
open Go Go.Proofs Go.RowKit Go.Shelf Nu
def Reads (W : World) (v : Value) (l : List Nat) : Prop :=
 (v = .slice none 0 0 ∧ l = []) ∨ (∃ b off cap, v = .slice (some ⟨b, off, none⟩) l.length cap ∧ b < W.heap.size ∧ l.length ≤ cap ∧ ∀ j, j < l.length → W.cell? ⟨b, off + j, none⟩ = some (.int .u32 (l.getD j 0 : Nat))) ∨ ∃ x, v = .slice (some x) 0 0 ∧ l = []
theorem Reads.nil (W : World) : Reads W (.slice none 0 0) [] := .inl ⟨rfl, rfl⟩
theorem Reads.below {W W' : World} {v : Value} {l : List Nat} (h : Reads W v l) (hb : Below W.heap.size W W') : Reads W' v l := by
 rcases h with h | ⟨b, off, cap, e, hb', hc, hl⟩ | h
 · exact .inl h
 · exact .inr (.inl ⟨b, off, cap, e, Nat.lt_of_lt_of_le hb' hb.size, hc, fun j hj => (hb.cell (p := ⟨b, off + j, none⟩) hb').trans (hl j hj)⟩)
 · exact .inr (.inr h)
theorem Reads.form {W : World} {v : Value} {l : List Nat} (h : Reads W v l) : ∃ a cap, v = .slice a l.length cap := by
 rcases h with ⟨rfl, rfl⟩ | ⟨b, off, cap, rfl, _⟩ | ⟨x, rfl, rfl⟩
 · exact ⟨none, 0, rfl⟩
 · exact ⟨_, cap, rfl⟩
 · exact ⟨some x, 0, rfl⟩
theorem ret_bool {a b : Bool} (h : a = b) : Ending.returned (.bool a) = .returned (.bool b) := by rw [h]
theorem ret_int {k : IntKind} {a b : Int} (h : a = b) : Ending.returned (.int k a) = .returned (.int k b) := by rw [h]
theorem check_any {W : World} {v : Value} {l : List Nat} (h : Reads W v l) (hl : l.length ≤ 1000000) :
   Calls Tryz.prog 61 #[v] W fun e w' => e = .returned (.bool (chk l)) ∧ W = w' := by
 rcases h with ⟨rfl, rfl⟩ | ⟨b, off, cap, rfl, hb, hcap, hc⟩ | ⟨x, rfl, rfl⟩
 rotate_right
 · go_enter Tryz.func61, Tryz.ntmps61
   go_wp2
   go_ret
   exact ⟨rfl, rfl⟩
 · go_enter Tryz.func61, Tryz.ntmps61
   go_wp2
   go_ret
   exact ⟨rfl, rfl⟩
 · cases l with
   | nil =>
    go_enter Tryz.func61, Tryz.ntmps61
    go_wp2
    go_ret
    exact ⟨rfl, rfl⟩
   | cons x t =>
    have hx := hc t.length (by simp)
    have hk : chk (x :: t) = (((x :: t).getD t.length 0 : Nat) != 0) := by simp [chk]
    rw [hk]
    clear hk hc
    generalize hy : (x :: t).getD t.length 0 = y at hx ⊢
    clear hy
    simp only [List.length_cons] at hl hcap ⊢
    generalize t.length = n at *
    have hz : ((n : Int) + 1 == 0) = false := by simp; omega
    go_enter Tryz.func61, Tryz.ntmps61
    go_wp2
    go_ret
    exact ⟨ret_bool (by simp [bne]; rw [Bool.eq_iff_iff]; simp), rfl⟩
def orz (l : List Nat) : List Nat := if chk l then l else []
theorem val_orz (l : List Nat) : val (orz l) = nv l := by unfold orz nv; split <;> rfl
theorem sm_orz {l : List Nat} (h : Sm l) : Sm (orz l) := by unfold YtgmbaamfobhceaaGreat.orz; split; exact h; exact Sm.nil
theorem orz_length (l : List Nat) : (orz l).length ≤ l.length := by unfold orz; split; exact Nat.le_refl _; simp
theorem chk_orz (l : List Nat) : chk (orz l) = true := by unfold orz; split; assumption; rfl
def orzV (v : Value) (l : List Nat) : Value := if chk l then v else .slice none 0 0
theorem orzV_reads {W : World} {v : Value} {l : List Nat} (h : Reads W v l) : Reads W (orzV v l) (orz l) := by
 unfold orzV orz
 split
 · exact h
 · exact Reads.nil W
theorem orZero_any {W : World} {v : Value} {l : List Nat} (h : Reads W v l) (hl : l.length ≤ 1000000) :
  Calls Tryz.prog 110 #[v] W fun e w' => e = .returned (orzV v l) ∧ w' = W := by
 have hf := h
 obtain ⟨a, cap, rfl⟩ := h.form
 cases hc : chk l with
 | true =>
  have e : ∀ v, orzV v l = v := fun v => by simp [orzV, hc]
  rw [e]
  go_enter Tryz.func110, Tryz.ntmps110
  go_wp2_with (go_at_call 61; refine (check_any hf hl).mono ?_; rintro e w' ⟨rfl, rfl⟩)
  go_ret
  exact ⟨rfl, rfl⟩
 | false =>
  have e : ∀ v, orzV v l = .slice none 0 0 := fun v => by simp [orzV, hc]
  rw [e]
  go_enter Tryz.func110, Tryz.ntmps110
  go_wp2_with (go_at_call 61; refine (check_any hf hl).mono ?_; rintro e w' ⟨rfl, rfl⟩)
  go_ret
  exact ⟨rfl, rfl⟩
theorem part_any {W : World} {v : Value} {l : List Nat} (h : Reads W v l) (hl : l.length ≤ 1000000) (hs : Sm l) (i : Nat) (_hi : i ≤ 1000000) :
   Calls Tryz.prog 193 #[v, .int .i64 i] W fun e w' => e = .returned (.int .u64 (l.getD i 0 : Nat)) ∧ w' = W := by
 by_cases hlt : i < l.length
 · rcases h with ⟨rfl, rfl⟩ | ⟨b, off, cap, rfl, hb, hcap, hc⟩ | ⟨x, rfl, rfl⟩
   rotate_right
   · simp at hlt
   · simp at hlt
   · have hx := hc i hlt
     have hb := hs.getD i
     clear hc hs
     generalize l.getD i 0 = x at *
     generalize l.length = n at *
     go_enter Tryz.func193, Tryz.ntmps193
     go_wp2
     go_ret
     exact ⟨rfl, rfl⟩
 · have e : l.getD i 0 = 0 := by rw [List.getD_eq_getElem?_getD, List.getElem?_eq_none (by omega)]; rfl
   rw [e]
   obtain ⟨a, cap, rfl⟩ := h.form
   clear h e hs
   generalize l.length = n at *
   go_enter Tryz.func193, Tryz.ntmps193
   go_wp2
   go_ret
   exact ⟨rfl, rfl⟩
def trimV (b off cap : Nat) (l : List Nat) : Value := if (cut l).length = 0 then .slice none 0 0 else .slice (some ⟨b, off, none⟩) (cut l).length cap
theorem trimV_nil {b off cap : Nat} {l : List Nat} (h : cut l = []) : trimV b off cap l = .slice none 0 0 := by simp [trimV, h]
theorem trimV_take {b off cap n : Nat} {l : List Nat} (h : cut l = l.take (n + 1)) (hn : n < l.length) : trimV b off cap l = .slice (some ⟨b, off, none⟩) (n + 1) cap := by
 have e2 : (l.take (n + 1)).length = n + 1 := by rw [List.length_take]; omega
 simp [trimV, h, e2]
theorem trim_some {W : World} {l : List Nat} (b off cap : Nat) (hl : l.length ≤ 1000000) (hcap : l.length ≤ cap) (hc : ∀ j, j < l.length → W.cell? ⟨b, off + j, none⟩ = some (.int .u32 (l.getD j 0 : Nat))) :
  Calls Tryz.prog 112 #[.slice (some ⟨b, off, none⟩) l.length cap] W fun e w' => e = .returned (trimV b off cap l) ∧ W = w' := by
 obtain ⟨L, hL⟩ : ∃ L, L = l.length := ⟨_, rfl⟩
 have HL := Lib.hid hL
 rw [← hL] at hl hcap hc ⊢
 clear hL
 go_enter Tryz.func112, Tryz.ntmps112
 go_wp2
 go_loop [3] (fun s => ∃ n : Nat, n ≤ L ∧ s = .int .i64 n ∧ Hid (∀ j, n ≤ j → l.getD j 0 = 0)) (fun s => (intOf s).toNat)
 case atStart => exact ⟨L, Nat.le_refl _, rfl, Lib.hid fun j hj => by rw [List.getD_eq_getElem?_getD, List.getElem?_eq_none (by have := HL.out; omega)]; rfl⟩
 case round =>
  obtain ⟨n, hn, rfl, H0⟩ := hrel
  cases n with
  | zero =>
   go_wp2
   go_ret
   have e : cut l = [] := by rw [cut_eq_take l 0 (Nat.zero_le _) (fun j _ => H0.out j (Nat.zero_le _)) (.inl rfl)]; rfl
   exact ⟨by rw [trimV_nil e]; rfl, rfl⟩
  | succ n =>
   have hx := hc n (by omega)
   obtain ⟨y, hy⟩ : ∃ y, y = l.getD n 0 := ⟨_, rfl⟩
   rw [← hy] at hx
   have HY := Lib.hid hy
   clear hy
   have e1 : ((n + 1 : Nat) : Int) = (n : Int) + 1 := by omega
   rw [e1]
   clear e1
   by_cases hy0 : y = 0
   · have HZ := Lib.hid hy0
     have ht : ((y : Int) == 0) = true := by simp [hy0]
     clear hy0
     go_wp2
     go_round
     case rel => exact ⟨n, by omega, rfl, Lib.hid fun j hj => by
      by_cases e : j = n
      · subst e; rw [← HY.out]; exact HZ.out
      · exact H0.out j (by omega)⟩
     case measure => simp [intOf]
   · have ht : ((y : Int) == 0) = false := by simp [hy0]
     have HZ := Lib.hid hy0
     clear hy0
     go_wp2
     go_ret
     have e : cut l = l.take (n + 1) := cut_eq_take l (n + 1) (by have := HL.out; omega) (fun j hj => H0.out j hj) (.inr (by rw [show n + 1 - 1 = n by omega, ← HY.out]; exact HZ.out))
     exact ⟨by rw [trimV_take e (by have := HL.out; omega)]; rfl, rfl⟩
end
section
open Go
def Stop (p : Prop) : Prop := p
theorem Stop.mk {p : Prop} (h : p) : Stop p := h
theorem Stop.of {p : Prop} (h : Stop p) : p := h
structure Lets (F : Fence) : Prop where
 fn : ∀ f, F.fn f
 depth : F.depth = none
 calls : ∀ {n : Nat} {P : Program} {f : FuncId} {args : Array Value} {w : World} {R : Ending → World → Prop}, Calls P f args w R → CallsIn F n P f args w R
 rows : ∀ {n : Nat} {P : Program} {row : String} {args : Array Value} {w : World} {R : Value → World → Prop}, Rows P row args w R → RowsIn F n P row args w R
theorem Lets.wide : Lets Fence.wide :=
 ⟨fun _ => trivial, rfl, fun h => callsIn_wide.2 h, fun h c cs _ => let ⟨v, w', r, s⟩ := h c cs; ⟨v, w', r, stepsIn_wide.2 s⟩⟩
theorem Lets.round (l : Nat) : Lets (Fence.wide.inRound l) :=
 ⟨fun _ => trivial, rfl, fun h => CallsIn.inRound l (callsIn_wide.2 h), fun h c cs _ => let ⟨v, w', r, s⟩ := h c cs; ⟨v, w', r, stepsIn_wide.2 s⟩⟩
def noDefer (ops : Array Oper) : Bool := ops.all fun o => match o.op with | .defer _ => false | _ => true
theorem noDefer_spec {ops : Array Oper} (h : noDefer ops = true) {i : Nat} {o : Oper} (ho : ops[i]? = some o) : ∀ c, o.op ≠ .defer c := by
 intro c e
 obtain ⟨hi, rfl⟩ := Array.getElem?_eq_some_iff.1 ho
 have := Array.all_eq_true.1 h i hi
 rw [e] at this
 cases this
section
variable {F : Fence} {n : Nat} {P : Program} {ops : Array Oper} {md : Region.Mode}
theorem wpIn_of_still (L : Lets F) {w : World} {o : Oper} {a : Act} {K : Act → Prop} {K' : Act → World → Prop} {Q' : Exit → Act → World → Prop} (hd : ∀ c, o.op ≠ .defer c) (h : ∀ a, K a → K' a w) (hh : o.still P a w K) : o.wpIn F n P a w K' Q' := by
 refine ⟨fun f _ => L.fn f, ?_⟩
 rw [Oper.semAt_plain F _ _ hd]
 unfold Oper.still at hh
 generalize (execOp a.eval o).run P w = r at *
 cases r with
 | ok n w' =>
  cases n <;> simp only [Oper.stillUpon] at hh <;> simp only [Oper.uponIn]
  case enter f args =>
   obtain ⟨rfl, v, hc, hn⟩ := hh
   exact ⟨fun h => by simp [L.depth] at h, (L.calls hc).mono fun e w'' ⟨he, hw⟩ => by subst he; subst hw; exact h _ hn⟩
  all_goals (obtain ⟨rfl, h2⟩ := hh; exact h _ h2)
 | halt x w' => simp only [Oper.stillUpon] at hh
theorem wpOpIn_of_stOp (L : Lets F) (hnd : noDefer ops = true) {w : World} {i : Nat} {a : Act} {K : Act → Prop} {K' : Act → World → Prop} {Q' : Exit → Act → World → Prop} (h : ∀ a, K a → K' a w) (hh : stOp P ops w i K a) : wpOpIn F n P ops Q' i K' a w := by
 unfold stOp at hh
 unfold wpOpIn
 split
 · rename_i ho; simp only [ho] at hh; exact h _ hh
 · rename_i o ho
   simp only [ho] at hh
   split
   · rename_i hw; simp only [hw, if_true] at hh; exact wpIn_of_still L (noDefer_spec hnd ho) h hh
   · rename_i hw; simp only [hw] at hh; exact ⟨fun f _ => L.fn f, h _ hh⟩
theorem wpAnyIn_of_head (F0 : Lets F) (hnd : noDefer ops = true) {w : World} {m g : Nat} {L : Array Bool → Act → Prop} {Q' : Exit → Act → World → Prop} (hL : ∀ listed a, L listed a → wpAnyIn F n P md ops Q' g listed a w) :
  ∀ (f : Nat) (listed : Array Bool) (a : Act), wpAnyL P md ops w m L f listed a → wpAnyIn F n P md ops Q' (f + g) listed a w
 | 0, listed, a, h => by rw [Nat.zero_add]; exact hL _ _ h
 | f + 1, listed, a, h => by
  rw [show f + 1 + g = (f + g) + 1 by omega]
  exact ⟨fun h0 => absurd h0 h.1, fun i hi => wpOpIn_of_stOp F0 hnd (fun a' h' => wpAnyIn_of_head F0 hnd hL f _ a' h') (h.2 i hi).2⟩
theorem wpAnyIn_of_seq {Q' : Exit → Act → World → Prop} : ∀ (l : List Oper) (k : Nat) (listed : Array Bool) (a : Act) (w : World), (∀ j, l[j]? = ops[k + j]?) →
  Region.seqB md ops l.length k listed = true → wpListIn F n P ops Q' l a w → wpAnyIn F n P md ops Q' l.length listed a w
 | [], _, _, _, _, _, hB, h => ⟨by simpa [Region.seqB] using hB, h⟩
 | o :: l, k, listed, a, w, hl, hB, h => by
  have h0 : ops[k]? = some o := by simpa using (hl 0).symm
  simp only [List.length_cons, Region.seqB, Bool.and_eq_true, decide_eq_true_eq] at hB
  refine ⟨fun h1 => (by rw [hB.1] at h1; cases h1), fun i hi => ?_⟩
  rw [hB.1] at hi
  have hik : i = k := by simpa using hi
  subst hik
  have hw : wpOpIn F n P ops Q' i (wpListIn F n P ops Q' l) a w := by unfold wpOpIn; simp only [h0]; exact h
  exact wpOpIn_mono (fun a' w' h' => wpAnyIn_of_seq l (i + 1) _ a' w' (fun j => by have := hl (j + 1); simpa [Nat.add_assoc, Nat.add_comm 1 j] using this) hB.2 h') hw
theorem region_tail_in (L : Lets F) {id : Nat} {Q : Exit → Act → World → Prop} {a : Act} {w : World} {l : List Oper} (m : Nat) (hm : P.follows .mixedOrders = true) (hB : (Region.lexTailB .any l.toArray m && noDefer l.toArray) = true)
  (h : wpStill P l.toArray w.drew (fun a' => wpListIn F n P l.toArray Q (l.drop m) a' w.drew) (l.take m) a) : (Code.region id l.toArray true).wpIn F n P Q a w := by
 simp only [Region.lexTailB, Bool.and_eq_true, decide_eq_true_eq] at hB
 obtain ⟨⟨⟨⟨⟨hsel, hn⟩, hs⟩, hc⟩, hlex⟩, hnd⟩ := hB
 have hn' : m < l.length := by simpa using hn
 have htl : (l.take m).length = m := by simp; omega
 have hdl : (l.drop m).length = l.toArray.size - m := by simp
 have inv0 : HeadInv .any l.toArray m (Array.replicate l.toArray.size false) :=
  ⟨by simp, fun j oj _ hl => (by rw [getD_replicate_false] at hl; cases hl), fun t _ ht => getD_in (by simpa using ht) (getD_replicate_false _ _)⟩
 have H := wpAnyL_lex (md := .any) (g := l.toArray.size - m) hsel hs hc hn (l.take m) 0 _ a (fun j hj => by
  have hj' : j < m := by rw [htl] at hj; exact hj
  simp [hj']) (by simpa using htl) inv0 (by rw [htl]; exact hlex) h
 refine wpIn_region_any hm ?_
 have := wpAnyIn_of_head L hnd (Q' := Q) (g := l.toArray.size - m) (fun listed a' hL => by
  have := wpAnyIn_of_seq (md := .any) (Q' := Q) (l.drop m) m listed a' w.drew (fun j => by simp [List.getElem?_drop]) (by rw [hdl]; exact hL.1) hL.2
  rwa [hdl] at this) _ _ _ H
 rw [htl, show m + (l.toArray.size - m) = l.toArray.size by omega] at this
 exact this
theorem wpIn_of_wp (L : Lets F) {w : World} {o : Oper} {a : Act} {K K' : Act → World → Prop} {Q' : Exit → Act → World → Prop} (hd : ∀ c, o.op ≠ .defer c) (h : ∀ a w, K a w → K' a w) (hh : o.wp P a w K Q') : o.wpIn F n P a w K' Q' := by
 refine ⟨fun f _ => L.fn f, ?_⟩
 rw [Oper.semAt_plain F _ _ hd]
 unfold Oper.wp at hh
 generalize (execOp a.eval o).run P w = r at *
 cases r with
 | ok x w' =>
  cases x <;> simp only [Oper.upon] at hh <;> simp only [Oper.uponIn]
  case enter f args => exact ⟨fun h => by simp [L.depth] at h, (L.calls hh).mono fun e w'' he => by cases e <;> first | exact h _ _ he | exact he⟩
  case row r args => exact ⟨fun h => by simp [L.depth] at h, (L.rows hh).mono fun _ _ he => h _ _ he⟩
  all_goals exact h _ _ hh
 | halt x w' => cases x <;> simp only [Oper.upon] at hh <;> exact hh
theorem wpAnyIn_of_any (L : Lets F) (hnd : noDefer ops = true) {Q' : Exit → Act → World → Prop} (hQ : ¬ LetsOut Q') : ∀ (f : Nat) (listed : Array Bool) (a : Act) (w : World), wpAny P md ops Q' f listed a w → wpAnyIn F n P md ops Q' f listed a w
 | 0, _, _, _, h => h
 | f + 1, listed, a, w, h => by
  refine ⟨h.1, fun i hi => ?_⟩
  have h2 := h.2 i hi
  unfold wpOp at h2
  unfold wpOpIn
  split
  · rename_i ho; simp only [ho] at h2; exact wpAnyIn_of_any L hnd hQ f _ _ _ h2
  · rename_i o ho
    simp only [ho] at h2
    split
    · rename_i hw
      simp only [hw, if_true] at h2
      rcases h2 with h2 | h2
      · exact wpIn_of_wp L (noDefer_spec hnd ho) (fun a' w' h' => wpAnyIn_of_any L hnd hQ f _ a' w' h') h2
      · exact absurd h2.2 hQ
    · rename_i hw
      simp only [hw] at h2
      exact ⟨fun f _ => L.fn f, wpAnyIn_of_any L hnd hQ f _ _ _ h2⟩
theorem region_any_in (L : Lets F) {id : Nat} {Q : Exit → Act → World → Prop} {a : Act} {w : World} (hm : P.follows .mixedOrders = true) (hnd : noDefer ops = true) (hQ : ¬ LetsOut Q)
  (h : wpAny P .any ops Q ops.size (Array.replicate ops.size false) a w.drew) : (Code.region id ops true).wpIn F n P Q a w :=
 wpIn_region_any hm (wpAnyIn_of_any L hnd hQ _ _ _ _ h)
theorem wpOp_intro {Q : Exit → Act → World → Prop} {i : Nat} {o : Oper} {K : Act → World → Prop} {a : Act} {w : World} (ho : ops[i]? = some o)
   (h : ∀ K' : Act → World → Prop, (∀ a w, K a w → K' a w) → if Region.wanted o (yielded ops a.tmps) then o.wp P a w K' Q else K' (a.put o.dst undef) w) : wpOp P ops Q i K a w := by
 have := h K (fun _ _ h => h)
 unfold wpOp
 simp only [ho]
 split
 · rename_i hw; simp only [hw, if_true] at this; exact .inl this
 · rename_i hw; simp only [hw] at this; exact this
theorem wdn {P : Program} {md : Region.Mode} {ops : Array Oper} {S : World → Prop} {Q : Exit → Act → World → Prop} {fuel : Nat} {listed : Array Bool} {a : Act} {w : World} (h : Q .normal a w) (hr : Region.ready md ops listed = [] := by kernel_rfl) : wpAnyH P md ops Q S fuel listed a w := wpAnyH_done hr h _
theorem one_op {P : Program} {md : Region.Mode} {ops : Array Oper} {S : World → Prop} {Q : Exit → Act → World → Prop} (i : Nat) {o : Oper} {fuel : Nat} {listed : Array Bool} {a : Act} {w : World} (ho : ops[i]? = some o)
    (h : ∀ K' : Act → World → Prop, (∀ a' w', (S w' ∧ wpAnyH P md ops Q S fuel (listed.setIfInBounds i true) a' w') → K' a' w') → if Region.wanted o (yielded ops a.tmps) then o.wp P a w K' Q else K' (a.put o.dst undef) w) (hr : Region.ready md ops listed = [i] := by kernel_rfl) : wpAnyH P md ops Q S (fuel + 1) listed a w :=
  wpAnyH_all hr (by simp) (fun j hj => by obtain rfl : j = i := by simpa using hj
                                          exact wpOp_intro ho h)
theorem two_op {P : Program} {md : Region.Mode} {ops : Array Oper} {S : World → Prop} {Q : Exit → Act → World → Prop} (i j : Nat) {fuel : Nat} {listed : Array Bool} {a : Act} {w : World}
  (hi : wpOp P ops Q i (fun a' w' => S w' ∧ wpAnyH P md ops Q S fuel (listed.setIfInBounds i true) a' w') a w) (hj : wpOp P ops Q j (fun a' w' => S w' ∧ wpAnyH P md ops Q S fuel (listed.setIfInBounds j true) a' w') a w) (hr : Region.ready md ops listed = [i, j] := by kernel_rfl) : wpAnyH P md ops Q S (fuel + 1) listed a w :=
 wpAnyH_all hr (by simp) (fun k hk => by
  have hk : k = i ∨ k = j := by simpa using hk
  rcases hk with rfl | rfl
  · exact hi
  · exact hj)
theorem three_op {P : Program} {md : Region.Mode} {ops : Array Oper} {S : World → Prop} {Q : Exit → Act → World → Prop} (i j l : Nat) {fuel : Nat} {listed : Array Bool} {a : Act} {w : World}
  (hi : wpOp P ops Q i (fun a' w' => S w' ∧ wpAnyH P md ops Q S fuel (listed.setIfInBounds i true) a' w') a w) (hj : wpOp P ops Q j (fun a' w' => S w' ∧ wpAnyH P md ops Q S fuel (listed.setIfInBounds j true) a' w') a w) (hl : wpOp P ops Q l (fun a' w' => S w' ∧ wpAnyH P md ops Q S fuel (listed.setIfInBounds l true) a' w') a w) (hr : Region.ready md ops listed = [i, j, l] := by kernel_rfl) : wpAnyH P md ops Q S (fuel + 1) listed a w :=
 wpAnyH_all hr (by simp) (fun k hk => by
  have hk : k = i ∨ k = j ∨ k = l := by simpa using hk
  rcases hk with rfl | rfl | rfl
  · exact hi
  · exact hj
  · exact hl)
theorem wtp {P : Program} {md : Region.Mode} {ops : Array Oper} {S : World → Prop} {Q : Exit → Act → World → Prop} (i : Nat) (v : Value) {oi : Oper} {fuel : Nat} {listed : Array Bool} {a : Act} {w : World} (hi : ops[i]? = some oi)
  (hQ : ∀ c a w, Q (.panic c) (a.put oi.dst v) w → Q (.panic c) a w) (hy : YieldsIf P ops S oi v a) (hS : S w)
  (h : wpAnyH P md ops Q S fuel (listed.setIfInBounds i true) (a.put oi.dst v) w) (hs : Region.noSelect ops = true := by kernel_rfl) (hf : Region.free md ops listed i = true := by kernel_rfl) (hr : (Region.ready md ops listed).contains i = true := by kernel_rfl) : wpAnyH P md ops Q S (fuel + 1) listed a w :=
 wpAnyH_take hi hs hf hr hQ hy hS h
theorem wtk {P : Program} {md : Region.Mode} {ops : Array Oper} {S : World → Prop} {Q : Exit → Act → World → Prop} (i : Nat) (v : Value) {d : Option Tmp} {op : Op} {ty : TypeId} {pos : String} {af : Array Edge} {gd : Option (Nat × Bool)} {fuel : Nat} {listed : Array Bool} {a : Act} {w : World} (hi : ops[i]? = some ⟨d, op, ty, pos, af, gd⟩)
  (hQ : ∀ c a w, Q (.panic c) (a.put d v) w → Q (.panic c) a w) (hy : YieldsIf P ops S ⟨d, op, ty, pos, af, gd⟩ v a) (hS : S w)
  (h : wpAnyH P md ops Q S fuel (listed.setIfInBounds i true) (a.put d v) w) (hs : Region.noSelect ops = true := by kernel_rfl) (hf : Region.free md ops listed i = true := by kernel_rfl) (hr : (Region.ready md ops listed).contains i = true := by kernel_rfl) : wpAnyH P md ops Q S (fuel + 1) listed a w :=
 wpAnyH_take hi hs hf hr hQ hy hS h
theorem region_held_in (L : Lets F) {id : Nat} {Q : Exit → Act → World → Prop} {a : Act} {w : World} (S : World → Prop) (hm : P.follows .mixedOrders = true) (hnd : noDefer ops = true) (hQ : ¬ LetsOut Q)
  (h : wpAnyH P .any ops Q S ops.size (Array.replicate ops.size false) a w.drew) : (Code.region id ops true).wpIn F n P Q a w :=
 region_any_in L hm hnd hQ (wpAny_of_held _ _ _ _ h)
end
end
section
open Go Go.RowKit Go.Shelf
def IterAt (P : Program) (g : Nat) (lb : Array Value) (N : Nat) (vals : Nat → Array Value) (B : Nat → World → Prop) : Prop :=
 ∀ (l : Nat) (J : Nat → World → Prop) (Jx : World → Prop) (W : World), (∀ k W1, J k W1 → B k W1) → (∀ k W1, J k W1 → J k W1.drew) →
  (∀ k W1, J k W1 → k < N → YieldAt Fence.wide 0 P l (vals k) W1 fun e W' =>
   (e = .returned (.bool true) ∧ J (k + 1) W') ∨ (e = .returned (.bool false) ∧ Jx W')) →
  J 0 W → CallsIn Fence.wide 0 P g (#[.func (.yield l) #[] #[]] ++ lb) W fun e W' => (∃ v, e = .returned v) ∧ (J N W' ∨ Jx W')
def roundEnd (B : Nat) (I : World → Prop) (Ix : Code → World → Prop) (W : World) : Exit → Act → World → Prop
 | .normal, _, W' => KeepsFrom B W W' ∧ I W'
 | .ret, _, W' => KeepsFrom B W W' ∧ Ix .ret W'
 | .exit id, _, W' => KeepsFrom B W W' ∧ Ix (.exit id) W'
 | .goto t, _, W' => KeepsFrom B W W' ∧ Ix (.goto t) W'
 | .panic _, _, _ => False
 | .outgrown, _, _ => False
def NextRound (P : Program) (l : Nat) (body : Code) (B : Nat) (I I' : World → Prop) (Ix : Code → World → Prop) (W : World) (a : Act) (W1 : World) : Prop :=
 W1 = W ∧ ∀ W2, I W2 → body.wpIn (Fence.wide.inRound l) 0 P (roundEnd B I' Ix W2) a W2
theorem NextRound.mk {P : Program} {l : Nat} {body : Code} {B : Nat} {I I' : World → Prop} {Ix : Code → World → Prop} {W : World} {a : Act}
 (h : ∀ W2, I W2 → body.wpIn (Fence.wide.inRound l) 0 P (roundEnd B I' Ix W2) a W2) : NextRound P l body B I I' Ix W a W := ⟨rfl, h⟩
theorem wp_rangeAt {P : Program} {g : Operand} {ps : Array Tmp} {assign body : Code} {Q : Exit → Act → World → Prop} {a : Act} {w : World}
   {gf : Nat} {lb : Array Value} (hg : a.eval g = .func (.func gf) #[] lb) (eg : ∀ args w, (callFunc gf args).run P w = .ok (.enter gf args) w)
   {N : Nat} {vals : Nat → Array Value} {B : Nat → World → Prop} (hseq : IterAt P gf lb N vals B) (hps : ∀ k, (vals k).size = ps.size)
   (I : Nat → World → Prop) (Ix : Code → World → Prop) (hI : OwnFrom w.heap.size I) (hIx : OwnFrom w.heap.size Ix) (hIB : ∀ k W, I k W → B k W) (h0 : I 0 w)
   (hround : ∀ (l k : Nat) (W : World), k < N →
     assign.wpIn (Fence.wide.inRound l) 0 P (Exit.then (NextRound P l body w.heap.size (I k) (I (k + 1)) Ix W) (fun _ _ _ => False)) { tmps := (ps.zip (vals k)).foldl (fun t (p, v) => t.setIfInBounds p v) a.tmps, defers := [] } W)
   (hdone : ∀ (D : Nat) (W : World), w.heap.size ≤ D → I N W → W.heap[D]? = some (.deferred (some [])) → Q .normal { a with defers := { target := .collected D, args := #[] } :: a.defers } W)
   (hstop : ∀ (D : Nat) (c : Code) (W : World), w.heap.size ≤ D → Ix c W → W.heap[D]? = some (.deferred (some [])) → c.wpIn Fence.wide 0 P Q { a with defers := { target := .collected D, args := #[] } :: a.defers } W) :
   (Code.rangeFunc g ps assign body).wpIn Fence.wide 0 P Q a w := by
 refine wpIn_rangeFunc fun fn _ => ?_
 -- the loop's record, in its states
 let rec_ : LoopState → Option Code → Loop := fun st pe => { state := st, pending := pe, fn, tmps := a.tmps, params := ps, assign, body, defers := w.heap.size }
 let L := w.heap.size + 1
 let W1 := (w.alloc (.deferred (some []))).alloc (.loop (rec_ .ready none))
 have hL1 : W1.heap[L]? = some (.loop (rec_ .ready none)) := by
   have := World.alloc_heap_new (w.alloc (.deferred (some []))) (.loop (rec_ .ready none)); rwa [World.size_alloc] at this
 have hK1 : W1.heap[w.heap.size]? = some (.deferred (some [])) := (Below.heap_alloc _ _ _ (by simp)).trans (World.alloc_heap_new w _)
 have hI1 : I 0 W1 := hI.alloc _ (hI.alloc _ h0)
 refine ⟨L, [{ target := .collected w.heap.size, args := #[] }], W1, { target := .fn (.func gf) lb, args := #[.func (.yield L) #[] #[]] }, W1, gf, #[.func (.yield L) #[] #[]] ++ lb, W1, run_enterLoop_outer _ _ _ _ _, ?_, fun _ _ => trivial, ?_, fun h => by simp [Fence.wide] at h, ?_⟩
 · simp only [resolve, hg]
   simp [go_sem]
 · simp [invoke, go_sem, eg]
 refine (hseq L (fun k W => I k W ∧ W.heap[L]? = some (.loop (rec_ .ready none)) ∧ W.heap[w.heap.size]? = some (.deferred (some [])))
     (fun W => ∃ c, Ix c W ∧ W.heap[L]? = some (.loop (rec_ .done (some c))) ∧ W.heap[w.heap.size]? = some (.deferred (some [])))
     W1 (fun k W h => hIB k W h.1) (fun k W h => ⟨hI _ _ _ none h.1 ⟨rfl, rfl, rfl, Nat.le_refl _, fun _ _ _ => rfl⟩ (fun _ e => by cases e), h.2.1, h.2.2⟩) ?_ ⟨hI1, hL1, hK1⟩).mono ?_
 · -- a round
   rintro k W ⟨hi, hl, hk⟩ hlt
   have hy := run_yield (P := P) (args := vals k) hl (hps k)
   refine ⟨fn, _, assign, body, hy, roundIn_of_wpIn trivial (wpIn_mono (hround L k W hlt) ?_)⟩
   have hLt : L < W.heap.size := (Array.getElem?_eq_some_iff.1 hl).1
   let W2 := W.putObj L (.loop { rec_ .ready none with state := .busy })
   have hl2 : W2.heap[L]? = some (.loop { rec_ .ready none with state := .busy }) := World.putObj_heap_same hLt
   have hk2 : W2.heap[w.heap.size]? = some (.deferred (some [])) := (World.putObj_heap_other (by omega)).trans hk
   rintro e a1 W1' hn
   cases e with
   | normal => ?_
   | exit _ => exact hn.elim
   | goto _ => exact hn.elim
   | ret => exact hn.elim
   | panic _ => exact hn.elim
   | outgrown => exact hn.elim
   obtain ⟨rfl, hn⟩ := hn
   refine ⟨_, run_beginRound hl rfl, wpIn_mono (hn W2 (hI.putObj _ hi (by omega) hl rfl)) ?_⟩
   have fin : ∀ (jump : Option Code) (W3 : World), KeepsFrom w.heap.size W2 W3 →
      (Instr.endRound L jump).run P W3 = .ok (.bool jump.isNone) (W3.putObj L (.loop (rec_ (if jump.isNone then .ready else .done) jump))) ∧
      W3.heap[L]? = some (.loop { rec_ .ready none with state := .busy }) ∧
      (W3.putObj L (.loop (rec_ (if jump.isNone then .ready else .done) jump))).heap[L]? = some (.loop (rec_ (if jump.isNone then .ready else .done) jump)) ∧
      (W3.putObj L (.loop (rec_ (if jump.isNone then .ready else .done) jump))).heap[w.heap.size]? = some (.deferred (some [])) := fun jump W3 hk3 => by
     have hl3 := hk3.same _ _ (by omega) hl2 rfl
     exact ⟨run_endRound (P := P) jump hl3, hl3, World.putObj_heap_same (Array.getElem?_eq_some_iff.1 hl3).1, (World.putObj_heap_other (by omega)).trans (hk3.same _ _ (Nat.le_refl _) hk2 rfl)⟩
   rintro e a3 W3 hp
   cases e with
   | normal =>
     obtain ⟨hr, hl3, hl4, hk4⟩ := fin none W3 hp.1
     exact ⟨_, _, hr, .inl ⟨rfl, hI.putObj _ hp.2 (by omega) hl3 rfl, hl4, hk4⟩⟩
   | ret =>
     obtain ⟨hr, hl3, hl4, hk4⟩ := fin (some .ret) W3 hp.1
     exact ⟨_, _, hr, .inr ⟨rfl, .ret, hIx.putObj _ hp.2 (by omega) hl3 rfl, hl4, hk4⟩⟩
   | exit id =>
     obtain ⟨hr, hl3, hl4, hk4⟩ := fin (some (.exit id)) W3 hp.1
     exact ⟨_, _, hr, .inr ⟨rfl, .exit id, hIx.putObj _ hp.2 (by omega) hl3 rfl, hl4, hk4⟩⟩
   | goto t =>
     obtain ⟨hr, hl3, hl4, hk4⟩ := fin (some (.goto t)) W3 hp.1
     exact ⟨_, _, hr, .inr ⟨rfl, .goto t, hIx.putObj _ hp.2 (by omega) hl3 rfl, hl4, hk4⟩⟩
   | panic ch => exact hp.elim
   | outgrown => exact hp.elim
 · -- behind the iterator
   rintro e W2 ⟨⟨v, rfl⟩, (⟨hi, hl, hk⟩ | ⟨c, hi, hl, hk⟩)⟩
   · exact ⟨none, _, run_endLoop (P := P) hl (by simp [rec_]), hdone _ _ (Nat.le_refl _) (hI.putObj _ hi (by omega) hl rfl) ((World.putObj_heap_other (by omega)).trans hk)⟩
   · exact ⟨some c, _, run_endLoop (P := P) hl (by simp [rec_]), hstop _ c _ (Nat.le_refl _) (hIx.putObj _ hi (by omega) hl rfl) ((World.putObj_heap_other (by omega)).trans hk)⟩
end
end Go.Proofs.YtgmbaamfobhceaaGreat
