/- What is known of memory in a walk: boxes, and slices of parts. Bits moved up and down; what the heads of two numbers are. The bits of 0 ahead of a .. -/
import Derived.Test.YtgmbaamfobhceaaGreatGSteps
import Derived.Test.YtgmbaamfobhceaaGreatGLoop
import Derived.Test.YtgmbaamfobhceaaGreatLay
import Derived.Test.YtgmbaamfobhceaaGreatGCmp
import Derived.Test.YtgmbaamfobhceaaGreatGSubT
import Derived.Test.YtgmbaamfobhceaaGreatGPart
set_option linter.unusedSimpArgs false
set_option linter.unusedVariables false
set_option maxRecDepth 100000
set_option maxHeartbeats 4000000
namespace Go.Proofs.YtgmbaamfobhceaaGreat
open Go Go.Proofs Go.RowKit Go.Shelf Nu
def no32 : Value → Bool
 | .int .u32 _ => false
 | _ => true
theorem Reads.put {W : World} {b : Nat} {t : TypeId} {cs : List Value} {v : Value} {l : List Nat} (h : Reads W v l) (hB : BoxN W b t cs.toArray) (hn : cs.all no32 = true) (o : Nat) (x : Value) : Reads (W.setCell ⟨b, o, none⟩ x) v l := by
 rcases h with h | ⟨b', off, cap, rfl, hb', hc, hl⟩ | h
 rotate_right
 · exact .inr (.inr h)
 · exact .inl h
 · refine .inr (.inl ⟨b', off, cap, rfl, by simpa using hb', hc, fun j hj => ?_⟩)
   have hne : b' ≠ b := by
    rintro rfl
    have h1 := hl j hj
    unfold World.cell? at h1
    rw [show W.heap[b']? = _ from hB] at h1
    have h2 : cs[off + j]? = some (.int .u32 (l.getD j 0 : Nat)) := by simpa using h1
    have := List.all_eq_true.1 hn _ (List.mem_of_getElem? h2)
    simp [no32] at this
   exact (World.cell?_of_block (w := W) (Below.heap_setCell W ⟨b, o, none⟩ x b' hne)).trans (hl j hj)
def Mem (w : World) (bs : List (Nat × TypeId × List Value)) (rs : List (Value × List Nat)) (W : World) : Prop :=
 Below w.heap.size w W ∧ (∀ (k b : Nat) (t : TypeId) (cs : List Value), bs[k]? = some (b, t, cs) → w.heap.size ≤ b ∧ BoxN W b t cs.toArray) ∧
 (∀ (j k : Nat) (x y : Nat × TypeId × List Value), bs[j]? = some x → bs[k]? = some y → x.1 = y.1 → j = k) ∧ (∀ (k : Nat) (v : Value) (l : List Nat), rs[k]? = some (v, l) → Reads W v l)
section
variable {w W W' : World} {bs : List (Nat × TypeId × List Value)} {rs : List (Value × List Nat)} {b : Nat} {t : TypeId} {cs : List Value} {v : Value} {l : List Nat}
theorem Mem.start (w : World) : Mem w [] [] w := ⟨Below.refl _ _, by simp, by simp, by simp⟩
theorem Mem.below (M : Mem w bs rs W) : Below w.heap.size w W := M.1
theorem Mem.up (M : Mem w bs rs W) (r : Below W.heap.size W W') : Mem w bs rs W' :=
 ⟨then_below M.1 r, fun k b t cs e => ⟨(M.2.1 k b t cs e).1, (M.2.1 k b t cs e).2.below r⟩, M.2.2.1, fun k v l e => (M.2.2.2 k v l e).below r⟩
theorem Mem.drew (M : Mem w bs rs W) : Mem w bs rs W.drew := M.up ⟨rfl, rfl, rfl, Nat.le_refl _, fun _ _ => rfl⟩
theorem Mem.box (M : Mem w bs rs W) (k : Nat) (e : bs[k]? = some (b, t, cs)) : BoxN W b t cs.toArray := (M.2.1 k b t cs e).2
theorem Mem.at (M : Mem w bs rs W) (k : Nat) (e : bs[k]? = some (b, t, cs)) : w.heap.size ≤ b := (M.2.1 k b t cs e).1
theorem Mem.lt (M : Mem w bs rs W) {k : Nat} {x : Nat × TypeId × List Value} (e : bs[k]? = some x) : x.1 < W.heap.size := (M.2.1 k x.1 x.2.1 x.2.2 e).2.lt
theorem Mem.new (M : Mem w bs rs W) (t : TypeId) (cs : List Value) : Mem w ((W.heap.size, t, cs) :: bs) rs (W.alloc (.cells cs.toArray t)) := by
 refine ⟨M.1.alloc M.1.size _, fun k b t' cs' e => ?_, fun j k x y ex ey e => ?_, fun k v l e => (M.2.2.2 k v l e).below ((Below.refl _ _).alloc (Nat.le_refl _) _)⟩
 · cases k with
   | zero =>
    simp only [List.getElem?_cons_zero, Option.some.injEq, Prod.mk.injEq] at e
    obtain ⟨rfl, rfl, rfl⟩ := e
    exact ⟨M.1.size, BoxN.new W _ _⟩
   | succ k => have := M.2.1 k b t' cs' (by simpa using e); exact ⟨this.1, this.2.alloc _⟩
 · cases j with
   | zero =>
    cases k with
    | zero => rfl
    | succ k =>
     simp only [List.getElem?_cons_zero, Option.some.injEq] at ex
     have := M.lt (k := k) (x := y) (by simpa using ey)
     rw [← ex] at e; simp at e; omega
   | succ j =>
    cases k with
    | zero =>
     simp only [List.getElem?_cons_zero, Option.some.injEq] at ey
     have := M.lt (k := j) (x := x) (by simpa using ex)
     rw [← ey] at e; simp at e; omega
    | succ k => rw [M.2.2.1 j k x y (by simpa using ex) (by simpa using ey) e]
theorem Mem.fresh (M : Mem w bs rs W) (t : TypeId) (cs : List Value) : ∃ b V, V = W.alloc (.cells cs.toArray t) ∧ b = W.heap.size ∧ Mem w ((b, t, cs) :: bs) rs V := ⟨_, _, rfl, rfl, M.new t cs⟩
theorem Mem.add (M : Mem w bs rs W) (g : Reads W v l) : Mem w bs ((v, l) :: rs) W :=
 ⟨M.1, M.2.1, M.2.2.1, fun k v' l' e => by
  cases k with
  | zero => simp only [List.getElem?_cons_zero, Option.some.injEq, Prod.mk.injEq] at e; obtain ⟨rfl, rfl⟩ := e; exact g
  | succ k => exact M.2.2.2 k v' l' (by simpa using e)⟩
theorem Mem.get (M : Mem w bs rs W) (k : Nat) (e : rs[k]? = some (v, l)) : Reads W v l := M.2.2.2 k v l e
theorem Mem.cell (M : Mem w bs rs W) (k : Nat) (e : bs[k]? = some (b, t, cs)) (o : Nat) (hv : cs[o]? = some v) : W.cell? ⟨b, o, none⟩ = some v := (M.box k e).cell o v (by simpa using hv)
theorem Mem.fr (M : Mem w bs rs W) (k : Nat) (e : bs[k]? = some (b, t, cs)) (o : Nat) : W.frozen? ⟨b, o, none⟩ = false := (M.box k e).fr o
theorem Mem.put (M : Mem w bs rs W) (k : Nat) (e : bs[k]? = some (b, t, cs)) (hn : cs.all no32 = true) (o : Nat) (x : Value) : Mem w (bs.set k (b, t, cs.set o x)) rs (W.setCell ⟨b, o, none⟩ x) := by
 have hB := M.box k e
 refine ⟨M.1.setCell (p := ⟨b, o, none⟩) (M.at k e) _, fun k' b' t' cs' e' => ?_, fun j j' y y' ey ey' he => ?_, fun k' v l e' => (M.2.2.2 k' v l e').put hB hn o x⟩
 · rw [List.getElem?_set] at e'
   split at e'
   · split at e'
     · simp only [Option.some.injEq, Prod.mk.injEq] at e'
       obtain ⟨rfl, rfl, rfl⟩ := e'
       refine ⟨M.at k e, ?_⟩
       have := hB.set o x
       rwa [List.setIfInBounds_toArray] at this
     · cases e'
   · rename_i hk
     have h := M.2.1 k' b' t' cs' e'
     exact ⟨h.1, h.2.other (fun eb => hk (M.2.2.1 k k' _ _ e e' eb.symm)) _⟩
 · have key : ∀ (j : Nat) (y : Nat × TypeId × List Value), (bs.set k (b, t, cs.set o x))[j]? = some y → ∃ z, bs[j]? = some z ∧ z.1 = y.1 := by
     intro j y ey
     rw [List.getElem?_set] at ey
     split at ey
     · rename_i hk
       subst hk
       split at ey
       · simp only [Option.some.injEq] at ey
         exact ⟨_, e, by rw [← ey]⟩
       · cases ey
     · exact ⟨y, ey, rfl⟩
   obtain ⟨z, hz, e1⟩ := key j y ey
   obtain ⟨z', hz', e2⟩ := key j' y' ey'
   exact M.2.2.1 j j' z z' hz hz' (by rw [e1, e2, he])
theorem Mem.old {cs : Array Value} (M : Mem w bs rs W) (h : BoxN w b t cs) : BoxN W b t cs := (M.1.block b h.lt).trans h
theorem Mem.swap {x y : Nat × TypeId × List Value} (M : Mem w (x :: y :: bs) rs W) : Mem w (y :: x :: bs) rs W := by
 have hx : ∀ (k : Nat) (z : Nat × TypeId × List Value), (y :: x :: bs)[k]? = some z → ∃ k', (x :: y :: bs)[k']? = some z ∧ (k' = if k = 0 then 1 else if k = 1 then 0 else k) := by
   intro k z e
   match k with
   | 0 => exact ⟨1, by simpa using e, rfl⟩
   | 1 => exact ⟨0, by simpa using e, rfl⟩
   | k + 2 => exact ⟨k + 2, by simpa using e, by simp⟩
 refine ⟨M.1, fun k b t cs e => ?_, fun j k u v eu ev he => ?_, M.2.2.2⟩
 · obtain ⟨k', e', _⟩ := hx k _ e
   exact M.2.1 k' b t cs e'
 · obtain ⟨j', e1, h1⟩ := hx j _ eu
   obtain ⟨k', e2, h2⟩ := hx k _ ev
   have := M.2.2.1 j' k' _ _ e1 e2 he
   rw [h1, h2] at this
   split at this <;> split at this <;> (try split at this) <;> (try split at this) <;> omega
end
/-! ### a region that draws its order, cut around: F: the frame behind it (found at its end) -/
theorem region_mem {P : Program} {ops : Array Oper} {Q : Exit → Act → World → Prop} {S : World → Prop} {id : Nat} {a : Act} {w w0 : World} {bs : List (Nat × TypeId × List Value)} {rs : List (Value × List Nat)} (M : Mem w0 bs rs w) (hm : P.follows .mixedOrders = true)
  (h : ∀ V, Mem w0 bs rs V → wpAnyH P .any ops Q S ops.size (Array.replicate ops.size false) a V) : (Code.region id ops true).wp P Q a w :=
 wp_region_held hm (h w.drew M.drew)
theorem region_cut_nnss {P : Program} {c : Code} {Q : Exit → Act → World → Prop} {a : Act} {w : World} (F : Nat → Nat → Option Addr → Nat → Option Addr → Nat → Act) (Fact : Nat → Nat → Option Addr → Nat → Option Addr → Nat → World → Prop)
  (first : c.wp P (fun e a' w' => e = .normal ∧ ∃ (b0 : Nat) (b1 : Nat) (a2 : Option Addr) (c2 : Nat) (a3 : Option Addr) (c3 : Nat), a' = F b0 b1 a2 c2 a3 c3 ∧ Fact b0 b1 a2 c2 a3 c3 w') a w) (rest : ∀ (b0 : Nat) (b1 : Nat) (a2 : Option Addr) (c2 : Nat) (a3 : Option Addr) (c3 : Nat) (w' : World), Fact b0 b1 a2 c2 a3 c3 w' → Q .normal (F b0 b1 a2 c2 a3 c3) w') : c.wp P Q a w :=
 Code.wp_mono (fun e a' w' h => by obtain ⟨rfl, b0, b1, a2, c2, a3, c3, rfl, hf⟩ := h; exact rest b0 b1 a2 c2 a3 c3 w' hf) first
theorem region_cut_nsss {P : Program} {c : Code} {Q : Exit → Act → World → Prop} {a : Act} {w : World} (F : Nat → Option Addr → Nat → Option Addr → Nat → Option Addr → Nat → Act) (Fact : Nat → Option Addr → Nat → Option Addr → Nat → Option Addr → Nat → World → Prop)
  (first : c.wp P (fun e a' w' => e = .normal ∧ ∃ (b0 : Nat) (a1 : Option Addr) (c1 : Nat) (a2 : Option Addr) (c2 : Nat) (a3 : Option Addr) (c3 : Nat), a' = F b0 a1 c1 a2 c2 a3 c3 ∧ Fact b0 a1 c1 a2 c2 a3 c3 w') a w) (rest : ∀ (b0 : Nat) (a1 : Option Addr) (c1 : Nat) (a2 : Option Addr) (c2 : Nat) (a3 : Option Addr) (c3 : Nat) (w' : World), Fact b0 a1 c1 a2 c2 a3 c3 w' → Q .normal (F b0 a1 c1 a2 c2 a3 c3) w') : c.wp P Q a w :=
 Code.wp_mono (fun e a' w' h => by obtain ⟨rfl, b0, a1, c1, a2, c2, a3, c3, rfl, hf⟩ := h; exact rest b0 a1 c1 a2 c2 a3 c3 w' hf) first
end Go.Proofs.YtgmbaamfobhceaaGreat
namespace Go.Proofs.YtgmbaamfobhceaaGreat.Nu
theorem pow32 {s : Nat} (h : s ≤ 32) : 2 ^ s * 2 ^ (32 - s) = 4294967296 := by
 rw [← Nat.pow_add, Nat.add_sub_cancel' h]
theorem two_pos (s : Nat) : 0 < 2 ^ s := Nat.pow_pos (by decide)
theorem pow31 {s : Nat} (h : s ≤ 31) : 2 ^ s ≤ 2147483648 := Nat.le_trans (Nat.pow_le_pow_right (by decide) h) (by decide)
theorem up_step {la out : List Nat} {k c S : Nat} (hk : out.length = k) (h : val out + 4294967296 ^ k * c = val (la.take k) * S) :
  val (out ++ [(c + la.getD k 0 * S) % 4294967296]) + 4294967296 ^ (k + 1) * ((c + la.getD k 0 * S) / 4294967296) = val (la.take (k + 1)) * S := by
 rw [val_snoc, val_take_succ, hk, Nat.pow_succ]
 have := ring_add _ _ c (la.getD k 0 * S) _ _ ((c + la.getD k 0 * S) % 4294967296) ((c + la.getD k 0 * S) / 4294967296) h rfl (by omega)
 rw [this, Nat.add_mul, Nat.mul_assoc]
theorem up_bound {c x S : Nat} (hc : c < S) (hx : x < 4294967296) (hS : S ≤ 2147483648) : c + x * S < 9223372036854775808 ∧ (c + x * S) / 4294967296 < S := by
 have h1 : x * S ≤ 4294967295 * S := Nat.mul_le_mul_right _ (by omega)
 exact ⟨by omega, by omega⟩
theorem down_part {S T a x V : Nat} (hS : 0 < S) (hB : S * T = 4294967296) (ha : V % 4294967296 = a) (hx : x < 4294967296) :
  (a * 4294967296 + x) / S % 4294967296 + 4294967296 * (V / S) = (x + 4294967296 * V) / S := by
 have e1 : V = S * (V / S) + V % S := (Nat.div_add_mod V S).symm
 have e2 : a % S = V % S := by rw [← ha, ← hB, Nat.mod_mul_right_mod]
 have e3 : a = S * (a / S) + V % S := by have := (Nat.div_add_mod a S).symm; rwa [e2] at this
 generalize V / S = c at *
 have hd : V % S < S := Nat.mod_lt _ hS
 generalize V % S = d at *
 generalize a / S = f at *
 have hlt : (x + 4294967296 * d) / S < 4294967296 := by
  refine Nat.div_lt_of_lt_mul ?_
  have := Nat.mul_le_mul_right 4294967296 (show d + 1 ≤ S by omega)
  omega
 have h1 : (a * 4294967296 + x) / S = (x + 4294967296 * d) / S + 4294967296 * f := by
  rw [e3, show (S * f + d) * 4294967296 + x = (x + 4294967296 * d) + S * (4294967296 * f) by grind, Nat.add_mul_div_left _ _ hS]
 have h2 : (x + 4294967296 * V) / S = (x + 4294967296 * d) / S + 4294967296 * c := by
  rw [e1, show x + 4294967296 * (S * c + d) = (x + 4294967296 * d) + S * (4294967296 * c) by grind, Nat.add_mul_div_left _ _ hS]
 rw [h1, h2, Nat.add_mul_mod_self_left, Nat.mod_eq_of_lt hlt]
theorem val_mod (l : List Nat) (hs : Sm l) : val l % 4294967296 = l.getD 0 0 := by
 cases l with
 | nil => rfl
 | cons x t =>
  have := hs.head
  simp [val, Nat.add_mul_mod_self_left, Nat.mod_eq_of_lt this]
theorem down_step {l cur : List Nat} {S T j : Nat} (hS : 0 < S) (hB : S * T = 4294967296) (hs : Sm l) (hj : j < l.length) (hc : j < cur.length)
  (h : val (cur.drop (j + 1)) = val (l.drop (j + 1)) / S) (a x : Nat) (ha : a = l.getD (j + 1) 0) (hx : x = l.getD j 0) :
  val ((cur.set j ((a * 4294967296 + x) / S % 4294967296)).drop j) = val (l.drop j) / S := by
 have hl1 : l.drop j = x :: l.drop (j + 1) := by
  rw [List.drop_eq_getElem_cons hj, hx, List.getD_eq_getElem?_getD, List.getElem?_eq_getElem hj]; rfl
 have hc1 : (cur.set j ((a * 4294967296 + x) / S % 4294967296)).drop j = ((a * 4294967296 + x) / S % 4294967296) :: cur.drop (j + 1) := by
  rw [List.drop_eq_getElem_cons (by simpa using hc), set_drop]
  simp
 have hm : val (l.drop (j + 1)) % 4294967296 = a := by
  rw [val_mod _ (hs.drop _), ha, List.getD_eq_getElem?_getD, List.getD_eq_getElem?_getD, List.getElem?_drop, Nat.add_zero]
 rw [hl1, hc1, val, val, h]
 exact down_part hS hB hm (by rw [hx]; exact hs.getD j)
/-! the head of a number -/
theorem val_top3p {l : List Nat} {n : Nat} (hl : l.length ≤ n + 3) : val l = val (l.take n) + 4294967296 ^ n * (l.getD n 0 + 4294967296 * (l.getD (n + 1) 0 + 4294967296 * l.getD (n + 2) 0)) := by
 have h1 := val_take_succ l (n + 2)
 have h2 := val_take_succ l (n + 1)
 have h3 := val_take_succ l n
 rw [List.take_of_length_le (by omega)] at h1
 have e1 : 4294967296 ^ (n + 1) = 4294967296 * 4294967296 ^ n := by rw [Nat.pow_succ, Nat.mul_comm]
 have e2 : 4294967296 ^ (n + 2) = 4294967296 * (4294967296 * 4294967296 ^ n) := by rw [Nat.pow_succ, e1, Nat.mul_comm]
 rw [e1] at h2
 rw [e2] at h1
 rw [h1, show n + 2 = n + 1 + 1 from rfl, h2, h3]
 generalize 4294967296 ^ n = P
 generalize l.getD n 0 = x
 generalize l.getD (n + 1) 0 = y
 generalize l.getD (n + 1 + 1) 0 = z
 clear h1 h2 h3 e1 e2 hl
 grind
theorem val_take_lt' {l : List Nat} (h : Sm l) (n : Nat) : val (l.take n) < 4294967296 ^ n := by
 refine Nat.lt_of_lt_of_le (val_lt (h.take n)) (Nat.pow_le_pow_right (by decide) ?_)
 rw [List.length_take]; omega
def hd (v n s : Nat) : Nat := v / (4294967296 ^ n * 2 ^ (32 - s))
theorem hd_eq {l : List Nat} {n s : Nat} (hl : l.length ≤ n + 3) (hs : Sm l) (h : s ≤ 31) :
  hd (val l) n s = (l.getD (n + 2) 0 * 4294967296 + l.getD (n + 1) 0) * 2 ^ s + l.getD n 0 / 2 ^ (32 - s) := by
 unfold hd
 rw [← Nat.div_div_eq_div_mul, val_top3p hl, Nat.add_mul_div_left _ _ (Nat.pow_pos (by decide)), Nat.div_eq_of_lt (val_take_lt' hs n), Nat.zero_add]
 have hp := pow32 (show s ≤ 32 by omega)
 have hq := two_pos (32 - s)
 generalize 2 ^ (32 - s) = q at *
 generalize 2 ^ s = p at *
 rw [show l.getD n 0 + 4294967296 * (l.getD (n + 1) 0 + 4294967296 * l.getD (n + 2) 0) = l.getD n 0 + q * ((l.getD (n + 2) 0 * 4294967296 + l.getD (n + 1) 0) * p) by rw [← hp]; grind, Nat.add_mul_div_left _ _ hq, Nat.add_comm]
theorem hd_low {s x : Nat} (h : s ≤ 31) (hx : x < 4294967296) : x / 2 ^ (32 - s) < 2 ^ s := by
 refine Nat.div_lt_of_lt_mul ?_
 rw [Nat.mul_comm, pow32 (by omega)]; exact hx
theorem hd_mono {a b n s : Nat} (h : b ≤ a) : hd b n s ≤ hd a n s := Nat.div_le_div_right h
theorem hd_lt {l : List Nat} {n s : Nat} (hl : l.length ≤ n + 3) (hs : Sm l) (h : s ≤ 31) (ht : l.getD (n + 2) 0 * 2 ^ s < 4294967296) : hd (val l) n s < 18446744073709551616 := by
 rw [hd_eq hl hs h]
 have h1 := hs.getD (n + 1)
 have h2 := hd_low h (hs.getD n)
 have h3 := Nat.mul_le_mul_right (2 ^ s) (show l.getD (n + 1) 0 + 1 ≤ 4294967296 by omega)
 rw [Nat.add_mul, Nat.one_mul] at h3
 rw [Nat.add_mul, Nat.mul_right_comm]
 have h4 := Nat.mul_le_mul_right 4294967296 (show l.getD (n + 2) 0 * 2 ^ s + 2 ^ s ≤ 4294967296 by
  have hp := pow32 (show s ≤ 32 by omega)
  generalize 2 ^ (32 - s) = q at *
  generalize 2 ^ s = p at *
  have h5 : l.getD (n + 2) 0 < q := by
   rw [← hp, Nat.mul_comm p q] at ht
   exact Nat.lt_of_mul_lt_mul_right ht
  have h6 := Nat.mul_le_mul_right p (show l.getD (n + 2) 0 + 1 ≤ q by omega)
  rw [Nat.add_mul, Nat.one_mul, Nat.mul_comm q p, hp] at h6
  exact h6)
 rw [Nat.add_mul] at h4
 omega
theorem hd_heads (v n s : Nat) : hd v n s * (4294967296 ^ n * 2 ^ (32 - s)) ≤ v ∧ v < (hd v n s + 1) * (4294967296 ^ n * 2 ^ (32 - s)) := by
 have hp : 0 < 4294967296 ^ n * 2 ^ (32 - s) := Nat.mul_pos (Nat.pow_pos (by decide)) (two_pos _)
 unfold hd
 generalize 4294967296 ^ n * 2 ^ (32 - s) = K at *
 refine ⟨Nat.div_mul_le_self v K, ?_⟩
 have := Nat.lt_div_mul_add (a := v) hp
 rw [Nat.add_mul, Nat.one_mul]
 exact this
/-! division, part by part -/
def Dv (V D i : Nat) (q : List Nat) (r : Nat) : Prop := V = D * (4294967296 ^ i * val (q.drop i)) + r ∧ r < 4294967296 ^ i * D
theorem Dv.step {V D i m : Nat} {q cur row' : List Nat} (hm : D < 4294967296 ^ m) (h : Dv V D (i + 1) q (val cur)) (hs : Sm cur) (hi : i < q.length) (hl : i + m < cur.length) (hr : row'.length = m + 1)
   (hv : val row' = val ((cur.drop i).take (m + 1)) % D) :
   val ((cur.drop i).take (m + 1)) < 4294967296 * D ∧
     Dv V D i (q.set i (val ((cur.drop i).take (m + 1)) / D)) (val (cur.take i ++ row' ++ cur.drop (i + m + 1))) := by
 obtain ⟨h1, h2⟩ := h
 have e1 := val_split cur i (by omega)
 have e2 := val_split (cur.drop i) (m + 1) (by simp; omega)
 have e3 : (cur.drop i).drop (m + 1) = cur.drop (i + m + 1) := by rw [List.drop_drop]; rfl
 rw [e3] at e2
 have lt1 := val_take_lt' hs i
 have hP : 0 < 4294967296 ^ i := Nat.pow_pos (by decide)
 -- nothing stands above the row
 have hz : val (cur.drop (i + m + 1)) = 0 := by
   rcases Nat.eq_zero_or_pos (val (cur.drop (i + m + 1))) with h | h
   · exact h
   · exfalso
     have a1 : 4294967296 ^ i * (4294967296 ^ (m + 1) * 1) ≤ 4294967296 ^ i * (4294967296 ^ (m + 1) * val (cur.drop (i + m + 1))) := Nat.mul_le_mul_left _ (Nat.mul_le_mul_left _ h)
     have a2 : 4294967296 ^ (i + 1) * D < 4294967296 ^ (i + 1) * 4294967296 ^ m := Nat.mul_lt_mul_of_pos_left hm (Nat.pow_pos (by decide))
     have a3 : 4294967296 ^ (i + 1) * 4294967296 ^ m = 4294967296 ^ i * (4294967296 ^ (m + 1) * 1) := by
      rw [Nat.mul_one, ← Nat.pow_add, ← Nat.pow_add]; congr 1; omega
     rw [e2, Nat.mul_add] at e1
     omega
 rw [hz, Nat.mul_zero, Nat.add_zero] at e2
 have hD0 : 0 < D := by
   rcases Nat.eq_zero_or_pos D with h | h
   · rw [h, Nat.mul_zero] at h2; omega
   · exact h
 have hlen : (cur.take i).length = i := by rw [List.length_take]; omega
 have e4 : val (cur.take i ++ row' ++ cur.drop (i + m + 1)) = val (cur.take i) + 4294967296 ^ i * val row' := by
   rw [List.append_assoc, val_append, val_append, hz, Nat.mul_zero, Nat.add_zero, hlen]
 have e5 : (q.set i (val ((cur.drop i).take (m + 1)) / D)).drop i = (val ((cur.drop i).take (m + 1)) / D) :: q.drop (i + 1) := by
   rw [List.drop_eq_getElem_cons (by simpa using hi), set_drop]
   simp
 rw [e2] at e1
 unfold Dv
 rw [e4, e5, val, hv]
 rw [Nat.pow_succ] at h1 h2
 generalize val ((cur.drop i).take (m + 1)) = R at *
 have hdm := (Nat.div_add_mod R D).symm
 have hml := Nat.mod_lt R hD0
 generalize R / D = Q at *
 generalize R % D = r at *
 generalize 4294967296 ^ i = P at *
 generalize val (q.drop (i + 1)) = Z at *
 generalize val (cur.take i) = Y at *
 refine ⟨?_, ?_, ?_⟩
 · have : P * R < P * (4294967296 * D) := by rw [← Nat.mul_assoc]; omega
   exact Nat.lt_of_mul_lt_mul_left this
 · rw [h1, e1, hdm]; grind
 · have := Nat.mul_le_mul_left P (show r + 1 ≤ D by omega)
   rw [Nat.mul_add, Nat.mul_one] at this
   omega
theorem Dv.start {V D n : Nat} (h : V < 4294967296 ^ n * D) : Dv V D n (List.replicate n 0) V := by
 refine ⟨?_, h⟩
 rw [List.drop_of_length_le (by simp), val, Nat.mul_zero, Nat.mul_zero, Nat.zero_add]
theorem Dv.done {V D r : Nat} {q : List Nat} (h : Dv V D 0 q r) : val q = V / D ∧ r = V % D := by
 obtain ⟨h1, h2⟩ := h
 rw [Nat.pow_zero, Nat.one_mul] at h1 h2
 rw [List.drop_zero] at h1
 have hD : 0 < D := by omega
 rw [h1, Nat.add_comm, Nat.add_mul_div_left _ _ hD, Nat.add_mul_mod_self_left, Nat.div_eq_of_lt h2, Nat.mod_eq_of_lt h2, Nat.zero_add]
 exact ⟨rfl, rfl⟩
theorem dv_room {a b m n S : Nat} (ha : a < 4294967296 ^ n) (hb : 2147483648 * 4294967296 ^ m ≤ b * S) (hS : S ≤ 2147483648) (hmn : m + 1 ≤ n) : a * S < 4294967296 ^ (n - (m + 1) + 1) * (b * S) := by
 have h1 : a * S < 4294967296 ^ n * S + 1 := by
  have := Nat.mul_le_mul_right S (Nat.le_of_lt ha)
  omega
 have hSp : 0 < S := by
  rcases Nat.eq_zero_or_pos S with h | h
  · subst h
    have := Nat.pow_pos (n := m) (show 0 < 4294967296 by decide)
    omega
  · exact h
 have h0 : a * S < 4294967296 ^ n * S := Nat.mul_lt_mul_of_pos_right ha hSp
 have h2 : 4294967296 ^ (n - (m + 1) + 1) * (2147483648 * 4294967296 ^ m) ≤ 4294967296 ^ (n - (m + 1) + 1) * (b * S) := Nat.mul_le_mul_left _ hb
 have h3 : 4294967296 ^ (n - (m + 1) + 1) * (2147483648 * 4294967296 ^ m) = 4294967296 ^ n * 2147483648 := by
  rw [Nat.mul_left_comm, ← Nat.pow_add, Nat.mul_comm, show n - (m + 1) + 1 + m = n by omega]
 have h4 : 4294967296 ^ n * S ≤ 4294967296 ^ n * 2147483648 := Nat.mul_le_mul_left _ hS
 omega
/-! a number moved up until its highest bit is set -/
theorem up_fits {l : List Nat} {p sh : Nat} (hl : l.length = p + 1) (hs : Sm l) (hsh : sh ≤ 31) (ht : l.getD p 0 * 2 ^ sh < 4294967296) : val l * 2 ^ sh < 4294967296 ^ (p + 1) := by
 have h1 := val_take_succ l p
 rw [List.take_of_length_le (by omega)] at h1
 have h2 := val_take_lt' hs p
 have hp := pow32 (show sh ≤ 32 by omega)
 have hq := two_pos sh
 generalize l.getD p 0 = T at *
 generalize val (l.take p) = Y at *
 rw [Nat.pow_succ]
 generalize 4294967296 ^ p = P at *
 generalize 2 ^ (32 - sh) = q at *
 generalize 2 ^ sh = S at *
 have h3 : T < q := by
  rw [← hp, Nat.mul_comm S q] at ht
  exact Nat.lt_of_mul_lt_mul_right ht
 have h4 : val l < P * (T + 1) := by rw [h1, Nat.mul_add, Nat.mul_one]; omega
 have h5 : P * (T + 1) ≤ P * q := Nat.mul_le_mul_left _ h3
 have h6 : val l * S < P * q * S := Nat.mul_lt_mul_of_pos_right (by omega) hq
 rwa [Nat.mul_assoc, Nat.mul_comm q S, hp] at h6
theorem up_low {l : List Nat} {p S : Nat} (hl : l.length = p + 1) (ht : 2147483648 ≤ l.getD p 0 * S) : 2147483648 * 4294967296 ^ p ≤ val l * S := by
 have h1 := val_take_succ l p
 rw [List.take_of_length_le (by omega)] at h1
 have h2 := Nat.mul_le_mul_right (4294967296 ^ p) ht
 rw [h1]
 generalize 4294967296 ^ p = P at *
 generalize l.getD p 0 = T at *
 generalize val (l.take p) = Y at *
 have h3 : (Y + P * T) * S = Y * S + T * S * P := by grind
 omega
theorem up_by {l : List Nat} {m V : Nat} (hl : l.length = m + 1) (hv : val l = V) (hV : V < 4294967296 ^ m) : val (l.take m) = V := by
 have h1 := val_take_succ l m
 rw [List.take_of_length_le (by omega), hv] at h1
 rcases Nat.eq_zero_or_pos (l.getD m 0) with h | h
 · rw [h, Nat.mul_zero] at h1; omega
 · have := Nat.mul_le_mul_left (4294967296 ^ m) h
   omega
theorem top_of {l : List Nat} {p V : Nat} (hl : l.length = p + 1) (hs : Sm l) (hv : val l = V) (h : 2147483648 * 4294967296 ^ p ≤ V) : 2147483648 ≤ l.getD p 0 := by
 have h1 := val_take_succ l p
 rw [List.take_of_length_le (by omega), hv] at h1
 have h2 := val_take_lt' hs p
 rcases Nat.lt_or_ge (l.getD p 0) 2147483648 with h3 | h3
 · have := Nat.mul_le_mul_left (4294967296 ^ p) (show l.getD p 0 + 1 ≤ 2147483648 by omega)
   rw [Nat.mul_add, Nat.mul_one, Nat.mul_comm _ 2147483648] at this
   omega
 · exact h3
end Go.Proofs.YtgmbaamfobhceaaGreat.Nu
namespace Go.Proofs.YtgmbaamfobhceaaGreat
open Go Go.Proofs Go.RowKit Go.Shelf Nu
theorem bitLenAux_none (f : Nat) : Lib.bitLenAux f 0 = 0 := by cases f <;> simp [Lib.bitLenAux]
theorem bitLenAux_spec : ∀ (f x : Nat), x < 2 ^ f → x < 2 ^ Lib.bitLenAux f x ∧ (x ≠ 0 → 1 ≤ Lib.bitLenAux f x ∧ 2 ^ (Lib.bitLenAux f x - 1) ≤ x)
 | 0, x, h => by
  obtain rfl : x = 0 := by simpa using h
  simp [Lib.bitLenAux]
 | f + 1, x, h => by
  rw [Lib.bitLenAux]
  split
  · rename_i h0; subst h0; simp
  · rename_i h0
    obtain ⟨h1, h2⟩ := bitLenAux_spec f (x / 2) (by rw [Nat.pow_succ] at h; omega)
    by_cases h3 : x / 2 = 0
    · rw [h3, bitLenAux_none]
      simp; omega
    · obtain ⟨h4, h5⟩ := h2 h3
      generalize Lib.bitLenAux f (x / 2) = k at *
      obtain ⟨j, rfl⟩ : ∃ j, k = j + 1 := ⟨k - 1, by omega⟩
      rw [Nat.add_sub_cancel] at h5
      rw [Nat.add_comm 1, Nat.add_sub_cancel]
      refine ⟨?_, fun _ => ⟨by omega, ?_⟩⟩
      · rw [Nat.pow_succ]; omega
      · rw [Nat.pow_succ]; omega
theorem lz_any (T : Nat) (h0 : 0 < T) (h1 : T < 4294967296) : ∃ sh : Nat, sh ≤ 31 ∧ 2147483648 ≤ T * 2 ^ sh ∧ T * 2 ^ sh < 4294967296 ∧
   ∀ W, Calls Tryz.prog 169 #[.int .u32 T] W fun e w' => e = .returned (.int .i64 sh) ∧ w' = W := by
 have hs := bitLenAux_spec 64 T (by omega)
 have hk := Any.bits_LeadingZeros32 YtgmbaamfobhceaaGreat.lzL (T : Int)
 have hle := Any.bitLen_le32 (T : Int) (by omega) (by omega)
 have e : Lib.bitLen ((T : Int)).toNat = Lib.bitLenAux 64 T := rfl
 rw [e] at hk hle
 obtain ⟨h2, h3⟩ := hs
 obtain ⟨h4, h5⟩ := h3 (by omega)
 generalize Lib.bitLenAux 64 T = k at *
 obtain ⟨j, rfl⟩ : ∃ j, k = j + 1 := ⟨k - 1, by omega⟩
 rw [Nat.add_sub_cancel] at h5
 refine ⟨31 - j, by omega, ?_, ?_, fun W => ?_⟩
 · have := Nat.mul_le_mul_right (2 ^ (31 - j)) h5
   rw [← Nat.pow_add, show j + (31 - j) = 31 by omega] at this
   exact this
 · have := Nat.mul_lt_mul_of_pos_right h2 (show 0 < 2 ^ (31 - j) from Nat.pow_pos (by decide))
   rw [← Nat.pow_add, show j + 1 + (31 - j) = 32 by omega] at this
   exact this
 · have := hk W (by omega) (by omega)
   rw [show (32 : Int) - ((j + 1 : Nat) : Int) = ((31 - j : Nat) : Int) by omega] at this
   exact this
end Go.Proofs.YtgmbaamfobhceaaGreat
namespace Go.Proofs.YtgmbaamfobhceaaGreat
open Go Go.Proofs Go.RowKit Go.Shelf Nu
attribute [local go_sem] Oper.semAt_some
theorem head_facts {p1 p2 p3 s R : Nat} (h1 : p1 < 4294967296) (h2 : p2 < 4294967296) (h3 : p3 < 4294967296) (hs : s ≤ 31) (hR : R = (p1 * 4294967296 + p2) * 2 ^ s + p3 / 2 ^ (32 - s)) (hb : R < 18446744073709551616) :
   ∃ H M P : Nat, bits BinOp.or IntKind.u64 ((p1 : Int) * 4294967296) (p2 : Int) = (H : Int) ∧ IntKind.u64.wrap ((H : Int) * 2 ^ s) = (M : Int) ∧ (p3 : Int) / 2 ^ (32 - s) = (P : Int) ∧ bits BinOp.or IntKind.u64 (M : Int) (P : Int) = (R : Int) ∧ H < 18446744073709551616 ∧ P < 4294967296 := by
 have hlo := hd_low hs h3
 have hle : (p1 * 4294967296 + p2) * 2 ^ s ≤ R := hR ▸ Nat.le_add_right _ _
 refine ⟨p1 * 4294967296 + p2, 2 ^ s * (p1 * 4294967296 + p2), p3 / 2 ^ (32 - s), or_shl p1 p2 h1 h2, ?_, ?_, ?_, by omega, Nat.lt_of_le_of_lt (Nat.div_le_self _ _) h3⟩
 · have e : ((p1 * 4294967296 + p2 : Nat) : Int) * 2 ^ s = ((2 ^ s * (p1 * 4294967296 + p2) : Nat) : Int) := by
    rw [Int.natCast_mul, Int.natCast_pow, Int.mul_comm]; rfl
   rw [e]
   exact w64_of _ (by rw [Nat.mul_comm (2 ^ s)]; omega)
 · rw [Int.natCast_ediv, Int.natCast_pow]; rfl
 · have := or_side (p1 * 4294967296 + p2) (p3 / 2 ^ (32 - s)) s hlo (by rw [Nat.mul_comm (2 ^ s), ← hR]; exact hb)
   rw [this, hR, Nat.mul_comm (2 ^ s)]
theorem head_any {w : World} {v : Value} {l : List Nat} {n s M : Nat} (h : Reads w v l) (hl : l.length ≤ n + 3) (hn : n ≤ 100000) (hs : Sm l) (hsh : s ≤ 31) (hM : M = n + 3) (hb : hd (val l) n s < 18446744073709551616) :
  Calls Tryz.prog 170 #[v, .int .i64 M, .int .u64 s] w fun e w' => e = .returned (.int .u64 (hd (val l) n s : Nat)) ∧ w' = w := by
 have e := hd_eq hl hs hsh
 have k1 := part_any h (by omega) hs (n + 2) (by omega)
 have k2 := part_any h (by omega) hs (n + 1) (by omega)
 have k3 := part_any h (by omega) hs n (by omega)
 have b1 := hs.getD (n + 2)
 have b2 := hs.getD (n + 1)
 have b3 := hs.getD n
 generalize l.getD (n + 2) 0 = p1 at *
 generalize l.getD (n + 1) 0 = p2 at *
 generalize l.getD n 0 = p3 at *
 obtain ⟨R, hR⟩ : ∃ R, R = hd (val l) n s := ⟨_, rfl⟩
 rw [← hR] at e hb ⊢
 obtain ⟨H, M1, P, f1, f2, f3, f4, f5, f6⟩ := head_facts b1 b2 b3 hsh e hb
 obtain ⟨t, ht⟩ : ∃ t, t = 32 - s := ⟨_, rfl⟩
 rw [← ht] at f3
 have e1 : (M : Int) - 1 = ((n + 2 : Nat) : Int) := by omega
 have e2 : (M : Int) - 2 = ((n + 1 : Nat) : Int) := by omega
 have e3 : (M : Int) - 3 = (n : Int) := by omega
 have e4 : (32 : Int) - (s : Int) = (t : Int) := by omega
 have u1 := w64_of t (by omega)
 have bt : t ≤ 32 := by omega
 generalize n + 2 = N2 at *
 generalize n + 1 = N1 at *
 have bM : M ≤ 100003 := by omega
 have bM2 : 3 ≤ M := by omega
 obtain ⟨a1, c1, rfl⟩ := h.form
 clear h hl hs hM ht hR e
 go_enter Tryz.func170, Tryz.ntmps170
 go_wp2_with (first
  | (go_at_call 193; with_reducible refine k1.mono ?_; clear k1; rintro e w' ⟨rfl, rfl⟩)
  | (go_at_call 193; with_reducible refine k2.mono ?_; clear k2; rintro e w' ⟨rfl, rfl⟩)
  | (go_at_call 193; with_reducible refine k3.mono ?_; clear k3; rintro e w' ⟨rfl, rfl⟩))
 go_ret
 exact ⟨rfl, rfl⟩
theorem heads_any {w : World} {va vb : Value} {la lb : List Nat} {n : Nat} (ha : Reads w va la) (hb : Reads w vb lb) (hla : la.length = n + 3) (hlb : lb.length ≤ n + 3) (hn : n ≤ 90000) (hsa : Sm la) (hsb : Sm lb) (hca : chk la = true) (hle : val lb ≤ val la) :
  Calls Tryz.prog 146 #[va, vb] w fun e w' => ∃ s x y : Nat, e = .returned (.tuple #[.int .u64 x, .int .u64 y]) ∧ x = hd (val la) n s ∧ y = hd (val lb) n s ∧ y ≤ x ∧ x < 18446744073709551616 ∧ w' = w := by
 have ha0 := ha
 obtain ⟨a1, c1, rfl⟩ := ha.form
 obtain ⟨b, o, hbo, hcell⟩ := ha0.addr
 have ht := hcell (n + 2) (by omega)
 obtain ⟨T, hT⟩ : ∃ T, T = la.getD (n + 2) 0 := ⟨_, rfl⟩
 have hT0 : 0 < T := by
  rcases (chk_iff la).1 hca with h | h
  · rw [h] at hla; simp at hla
  · rw [hla, show n + 3 - 1 = n + 2 from rfl, ← hT] at h; omega
 have hT1 : T < 4294967296 := hT ▸ hsa.getD (n + 2)
 rw [← hT] at ht
 obtain ⟨s, hs, hs1, hs2, klz⟩ := lz_any T hT0 hT1
 rw [hT] at hs2
 have hx := hd_lt (n := n) (s := s) (by omega) hsa hs hs2
 have hyx : hd (val lb) n s ≤ hd (val la) n s := hd_mono hle
 have k1 := head_any (s := s) (M := la.length) ha (by omega) (by omega) hsa hs hla hx
 have k2 := head_any (s := s) (M := la.length) hb hlb (by omega) hsb hs hla (by omega)
 obtain ⟨x, hxe⟩ : ∃ x, x = hd (val la) n s := ⟨_, rfl⟩
 obtain ⟨y, hye⟩ : ∃ y, y = hd (val lb) n s := ⟨_, rfl⟩
 rw [← hxe] at k1 hx hyx
 rw [← hye] at k2 hyx
 have HX := Lib.hid hxe
 have HY := Lib.hid hye
 obtain ⟨b1, d1, rfl⟩ := hb.form
 obtain ⟨rfl, hbw⟩ : a1 = some ⟨b, o, none⟩ ∧ b < w.heap.size := hbo (by omega)
 generalize la.length = M at *
 have e1 : (M : Int) - 1 = ((n + 2 : Nat) : Int) := by omega
 have bM : n + 2 < M := by omega
 have bM2 : M ≤ 90003 := by omega
 generalize n + 2 = N2 at *
 have ush : IntKind.u64.wrap (s : Int) = (s : Int) := w64_of s (by omega)
 clear ha ha0 hb hcell hbo hT hT0 hla hlb hxe hye hsa hsb hca hle hs1 hs2
 go_enter Tryz.func146, Tryz.ntmps146
 go_wp2_with (first
  | (go_at_call 169; refine (klz _).mono ?_; clear klz; rintro e w' ⟨rfl, rfl⟩)
  | (go_at_call 170; with_reducible refine k1.mono ?_; clear k1; rintro e w' ⟨rfl, rfl⟩)
  | (go_at_call 170; with_reducible refine k2.mono ?_; clear k2; rintro e w' ⟨rfl, rfl⟩))
 go_ret2
 exact ⟨s, x, y, rfl, HX.out, HY.out, hyx, hx, rfl⟩
def UpInv (w : World) (s : Nat) (A : List Nat) (sh : Nat) (va : Value) (k : Nat) (W : World) : Prop :=
 (∃ (v : Value) (c : Nat) (out : List Nat), Boxed W s 40 v ∧ Boxed W (s + 1) 130 (.int .u64 c) ∧ Fresh W (w.heap.size + 1) v out ∧ out.length = k ∧ Sm out ∧ c < 2 ^ sh ∧
  val out + 4294967296 ^ k * c = val (A.take k) * 2 ^ sh) ∧
 Boxed W w.heap.size 156 (.int .u64 sh) ∧ Boxed W (s + 1 + 1) 40 va ∧ Below w.heap.size w W ∧ w.heap.size + 1 ≤ W.heap.size
theorem up_or {x c sh : Nat} (hx : x < 4294967296) (hs : sh ≤ 31) (hc : c < 2 ^ sh) :
  ∃ M O : Nat, IntKind.u64.wrap ((x : Int) * 2 ^ sh) = (M : Int) ∧ bits BinOp.or IntKind.u64 (c : Int) (M : Int) = (O : Int) ∧ O = c + x * 2 ^ sh ∧ O < 9223372036854775808 ∧ O / 4294967296 < 2 ^ sh := by
 obtain ⟨h1, h2⟩ := up_bound hc hx (pow31 hs)
 have e := or_side' x c sh hc (by rw [Nat.mul_comm]; omega)
 refine ⟨2 ^ sh * x, 2 ^ sh * x + c, ?_, e, by rw [Nat.mul_comm]; omega, by rw [Nat.mul_comm]; omega, by rw [Nat.mul_comm, Nat.add_comm]; exact h2⟩
 have e2 : (x : Int) * 2 ^ sh = ((2 ^ sh * x : Nat) : Int) := by push_cast; rw [Int.mul_comm]
 rw [e2]
 exact w64_of _ (by rw [Nat.mul_comm]; omega)
theorem moveUp_any {w : World} {va : Value} {A : List Nat} {sh : Nat} (hA : Reads w va A) (hlA : A.length ≤ 100000) (hSA : Sm A) (hsh : sh ≤ 31) :
  Calls Tryz.prog 172 #[va, .int .u64 sh] w fun e w' => ∃ (v : Value) (l : List Nat), e = .returned v ∧ Fresh w' w.heap.size v l ∧ l.length = A.length + 1 ∧ Sm l ∧ val l = val A * 2 ^ sh ∧ Below w.heap.size w w' := by
 obtain ⟨i0, hi, hz0, hz1, hz2⟩ := info_parts info_u32
 obtain ⟨a1, c1, rfl⟩ := hA.form
 obtain ⟨bb, ob, hbb, hcb⟩ := hA.addr
 refine (callsIn_wide (n := 0)).1 ?_
 refine callsIn_of_wp_marks Tryz.func172 rfl trivial ?_ rfl
 simp only [Tryz.ntmps172, List.size_toArray, List.length_cons, List.length_nil, Nat.reduceAdd, Nat.reduceSub, Array.replicate_succ, Array.replicate_zero, List.push_toArray, List.append_toArray, List.nil_append, List.cons_append]
 refine wpIn_wide.2 ?_
 obtain ⟨N, hN⟩ : ∃ N, N = A.length := ⟨_, rfl⟩
 have HN := Lib.hid hN
 rw [← hN] at hA hbb hcb hlA ⊢
 clear hN
 obtain ⟨N1, hN1⟩ : ∃ N1, N1 = N + 1 := ⟨_, rfl⟩
 have HN1 := Lib.hid hN1
 have hN1l : N1 ≤ 100001 := by omega
 clear hN1
 go_wp2_with (first
  | (at_make; go_loud (refine wpList_make_own _ rfl _ _ 40 rfl (w.heap.size + 1) 127 i0 (.int .u32 0) 1 Tryz.underlying40 hi hz0 hz1 .i64 .i64 _ N1 rfl rfl (by have := HN1.out; omega) (by rw [hz2]; omega) (by unfold maxLen; omega) (by simp) ?_); intro w1 hown1 hgrow1)
  | (go_at_call 163; refine (all_any _ _ _ _).mono ?_; rintro e w' ⟨rfl, rfl⟩))
 have hs1 : w.heap.size + 1 ≤ w1.heap.size := by have := hgrow1.size; simp at this; omega
 refine (wpIn_wide (n := 0)).1 ?_
 refine wp_rangeAt (gf := 189) rfl (enters_of Tryz.func189 (by kernel_rfl) rfl)
  (all_iter N bb ob c1 (w1.heap.size + 1 + 1) a1 (fun j => A.getD j 0) (by omega) (fun h => (hbb (by have := HN.out; omega)).1)) (fun _ => rfl)
  (UpInv w w1.heap.size A sh (.slice a1 N c1)) (fun _ _ => False) ?own (fun _ _ _ _ h _ _ => h) ?reads ?start ?round ?done ?stop
 case own =>
  rintro k W W' row ⟨⟨v, c, out, h1, h2, h3, h4⟩, g1, g2, g5, g6⟩ hg hr
  exact ⟨⟨v, c, out, keepBox h1 hg hr, keepBox h2 hg hr, keepFresh h3 hg hr, h4⟩, keepBox g1 hg hr, keepBox g2 hg hr, keepBelow g5 (Nat.le_refl _) (by simp; omega) hg hr, Nat.le_trans g6 hg.size⟩
 case reads =>
  rintro k W ⟨_, g1, g2, g5, g6⟩
  refine ⟨g2.cell, fun hk => ?_⟩
  have hn := HN.out
  exact (g5.cell (p := ⟨bb, ob + k, none⟩) (hbb (by omega)).2).trans (hcb k (by omega))
 case start =>
  have hbel1 : Below (w.heap.size + 1) (w.alloc (.cells #[.int .u64 sh] 156)) w1 := (Below.refl _ _).grown hgrow1 (by simp) (fun _ e => by cases e)
  have hb0 : Below w.heap.size w (w.alloc (.cells #[.int .u64 sh] 156)) := (Below.refl _ w).alloc (Nat.le_refl _) _
  have hF0 : Fresh w1 (w.heap.size + 1) (.slice (some ⟨w.heap.size + 1, 0, none⟩) 0 N1) [] := by unfold Fresh; simpa using hown1
  have hT : Boxed w1 w.heap.size 156 (.int .u64 sh) := (hbel1.block _ (by omega)).trans (Boxed.new w _ _)
  refine ⟨⟨_, 0, [], ((Boxed.new w1 _ _).alloc _).alloc _, (boxed_new1 w1 _ _ _).alloc _, ((hF0.alloc _).alloc _).alloc _, rfl, Sm.nil, two_pos sh, by simp [val]⟩, ((hT.alloc _).alloc _).alloc _, boxed_new2 w1 _ _ _ _, ?_, by simp; omega⟩
  exact (((hb0.trans (hbel1.mono (by omega))).alloc (by omega) _).alloc (by simp; omega) _).alloc (by simp; omega) _
 case round =>
  intro l k W hk
  have hx := hSA.getD k
  obtain ⟨x, hxe⟩ : ∃ x, x = A.getD k 0 := ⟨_, rfl⟩
  dsimp only
  rw [← hxe]
  rw [← hxe] at hx
  have HX := Lib.hid hxe
  clear hxe hA hSA hbb hcb
  gi_wp2
  refine NextRound.mk ?_
  rintro W2 ⟨⟨v, c, out, hv, hcb, hrow, hlen, hsm, hc1, hval⟩, hbt, hba, hbel, hbS⟩
  obtain ⟨M, O, hM, hO, hOe, hO2, hO3⟩ := up_or hx hsh hc1
  have HVAL := Lib.hid hval
  have HLEN := Lib.hid hlen
  have HO := Lib.hid hOe
  have HO3 := Lib.hid hO3
  have hlen' : out.length ≤ 100000 := by omega
  have hc := hv.cell
  have hf := hv.frozen
  have hcc := hcb.cell
  have hcf := hcb.frozen
  have hbc := hbt.cell
  clear hval hlen hc1 hOe hO3
  gi_wp2_with (gi_at_builtin; refine wpListIn_append_own _ rfl _ _ 40 rfl (w.heap.size + 1) 127 i0 (.int .u32 0) 1 4 Tryz.underlying40 hi hz0 hz1 hz2 rfl (by decide) _ _ _ rfl ((hrow.box hcb (by decide) _).alloc _) ⟨W2.heap.size, 0, none⟩ 1 1 [_] rfl rfl (one_new _ _ _ _ (by simp)) (by simp [Value.oneCell']) (small_max (by omega)) (by omega) (by simp; omega) ?_; intro v' w3 hown' hgrow _; obtain ⟨g', cap', rfl⟩ := ownsRow_succ hown'; obtain ⟨hF, hKO, hBl, hBx, -⟩ := fresh_append (O % 4294967296) (hrow.box hcb (by decide) _) (by simp; omega) hown' hgrow (by omega); have hv3 := hBx _ _ _ (by decide) (hv.other (by omega) _); have hcb3 := hBx _ _ _ (by decide) (hcb.set _); have hbt3 := hBx _ _ _ (by decide) (hbt.other (by omega) _); have hba3 := hBx _ _ _ (by decide) (hba.other (by omega) _); have hc1' := hv3.cell; have hf1' := hv3.frozen; have hcc3 := hcb3.cell; have hcf3 := hcb3.frozen; clear hBx hown' hgrow)
  refine ⟨(((KeepsOthers.setCell W2 _ _).trans hKO).trans ((KeepsOthers.setCell w3 _ _).trans (KeepsOthers.setCell _ _ _))).from _,
    ⟨_, O / 4294967296, out ++ [O % 4294967296], (hv3.set _).other (by omega) _, ?_, (hF.box hv3 (by decide) _).box (hcb3.other (by omega) _) (by decide) _, by simp [HLEN.out], hsm.snoc (by omega), HO3.out, ?_⟩,
    (hbt3.other (by omega) _).other (by omega) _, (hba3.other (by omega) _).other (by omega) _, ?_, ?_⟩
  · rw [show ((O / 4294967296 : Nat) : Int) = (O : Int) / 4294967296 by omega]
    exact (hcb3.other (by omega) _).set _
  · rw [HO.out, HX.out]
    exact up_step HLEN.out HVAL.out
  · exact (((hbel.setCell (p := ⟨w1.heap.size + 1, 0, none⟩) (by simp; omega) _).trans (hBl.mono (by omega))).setCell (p := ⟨w1.heap.size, 0, none⟩) (by simp; omega) _).setCell (p := ⟨w1.heap.size + 1, 0, none⟩) (by simp; omega) _
  · have := hBl.size; simp at this ⊢; omega
 case done =>
  rintro D W hD ⟨⟨v, c, out, hv, hcb, hrow, hlen, hsm, hc1, hval⟩, hbt, hba, hbel, hbS⟩ hK
  have hn := HN.out
  have hlen' : out.length ≤ 100000 := by omega
  rw [List.take_of_length_le (by omega)] at hval
  have hcB : c < 4294967296 := Nat.lt_of_lt_of_le hc1 (Nat.le_trans (pow31 hsh) (by decide))
  have HVAL := Lib.hid hval
  have HLEN := Lib.hid hlen
  have hc := hv.cell
  have hf := hv.frozen
  have hcc := hcb.cell
  clear hval hlen hA hSA hba hbb hcb hc1 hn
  go_wp2_with (at_builtin; refine wpList_append_own _ rfl _ _ 40 rfl (w.heap.size + 1) 127 i0 (.int .u32 0) 1 4 Tryz.underlying40 hi hz0 hz1 hz2 rfl (by decide) _ _ _ rfl (World.ownsRow.alloc hrow _) ⟨W.heap.size, 0, none⟩ 1 1 [_] rfl rfl (one_new _ _ _ _ (by simp)) (by simp [Value.oneCell']) (small_max (by omega)) (by omega) (by simp; omega) ?_; intro v' w3 hown' hgrow _; obtain ⟨g', cap', rfl⟩ := ownsRow_succ hown'; obtain ⟨hF, hKO, hBl, hBx, hNo⟩ := fresh_append (c % 4294967296) hrow hbS hown' hgrow (by omega); have hK3 := hNo D _ hK rfl; clear hBx hown' hgrow hNo)
  refine ⟨by simp, .inl ⟨_, _, rfl, run_takeDeferred hK3, ?_⟩⟩
  refine ⟨_, results_tmp rfl _ _ _, _, out ++ [c % 4294967296], rfl, (hF.mono (by omega)).left _ hK3 rfl, by simp [HLEN.out], hsm.snoc (by omega), ?_, below_left _ (hbel.trans (hBl.mono (by omega))) (by simp at hD; omega) hK3 rfl⟩
  rw [val_snoc, HLEN.out, Nat.mod_eq_of_lt hcB]; exact HVAL.out
 case stop =>
  rintro D c W _ h _
  exact h.elim
def DownInv (w : World) (g : Nat) (post : List Value) (l : List Nat) (sh : Nat) (va : Value) (k : Nat) (W : World) : Prop :=
 (∃ (cur : List Nat) (a : Nat), Blk W g [] cur post ∧ cur.length = l.length ∧ Sm cur ∧ a = l.getD (l.length - k) 0 ∧ cur.take (l.length - k) = l.take (l.length - k) ∧ val (cur.drop (l.length - k)) = val (l.drop (l.length - k)) / 2 ^ sh ∧ Boxed W (w.heap.size + 1 + 1) 127 (.int .u32 a)) ∧
 Boxed W w.heap.size 40 va ∧ Boxed W (w.heap.size + 1) 156 (.int .u64 sh) ∧ Boxed W (w.heap.size + 1 + 1 + 1) 40 va ∧ w.grownBy W (some g)
theorem down_or {a x sh : Nat} (ha : a < 4294967296) (hx : x < 4294967296) :
  ∃ O P : Nat, bits BinOp.or IntKind.u64 ((a : Int) * 4294967296) (x : Int) = (O : Int) ∧ (O : Int) / 2 ^ sh = (P : Int) ∧ P = (a * 4294967296 + x) / 2 ^ sh ∧ O < 18446744073709551616 ∧ P < 18446744073709551616 := by
 refine ⟨a * 4294967296 + x, (a * 4294967296 + x) / 2 ^ sh, or_shl a x ha hx, ?_, rfl, by omega, Nat.lt_of_le_of_lt (Nat.div_le_self _ _) (by omega)⟩
 generalize a * 4294967296 + x = O
 rw [Int.natCast_ediv, Int.natCast_pow]; rfl
theorem moveDown_any {w : World} {g cap sh : Nat} {l : List Nat} {post : List Value} (hb : Blk w g [] l post) (hl : l.length ≤ 100001) (hs : Sm l) (hsh : sh ≤ 31) :
  Calls Tryz.prog 174 #[.slice (some ⟨g, 0, none⟩) l.length cap, .int .u64 sh] w fun e w' => ∃ (r : Value) (l' : List Nat), e = .returned r ∧ Blk w' g [] l' post ∧ l'.length = l.length ∧ Sm l' ∧ val l' = val l / 2 ^ sh ∧ w.grownBy w' (some g) := by
 have hgw := hb.lt
 obtain ⟨n, hn⟩ : ∃ n, n = l.length := ⟨_, rfl⟩
 have HN := Lib.hid hn
 rw [← hn] at hl ⊢
 clear hn
 refine (callsIn_wide (n := 0)).1 ?_
 refine callsIn_of_wp_marks Tryz.func174 rfl trivial ?_ rfl
 simp only [Tryz.ntmps174, List.size_toArray, List.length_cons, List.length_nil, Nat.reduceAdd, Nat.reduceSub, Array.replicate_succ, Array.replicate_zero, List.push_toArray, List.append_toArray, List.nil_append, List.cons_append]
 refine wpIn_wide.2 ?_
 go_wp2_with (go_at_call 143; refine (back_any _ _ _ _).mono ?_; rintro e w' ⟨rfl, rfl⟩)
 refine (wpIn_wide (n := 0)).1 ?_
 refine wp_rangeAt (gf := 167) rfl (enters_of Tryz.func167 (by kernel_rfl) rfl)
  (back_iter n g 0 cap (w.heap.size + 1 + 1 + 1) _ (fun j => l.getD j 0) (by omega) (fun _ => rfl)) (fun _ => rfl)
  (DownInv w g post l sh (.slice (some ⟨g, 0, none⟩) n cap)) (fun _ _ => False) ?own (fun _ _ _ _ h _ _ => h) ?reads ?start ?round ?done ?stop
 case own =>
  rintro k W W' r ⟨⟨cur, a, h1, h2, h3, h4, h5, h6, h7⟩, g1, g2, g3, g4⟩ hg hr
  exact ⟨⟨cur, a, h1.keep hg hr, h2, h3, h4, h5, h6, keepBox h7 hg hr⟩, keepBox g1 hg hr, keepBox g2 hg hr, keepBox g3 hg hr, grown_keep g4 (by simp; omega) hg hr⟩
 case reads =>
  rintro k W ⟨⟨cur, a, h1, h2, h3, h4, h5, h6, h7⟩, g1, g2, g3, g4⟩
  refine ⟨g3.cell, fun hk => ?_⟩
  have hn := HN.out
  have e := h1.cell (o := 0) rfl (n - 1 - k) (by omega)
  have e2 := congrArg (fun t => t.getD (n - 1 - k) 0) h5
  simp only [List.getD_eq_getElem?_getD, List.getElem?_take] at e2
  rw [if_pos (by omega), if_pos (by omega), ← List.getD_eq_getElem?_getD, ← List.getD_eq_getElem?_getD] at e2
  rw [e2] at e
  exact e
 case start =>
  have hn := HN.out
  refine ⟨⟨l, 0, (((hb.alloc _).alloc _).alloc _).alloc _, rfl, hs, ?_, by simp, by simp [val], (boxed_new2 w _ _ _ _).alloc _⟩, (((Boxed.new w _ _).alloc _).alloc _).alloc _, ((boxed_new1 w _ _ _).alloc _).alloc _, boxed_new3 w _ _ _ _ _, ?_⟩
  · rw [Nat.sub_zero, List.getD_eq_getElem?_getD, List.getElem?_eq_none (by omega)]; rfl
  · exact grown_alloc (grown_alloc (grown_alloc (grown_alloc (grown_refl w _) _) _) _) _
 case round =>
  intro lp k W hk
  obtain ⟨j, hj⟩ : ∃ j, j = n - 1 - k := ⟨_, rfl⟩
  have hx := hs.getD j
  obtain ⟨x, hxe⟩ : ∃ x, x = l.getD j 0 := ⟨_, rfl⟩
  dsimp only
  rw [← hj, ← hxe]
  rw [← hxe] at hx
  have HX := Lib.hid hxe
  have HJ := Lib.hid hj
  have hjn : j < n := by omega
  have HS := Lib.hid hs
  clear hxe hj hb hs
  gi_wp2
  refine NextRound.mk ?_
  rintro W2 ⟨⟨cur, a, h1, h2, h3, h4, h5, h6, h7⟩, g1, g2, g3, g4⟩
  have hjc : j < cur.length := by rw [h2, ← HN.out]; exact hjn
  have ha : a < 4294967296 := by rw [h4]; exact HS.out.getD _
  obtain ⟨O, P, hor, hsh2, hP, hO1, hP1⟩ := down_or (sh := sh) ha hx
  have r1 := h1.cell (o := 0) rfl j hjc
  have r2 := h1.frozen j
  rw [Nat.zero_add] at r1
  obtain ⟨y, hy⟩ : ∃ y, y = cur.getD j 0 := ⟨_, rfl⟩
  rw [← hy] at r1
  clear hy
  have HP := Lib.hid hP
  have H2 := Lib.hid h2
  have H4 := Lib.hid h4
  have H5 := Lib.hid h5
  have H6 := Lib.hid h6
  have q1 := h7.cell
  have q2 := h7.frozen
  have q3 := g1.cell
  have q4 := g2.cell
  clear hP h2 h4 h5 h6
  gi_wp2
  have hgS : g ≠ w.heap.size + 1 + 1 := by omega
  have hn := HN.out
  have hjj : l.length - (k + 1) = j := by have := HJ.out; omega
  have hjk : l.length - k = j + 1 := by have := HJ.out; omega
  have h5 := H5.out
  have h6 := H6.out
  rw [hjk] at h5 h6
  have e4 := H4.out
  rw [hjk] at e4
  refine ⟨((KeepsOthers.setCell W2 _ _).trans (KeepsOthers.setCell _ _ _)).from _,
    ⟨cur.set j (P % 4294967296), x, ?_, ?_, h3.set _ _ (by omega), ?_, ?_, ?_, ?_⟩, ?_, ?_, ?_, ?_⟩
  · have e := (h1.set (o := 0) rfl j (P % 4294967296) hjc).box hgS (.int .u32 (x : Int))
    rw [Nat.zero_add, show ((P % 4294967296 : Nat) : Int) = (P : Int) % 4294967296 by omega] at e
    exact e
  · rw [List.length_set]; exact H2.out
  · rw [hjj]; exact HX.out
  · rw [hjj, List.take_set, List.set_eq_of_length_le (by rw [List.length_take]; omega)]
    have := congrArg (List.take j) h5
    simpa [List.take_take] using this
  · rw [hjj, HP.out]
    exact down_step (T := 2 ^ (32 - sh)) (two_pos sh) (pow32 (by omega)) HS.out (by omega) hjc h6 a x e4 HX.out
  · exact (boxed_row h7 (by omega) _).set _
  · exact (boxed_row g1 (by omega) _).other (by omega) _
  · exact (boxed_row g2 (by omega) _).other (by omega) _
  · exact (boxed_row g3 (by omega) _).other (by omega) _
  · exact grown_box (grown_setCell g4 _ _) (by omega) _
 case done =>
  rintro D W hD ⟨⟨cur, a, h1, h2, h3, h4, h5, h6, h7⟩, g1, g2, g3, g4⟩ hK
  have hn := HN.out
  rw [← hn, Nat.sub_self, List.drop_zero, List.drop_zero] at h6
  have H6 := Lib.hid h6
  have H2 := Lib.hid h2
  clear h2 h4 h5 h6 hn hb hs
  go_wp2
  refine ⟨by simp, .inl ⟨_, _, rfl, run_takeDeferred hK, ?_⟩⟩
  exact ⟨_, results_none rfl _ _ _, _, cur, rfl, h1.left _ hK rfl, by rw [H2.out, HN.out], h3, H6.out, grown_left _ g4 (by simp at hD; omega) hK rfl⟩
 case stop =>
  rintro D c W _ h _
  exact h.elim
end Go.Proofs.YtgmbaamfobhceaaGreat
namespace Go.Proofs.YtgmbaamfobhceaaGreat.Nu
theorem val_top2 {l : List Nat} {n : Nat} (hn : l.length = n + 2) : val l = val (l.take n) + 4294967296 ^ n * (l.getD n 0 + 4294967296 * l.getD (n + 1) 0) := by
 have h1 := val_take_succ l (n + 1)
 have h2 := val_take_succ l n
 rw [List.take_of_length_le (by omega)] at h1
 rw [h1, h2, Nat.pow_succ, Nat.mul_add]
 rw [Nat.add_assoc, Nat.mul_assoc]
theorem val_top3 {l : List Nat} {n : Nat} (hn : l.length = n + 3) : val l = val (l.take n) + 4294967296 ^ n * (l.getD n 0 + 4294967296 * (l.getD (n + 1) 0 + 4294967296 * l.getD (n + 2) 0)) := by
 have h1 := val_take_succ l (n + 2)
 have h2 := val_take_succ l (n + 1)
 have h3 := val_take_succ l n
 rw [List.take_of_length_le (by omega)] at h1
 have e1 : 4294967296 ^ (n + 1) = 4294967296 * 4294967296 ^ n := by rw [Nat.pow_succ, Nat.mul_comm]
 have e2 : 4294967296 ^ (n + 2) = 4294967296 * (4294967296 * 4294967296 ^ n) := by rw [Nat.pow_succ, e1, Nat.mul_comm]
 rw [e1] at h2
 rw [e2] at h1
 rw [h1, show n + 2 = n + 1 + 1 from rfl, h2, h3]
 generalize 4294967296 ^ n = P
 generalize l.getD n 0 = x
 generalize l.getD (n + 1) 0 = y
 generalize l.getD (n + 1 + 1) 0 = z
 clear h1 h2 h3 e1 e2 hn
 grind
theorem val_take_lt {l : List Nat} (h : Sm l) {n : Nat} (hn : n ≤ l.length) : val (l.take n) < 4294967296 ^ n := by
 have := val_lt (h.take n)
 rwa [List.length_take, Nat.min_eq_left hn] at this
section
variable {R D X r0 d0 v1 v2 rn rm rk T left : Nat}
theorem guess_start (hR : R = r0 + X * (rk + 4294967296 * (rm + 4294967296 * rn))) (hr : r0 < X) (hD : D = d0 + X * (v2 + 4294967296 * v1)) (hk : rk < 4294967296) (hv : 0 < v1) :
  R < ((rm + 4294967296 * rn) / v1 + 1) * D := by
 generalize hq : (rm + 4294967296 * rn) / v1 = q
 have h1 : rm + 4294967296 * rn + 1 ≤ (q + 1) * v1 := by
  have := Nat.div_add_mod (rm + 4294967296 * rn) v1
  have := Nat.mod_lt (rm + 4294967296 * rn) hv
  rw [hq] at *
  rw [Nat.add_mul, Nat.mul_comm q, Nat.one_mul]
  omega
 have h2 : R < X * (4294967296 * (rm + 4294967296 * rn + 1)) := by
  have : X * (rk + 4294967296 * (rm + 4294967296 * rn)) + X ≤ X * (4294967296 * (rm + 4294967296 * rn + 1)) := by
   rw [← Nat.mul_succ]; exact Nat.mul_le_mul_left _ (by omega)
  omega
 have h3 : X * (4294967296 * (rm + 4294967296 * rn + 1)) ≤ X * (4294967296 * ((q + 1) * v1)) := Nat.mul_le_mul_left _ (Nat.mul_le_mul_left _ h1)
 have h4 : X * (4294967296 * ((q + 1) * v1)) ≤ (q + 1) * D := by
  rw [hD]
  have : X * (4294967296 * ((q + 1) * v1)) = (q + 1) * (X * (4294967296 * v1)) := by
   rw [Nat.mul_left_comm 4294967296, Nat.mul_left_comm X]
  rw [this]
  refine Nat.mul_le_mul_left _ ?_
  rw [Nat.mul_add]; omega
 omega
theorem guess_down (hR : R = r0 + X * (rk + 4294967296 * (rm + 4294967296 * rn))) (hr : r0 < X) (hD : D = d0 + X * (v2 + 4294967296 * v1)) (hh : rm + 4294967296 * rn = T * v1 + left)
  (hc : left * 4294967296 + rk < T * v2) : R < T * D := by
 have h1 : rk + 4294967296 * (rm + 4294967296 * rn) + 1 ≤ T * (v2 + 4294967296 * v1) := by
  rw [hh, Nat.mul_add T, Nat.mul_left_comm T, Nat.mul_add 4294967296]; omega
 have h2 : X * (rk + 4294967296 * (rm + 4294967296 * rn)) + X ≤ X * (T * (v2 + 4294967296 * v1)) := by
  rw [← Nat.mul_succ]; exact Nat.mul_le_mul_left _ h1
 have h3 : X * (T * (v2 + 4294967296 * v1)) ≤ T * D := by
  rw [hD, Nat.mul_add T (d0), Nat.mul_left_comm T X]; omega
 omega
theorem guess_down_top (h : R < 4294967296 * D) (hT : 4294967295 < T) : R < T * D :=
 Nat.lt_of_lt_of_le h (Nat.mul_le_mul_right _ (by omega))
theorem guess_end (hR : R = r0 + X * (rk + 4294967296 * (rm + 4294967296 * rn))) (hD : D = d0 + X * (v2 + 4294967296 * v1)) (hd : d0 < X) (hv : 2147483648 ≤ v1) (hT : T ≤ 4294967295)
   (hc : T * v2 + 4294967296 * (T * v1) ≤ rk + 4294967296 * (rm + 4294967296 * rn)) : (T - 1) * D ≤ R := by
 rcases Nat.eq_zero_or_pos T with rfl | hp
 · simp
 · obtain ⟨t, rfl⟩ : ∃ t, T = t + 1 := ⟨T - 1, by omega⟩
   rw [Nat.add_sub_cancel]
   have h1 : t * (v2 + 4294967296 * v1 + 1) ≤ rk + 4294967296 * (rm + 4294967296 * rn) := by
    have e1 : (t + 1) * v2 = t * v2 + v2 := by rw [Nat.add_mul, Nat.one_mul]
    have e2 : (t + 1) * v1 = t * v1 + v1 := by rw [Nat.add_mul, Nat.one_mul]
    rw [e1, e2] at hc
    rw [Nat.mul_add, Nat.mul_add, Nat.mul_left_comm t, Nat.mul_one]
    omega
   have h2 : t * D ≤ t * (X * (v2 + 4294967296 * v1 + 1)) := Nat.mul_le_mul_left _ (by rw [hD, Nat.mul_succ]; omega)
   have h3 : t * (X * (v2 + 4294967296 * v1 + 1)) = X * (t * (v2 + 4294967296 * v1 + 1)) := Nat.mul_left_comm ..
   have h4 := Nat.mul_le_mul_left X h1
   omega
theorem guess_end1 (hh : rm + 4294967296 * rn = T * v1 + left) (hc : T * v2 ≤ left * 4294967296 + rk) : T * v2 + 4294967296 * (T * v1) ≤ rk + 4294967296 * (rm + 4294967296 * rn) := by
 rw [hh, Nat.mul_add]; omega
theorem guess_end2 (hh : rm + 4294967296 * rn = T * v1 + left) (hl : 4294967295 < left) (hT : T ≤ 4294967295) (hv : v2 < 4294967296) : T * v2 + 4294967296 * (T * v1) ≤ rk + 4294967296 * (rm + 4294967296 * rn) := by
 have : T * v2 ≤ 4294967295 * 4294967295 := Nat.mul_le_mul hT (by omega)
 rw [hh, Nat.mul_add]; omega
theorem guess_part (hR : R = r0 + X * (rk + 4294967296 * (rm + 4294967296 * rn))) (hD : D = d0 + X * (v2 + 4294967296 * v1)) (hd : d0 < X) (hv : v2 < 4294967296) (h : R < 4294967296 * D)
  (hh : rm + 4294967296 * rn = T * v1 + left) (hl : 4294967295 < left) : T ≤ 4294967295 := by
 have h1 : X * (4294967296 * (rm + 4294967296 * rn)) ≤ R := by rw [hR, Nat.mul_add X]; omega
 have h2 : D < X * (4294967296 * (v1 + 1)) := by
  have : X * (v2 + 4294967296 * v1) + X ≤ X * (4294967296 * (v1 + 1)) := by rw [← Nat.mul_succ]; exact Nat.mul_le_mul_left _ (by omega)
  omega
 have h3 : X * (4294967296 * (rm + 4294967296 * rn)) < X * (4294967296 * (4294967296 * (v1 + 1))) := by
  have : X * (4294967296 * (4294967296 * (v1 + 1))) = 4294967296 * (X * (4294967296 * (v1 + 1))) := Nat.mul_left_comm ..
  omega
 have h4 := Nat.lt_of_mul_lt_mul_left h3
 have h5 : T * v1 < 4294967296 * v1 := by omega
 have := Nat.lt_of_mul_lt_mul_right h5
 omega
end
theorem take_out {R D T : Nat} (h1 : (T - 1) * D ≤ R) (h2 : R < (T + 1) * D) : (T * D ≤ R ∧ R / D = T ∧ R - T * D = R % D) ∨ (R < T * D ∧ R / D = T - 1 ∧ R + D - T * D = R % D ∧ 0 < T) := by
 have hD : 0 < D := by
   rcases Nat.eq_zero_or_pos D with h | h
   · subst h; simp at h2
   · exact h
 rcases Nat.lt_or_ge R (T * D) with h | h
 · have hT : 0 < T := by
     rcases Nat.eq_zero_or_pos T with h0 | h0
     · subst h0; simp at h
     · exact h0
   obtain ⟨t, rfl⟩ : ∃ t, T = t + 1 := ⟨T - 1, by omega⟩
   rw [Nat.add_sub_cancel] at h1 ⊢
   have e : (t + 1) * D = t * D + D := by rw [Nat.add_mul, Nat.one_mul]
   have hq : R / D = t := by
     rw [Nat.div_eq_iff hD]
     constructor <;> omega
   refine .inr ⟨h, hq, ?_, hT⟩
   have := Nat.div_add_mod R D
   rw [hq, Nat.mul_comm] at this
   omega
 · have e : (T + 1) * D = T * D + D := by rw [Nat.add_mul, Nat.one_mul]
   have hq : R / D = T := by
     rw [Nat.div_eq_iff hD]
     constructor <;> omega
   refine .inl ⟨h, hq, ?_⟩
   have := Nat.div_add_mod R D
   rw [hq, Nat.mul_comm] at this
   omega
end Go.Proofs.YtgmbaamfobhceaaGreat.Nu
namespace Go.Proofs.YtgmbaamfobhceaaGreat
open Go Go.Proofs Go.RowKit Go.Shelf Nu
attribute [local go_sem] Oper.semAt_some
theorem head_or (a b : Nat) (ha : a < 4294967296) (hb : b < 4294967296) : ∃ H : Nat, bits BinOp.or IntKind.u64 ((a : Int) * 4294967296) (b : Int) = (H : Int) ∧ H = b + 4294967296 * a ∧ H < 18446744073709551616 :=
 ⟨a * 4294967296 + b, or_shl a b ha hb, by omega, by omega⟩
theorem guess_next {H T v1 l R D : Nat} (h : H = T * v1 + l) (hd : R < T * D) (hT : 0 < T) : H = (T - 1) * v1 + (l + v1) ∧ R < (T - 1 + 1) * D := by
 obtain ⟨t, rfl⟩ : ∃ t, T = t + 1 := ⟨T - 1, by omega⟩
 rw [Nat.add_sub_cancel]
 refine ⟨?_, hd⟩
 rw [h, Nat.add_mul, Nat.one_mul]
 omega
theorem drew3 (w : World) (a b c : Nat) : ∃ m, ((w.drewN a).drewN b).drewN c = w.drewN m := ⟨_, (congrArg (fun x => x.drewN c) (World.drewN_drewN ..)).trans (World.drewN_drewN ..)⟩
theorem or_shl' (l k : Nat) (hl : l < 4294967296) (hk : k < 4294967296) : ∃ O : Nat, bits BinOp.or IntKind.u64 ((l : Int) * 4294967296) (k : Int) = (O : Int) ∧ O = l * 4294967296 + k := ⟨_, or_shl l k hl hk, rfl⟩
theorem guess_any {w : World} {br bb or_ ob cr cb n : Nat} {lr lb : List Nat} (hcr : ∀ j, j < n + 3 → w.cell? ⟨br, or_ + j, none⟩ = some (.int .u32 (lr.getD j 0 : Nat))) (hcb : ∀ j, j < n + 2 → w.cell? ⟨bb, ob + j, none⟩ = some (.int .u32 (lb.getD j 0 : Nat)))
  (hr : lr.length = n + 3) (hb : lb.length = n + 2) (hn : n ≤ 100000) (hsr : Sm lr) (hsb : Sm lb) (hv : 2147483648 ≤ lb.getD (n + 1) 0) (h : val lr < 4294967296 * val lb) :
  Calls Tryz.prog 195 #[.slice (some ⟨br, or_, none⟩) (n + 3 : Nat) cr, .slice (some ⟨bb, ob, none⟩) (n + 2 : Nat) cb] w fun e w' => ∃ T : Nat, e = .returned (.int .u32 T) ∧ T < 4294967296 ∧ (T - 1) * val lb ≤ val lr ∧ val lr < (T + 1) * val lb ∧ ∃ m, w' = w.drewN m := by
 have eR := val_top3 hr
 have eD := val_top2 hb
 have lR := val_take_lt hsr (n := n) (by omega)
 have lD := val_take_lt hsb (n := n) (by omega)
 have c1 := hcb (n + 1) (by omega)
 have c2 := hcb n (by omega)
 have c3 := hcr (n + 2) (by omega)
 have c4 := hcr (n + 1) (by omega)
 have c5 := hcr n (by omega)
 have b1 := hsb.getD (n + 1)
 have b2 := hsb.getD n
 have b3 := hsr.getD (n + 2)
 have b4 := hsr.getD (n + 1)
 have b5 := hsr.getD n
 obtain ⟨v1, hv1⟩ : ∃ x, x = lb.getD (n + 1) 0 := ⟨_, rfl⟩
 obtain ⟨v2, hv2⟩ : ∃ x, x = lb.getD n 0 := ⟨_, rfl⟩
 obtain ⟨rn, hrn⟩ : ∃ x, x = lr.getD (n + 2) 0 := ⟨_, rfl⟩
 obtain ⟨rm, hrm⟩ : ∃ x, x = lr.getD (n + 1) 0 := ⟨_, rfl⟩
 obtain ⟨rk, hrk⟩ : ∃ x, x = lr.getD n 0 := ⟨_, rfl⟩
 obtain ⟨R, hR⟩ : ∃ x, x = val lr := ⟨_, rfl⟩
 obtain ⟨D, hD⟩ : ∃ x, x = val lb := ⟨_, rfl⟩
 obtain ⟨X, hX⟩ : ∃ x, x = 4294967296 ^ n := ⟨_, rfl⟩
 obtain ⟨r0, hr0⟩ : ∃ x, x = val (lr.take n) := ⟨_, rfl⟩
 obtain ⟨d0, hd0⟩ : ∃ x, x = val (lb.take n) := ⟨_, rfl⟩
 rw [← hR, ← hX, ← hr0, ← hrn, ← hrm, ← hrk] at eR
 rw [← hD, ← hX, ← hd0, ← hv1, ← hv2] at eD
 rw [← hX, ← hr0] at lR
 rw [← hX, ← hd0] at lD
 rw [← hv1] at c1 b1 hv
 rw [← hv2] at c2 b2
 rw [← hrn] at c3 b3
 rw [← hrm] at c4 b4
 rw [← hrk] at c5 b5
 rw [← hR, ← hD] at h ⊢
 clear hv1 hv2 hrn hrm hrk hR hD hX hr0 hd0 hr hb hsr hsb hcr hcb
 obtain ⟨H, hH1, hH2, hH3⟩ := head_or rn rm b3 b4
 have g0 := guess_start eR lR eD b5 (show 0 < v1 by omega)
 rw [← hH2] at g0
 have gd := @guess_down R D X r0 d0 v1 v2 rn rm rk
 have gt := @guess_down_top R D
 have ge := @guess_end R D X r0 d0 v1 v2 rn rm rk
 have ge1 := @guess_end1 v1 v2 rn rm rk
 have ge2 := @guess_end2 v1 v2 rn rm rk
 have gp := @guess_part R D X r0 d0 v1 v2 rn rm rk
 have HE : Hid ((∀ T left, H = T * v1 + left → left * 4294967296 + rk < T * v2 → R < T * D) ∧ (∀ T, 4294967295 < T → R < T * D) ∧ (∀ T left, H = T * v1 + left → T ≤ 4294967295 → (4294967295 < left ∨ T * v2 ≤ left * 4294967296 + rk) → (T - 1) * D ≤ R) ∧ (∀ T left, H = T * v1 + left → 4294967295 < left → T ≤ 4294967295)) := Lib.hid
  ⟨fun T left e hc => gd eR lR eD (hH2 ▸ e) hc, fun T hT => gt h hT, fun T left e hT hc => ge eR eD lD hv hT (hc.elim (fun hl => ge2 (hH2 ▸ e) hl hT b2) (fun hc => ge1 (hH2 ▸ e) hc)), fun T left e hl => gp eR eD lD b2 h (hH2 ▸ e) hl⟩
 clear gd gt ge ge1 ge2 gp eR eD lR lD h hH2
 obtain ⟨q, hq⟩ : ∃ q, q = H / v1 := ⟨_, rfl⟩
 obtain ⟨l0, hl0⟩ : ∃ l, l = H % v1 := ⟨_, rfl⟩
 have hq1 : H = q * v1 + l0 := by rw [hq, hl0, Nat.mul_comm]; exact (Nat.div_add_mod H v1).symm
 have hq2 : q < 8589934592 := by
  rw [hq]; exact Nat.lt_of_le_of_lt (Nat.div_le_div_left hv (by decide)) (by omega)
 have hl2 : l0 < 4294967296 := by rw [hl0]; exact Nat.lt_trans (Nat.mod_lt _ (by omega)) b1
 rw [← hq] at g0
 have e1 : (H : Int) / (v1 : Int) = (q : Int) := by rw [hq]; push_cast; rfl
 have e2 : (H : Int) % (v1 : Int) = (l0 : Int) := by rw [hl0]; push_cast; rfl
 have G0 := Lib.hid g0
 have HQ := Lib.hid hq1
 clear hq hl0 hq1 g0
 have i1 : ((n + 2 : Nat) : Int) - 1 = ((n + 1 : Nat) : Int) := by omega
 have i2 : ((n + 2 : Nat) : Int) - 2 = (n : Int) := by omega
 obtain ⟨N, hN⟩ : ∃ N, N = n + 2 := ⟨_, rfl⟩
 obtain ⟨M, hM⟩ : ∃ M, M = n + 1 := ⟨_, rfl⟩
 obtain ⟨K, hK⟩ : ∃ K, K = n + 3 := ⟨_, rfl⟩
 rw [← hN] at i1 i2 c3 ⊢
 rw [← hM] at i1 c1 c4
 rw [← hK]
 have l1 : N < K := by omega
 have l2 : M < N := by omega
 have l3 : n < M := by omega
 have l4 : N ≤ 100002 := by omega
 have u1 := w64_of q (by omega)
 have u2 := w64_of l0 (by omega)
 have u0 : ¬ (v1 : Int) = 0 := by omega
 clear hN hM hK hv
 go_enter Tryz.func195, Tryz.ntmps195
 go_wp2
 go_quiet (fail)
 go_wp2
 go_quiet (fail)
 go_wp2
 go_quiet (fail)
 go_wp2
 go_loopw [9, 10] (fun x y wr => ∃ T l m : Nat, T < 8589934592 ∧ l < 8589934592 ∧ x = .int .u64 T ∧ y = .int .u64 l ∧ Hid (H = T * v1 + l ∧ R < (T + 1) * D) ∧ wr = w.drewN m) (fun x _ _ => (intOf x).toNat)
 case atStart =>
  obtain ⟨m, hm⟩ := drew3 w _ _ _
  exact ⟨q, l0, m, hq2, by omega, by first | rfl | rw [e1], by first | rfl | rw [e2], Lib.hid ⟨HQ.out, G0.out⟩, hm⟩
 case round =>
  obtain ⟨T, l, m, hT, hl, rfl, rfl, HI, rfl⟩ := hrel
  clear e1 e2 u1 u2 c1 c2 c3 c4 hH1 HQ G0 hq2 hl2 i1
  by_cases hl1 : 4294967295 < l
  · have hT1 := HE.out.2.2.2 T l HI.out.1 hl1
    have hfin := Lib.hid (HE.out.2.2.1 T l HI.out.1 hT1 (.inl hl1))
    have hi1 : ¬ (l : Int) ≤ 4294967295 := by omega
    have u3 := w32_of T (by omega)
    go_wp2
    go_ret
    exact ⟨T, rfl, by omega, hfin.out, HI.out.2, m, rfl⟩
  · have hi1 : (l : Int) ≤ 4294967295 := by omega
    by_cases hT1 : 4294967295 < T
    · have hd := Lib.hid (HE.out.2.1 T hT1)
      have hTp : 0 < T := by omega
      have hi2 : (4294967295 : Int) < (T : Int) := by omega
      go_wp2
      exact ⟨⟨T - 1, l + v1, m, by omega, by omega, by congr 1; omega, by congr 1, Lib.hid (guess_next HI.out.1 hd.out hTp), rfl⟩, by simp [intOf]; omega⟩
    · obtain ⟨P, hP, HP, hPb⟩ := mul_bound (x := T) (t := v2) (by omega) b2
      obtain ⟨O, hO, HO⟩ := or_shl' l rk (by omega) b5
      have hi2 : ¬ (4294967295 : Int) < (T : Int) := by omega
      by_cases hc : O < P
      · have hd := Lib.hid (HE.out.1 T l HI.out.1 (by rw [← HP, ← HO]; exact hc))
        have hi4 : (O : Int) < (P : Int) := by omega
        have hTp : 0 < T := by
         rcases Nat.eq_zero_or_pos T with h | h
         · rw [h, Nat.zero_mul] at HP; omega
         · exact h
        have HP' := Lib.hid HP
        have HO' := Lib.hid HO
        clear HP HO
        go_wp2
        exact ⟨⟨T - 1, l + v1, m, by omega, by omega, by congr 1; omega, by congr 1, Lib.hid (guess_next HI.out.1 hd.out hTp), rfl⟩, by simp [intOf]; omega⟩
      · have hfin := Lib.hid (HE.out.2.2.1 T l HI.out.1 (by omega) (.inr (by rw [← HP, ← HO]; omega)))
        have hi4 : ¬ (O : Int) < (P : Int) := by omega
        have HP' := Lib.hid HP
        have HO' := Lib.hid HO
        have u3 := w32_of T (by omega)
        clear HP HO
        go_wp2
        go_ret
        exact ⟨T, rfl, by omega, hfin.out, HI.out.2, m, rfl⟩
theorem guess_row {w : World} {g o cap n : Nat} {pre post : List Value} {row lb : List Nat} {vb : Value} (hb : Blk w g pre row post) (ho : pre.length = o) (hB : Reads w vb lb) (hl : lb.length = n + 2) (hr : row.length = n + 3) (hn : n ≤ 100000) (hsr : Sm row) (hsb : Sm lb) (hv : 2147483648 ≤ lb.getD (n + 1) 0) (h : val row < 4294967296 * val lb) :
   Calls Tryz.prog 195 #[.slice (some ⟨g, o, none⟩) row.length cap, vb] w fun e w' => ∃ T : Nat, e = .returned (.int .u32 T) ∧ T < 4294967296 ∧ (T - 1) * val lb ≤ val row ∧ val row < (T + 1) * val lb ∧ ∃ m, w' = w.drewN m := by
 rcases hB with ⟨_, e⟩ | ⟨bb, ob, cb, rfl, hbb, hcb, hc⟩ | ⟨_, _, e⟩
 rotate_right
 · rw [e] at hl; simp at hl
 · rw [e] at hl; simp at hl
 · rw [hr, hl]
   exact guess_any (fun j hj => hb.cell ho j (by omega)) (fun j hj => hc j (by omega)) hr hl hn hsr hsb hv h
def R_take (T : Nat) (row lb : List Nat) : Prop := val row < T * val lb ∧ val row / val lb = T - 1 ∧ val row + val lb - T * val lb = val row % val lb ∧ 0 < T
theorem back_once {P r2 c z X u : Nat} (hx : X < P * 4294967296) (hu : u = r2 + P * ((z + c) % 4294967296)) (hul : u < P * 4294967296)
   (h2 : r2 + P * (c + z) = X + P * 4294967296) : u = X := by
 have e : P * (c + z) = P * ((z + c) % 4294967296) + P * 4294967296 * ((z + c) / 4294967296) := by
   rw [Nat.mul_assoc, ← Nat.mul_add]
   congr 1
   omega
 generalize (z + c) / 4294967296 = k at e
 generalize P * 4294967296 = M at *
 rcases Nat.lt_or_ge k 1 with h | h
 · obtain rfl : k = 0 := by omega
   omega
 · rcases Nat.lt_or_ge 1 k with h3 | h3
   · have : M * 2 ≤ M * k := Nat.mul_le_mul_left _ h3
     omega
   · obtain rfl : k = 1 := by omega
     omega
theorem take_less {T : Nat} (hT : T < 4294967296) (h : 0 < T) : IntKind.u32.wrap ((T : Int) - 1) = ((T - 1 : Nat) : Int) := by
 rw [IntKind.wrap_u32']; omega
theorem take_val {row row' lb r2 : List Nat} {n q z c T : Nat} (h1 : row'.length = row.length) (h2 : row.length = n + 3) (h3 : lb.length = n + 2) (h4 : q = lb.length) (h5 : z = row'.getD q 0) (hs : Sm row') (hsb : Sm lb) (s2 : Sm r2) (_hc : c < 4294967296)
   (l2 : r2.length = q) (e5 : val r2 + 4294967296 ^ q * c = val (row'.take q) + 1 * val lb) (hv : val row' + T * val lb = val row + 4294967296 ^ row.length) (hT : R_take T row lb) :
   val ((r2 ++ row'.drop q).set q ((z + c) % 4294967296)) = val row % val lb := by
 obtain ⟨t1, t2, t3, t4⟩ := hT
 have hq : row'.length = q + 1 := by omega
 have hzb : z < 4294967296 := by rw [h5]; exact hs.getD q
 have ed : row'.drop q = [z] := by
   rw [List.drop_eq_getElem_cons (by omega), List.drop_of_length_le (by omega), h5, List.getD_eq_getElem?_getD, List.getElem?_eq_getElem (by omega)]; rfl
 have es : (r2 ++ [z]).set q ((z + c) % 4294967296) = r2 ++ [(z + c) % 4294967296] := by
   rw [List.set_append_right _ _ (by omega), l2, Nat.sub_self]; rfl
 have ev := val_take_succ row' q
 rw [List.take_of_length_le (by omega), ← h5] at ev
 rw [ed, es, val_snoc, l2]
 have hD0 : 0 < val lb := by
   rcases Nat.eq_zero_or_pos (val lb) with h | h
   · rw [h] at t1; simp at t1
   · exact h
 have hdl := val_lt hsb
 rw [← h4] at hdl
 have hm := Nat.mod_lt (val row) hD0
 have hdiv := Nat.div_mul_le_self (val row) (val lb)
 rw [t2] at hdiv
 have hTD : T * val lb = (T - 1) * val lb + val lb := by
   obtain ⟨t, rfl⟩ : ∃ t, T = t + 1 := ⟨T - 1, by omega⟩
   rw [Nat.add_sub_cancel, Nat.add_mul, Nat.one_mul]
 have hlen : row.length = q + 1 := by omega
 rw [hlen, Nat.pow_succ] at hv
 have hul := val_lt (s2.snoc (x := (z + c) % 4294967296) (by omega))
 rw [List.length_append, l2, List.length_singleton, Nat.pow_succ, val_snoc, l2] at hul
 have hP : 0 < 4294967296 ^ q := Nat.pow_pos (by decide)
 refine back_once (P := 4294967296 ^ q) (r2 := val r2) (c := c) (z := z) ?_ rfl hul ?_
 · generalize 4294967296 ^ q = P at *; omega
 · rw [Nat.mul_add]
   generalize 4294967296 ^ q = P at *
   generalize P * z = a at *
   generalize P * c = b at *
   omega
theorem takeOut_any {w : World} {g o cap n : Nat} {pre post : List Value} {row lb : List Nat} {vb : Value} (hb : Blk w g pre row post) (ho : pre.length = o) (hcap : row.length ≤ cap) (hB : Reads w vb lb) (hne : vb.ownBlock ≠ some g) (hl : lb.length = n + 2) (hr : row.length = n + 3) (hn : n ≤ 90000) (hso : o ≤ 1000000)
   (hsr : Sm row) (hsb : Sm lb) (hv : 2147483648 ≤ lb.getD (n + 1) 0) (h : val row < 4294967296 * val lb) :
   Calls Tryz.prog 173 #[.slice (some ⟨g, o, none⟩) row.length cap, vb] w fun e w' => ∃ (row' : List Nat) (q : Nat), e = .returned (.int .u32 q) ∧ q = val row / val lb ∧ q < 4294967296 ∧ Blk w' g pre row' post ∧ row'.length = row.length ∧ Sm row' ∧ val row' = val row % val lb ∧ w.grownBy w' (some g) := by
 have kg := guess_row (cap := cap) hb ho hB hl hr (by omega) hsr hsb hv h
 have ks : ∀ (T m : Nat), T < 4294967296 → _ := fun T m hT => subTimes_any (w := w.drewN m) (cap := cap) (t := T) (hb.kept (row := none) ⟨rfl, rfl, rfl, Nat.le_refl _, fun _ _ _ => rfl⟩ (by simp)) ho hcap (hB.below (W' := w.drewN m) ⟨rfl, rfl, rfl, Nat.le_refl _, fun _ _ => rfl⟩) hne (by omega) (by omega) hso hsr hsb hT
 have hB0 := hB
 obtain ⟨b1, d1, rfl⟩ := hB.form
 have hgl : ∀ m, (w.drewN m).heap.size = w.heap.size := fun _ => rfl
 go_enter Tryz.func173, Tryz.ntmps173
 have HV := Lib.hid hv
 have HH := Lib.hid h
 have HR := Lib.hid hr
 have HL := Lib.hid hl
 have HB := Lib.hid hB0
 clear hv h hr hl hB hB0
 go_wp2_with (first
   | (go_at_call 195; refine kg.mono ?_; clear kg; rintro e w' ⟨T, rfl, hT, hlo, hhi, m, rfl⟩; have HTO := Lib.hid (take_out hlo hhi); clear hlo hhi)
   | (go_at_call 196; refine (ks T m hT).mono ?_; clear ks; rintro e w2 ⟨row', b, rfl, hb2, hlen, hs2, hval, hg2⟩; have HVAL := Lib.hid hval; have HLEN := Lib.hid hlen; clear hval hlen; cases b))
 · have hv2 := HVAL.out
   simp only [Bool.false_eq_true, if_false, Nat.add_zero] at hv2
   go_ret
   rcases HTO.out with ⟨h1, h2, h3⟩ | ⟨h1, h2, h3, h4⟩
   · exact ⟨row', T, rfl, h2.symm, hT, hb2, HLEN.out, hs2, by omega, ⟨hg2.os, hg2.tape, hg2.output, hg2.size, hg2.block⟩⟩
   · omega
 · have hv2 := HVAL.out
   simp only [if_true] at hv2
   have hT0 : R_take T row lb := by
     rcases HTO.out with ⟨h1, h2, h3⟩ | h
     · have := val_lt hs2
       rw [HLEN.out] at this
       omega
     · exact h
   have HV2 := Lib.hid hv2
   have HT0 := Lib.hid hT0
   obtain ⟨q, hq⟩ : ∃ q, q = lb.length := ⟨_, rfl⟩
   have hq1 : q < row'.length := by rw [HLEN.out, HR.out, hq, HL.out]; omega
   have hbT : Blk w2 g pre (row'.take q ++ row'.drop q) post := by rw [List.take_append_drop]; exact hb2
   have hbS : Blk w2 g pre (row'.take q) ((row'.drop q).map u32v ++ post) := by
     have := (Blk.split (a := []) (b := row'.take q) (c := row'.drop q)).1 (by simpa using hbT)
     simpa using this
   have htl : (row'.take q).length = q := by rw [List.length_take]; omega
   have hgw := hb2.lt
   have hg2s := hg2.size
   have kadd := addTimes_any (w := w2.drew) (cap := cap) (t := 1) (lb := lb) (vb := .slice b1 lb.length d1) (hbS.kept (row := none) ⟨rfl, rfl, rfl, Nat.le_refl _, fun _ _ _ => rfl⟩ (by simp)) ho (by rw [htl]; have := HLEN.out; omega)
     ((HB.out.below (W' := w.drewN m) ⟨rfl, rfl, rfl, Nat.le_refl _, fun _ _ => rfl⟩).grown (g := g) (W := w2.drew) ⟨hg2.os, hg2.tape, hg2.output, hg2.size, hg2.block⟩ hne) (fun _ => hne) (by rw [htl, hq]) (by have := HL.out; omega) hso (hs2.take q) hsb (by decide)
   rw [htl] at kadd
   have c1 := hb2.cell ho q hq1
   obtain ⟨z, hz⟩ : ∃ z, z = row'.getD q 0 := ⟨_, rfl⟩
   rw [← hz] at c1
   rw [← hq] at kadd ⊢
   have HZ := Lib.hid hz
   have HQ := Lib.hid hq
   have HQ1 := Lib.hid hq1
   have HTL := Lib.hid htl
   clear hz hq hv2 hT0 hbT
   have hqr : (q : Int) < (row.length : Int) := by have := HLEN.out; have := HQ1.out; omega
   have hqc : ¬ (cap : Int) < (q : Int) := by have := HLEN.out; have := HQ1.out; omega
   have hqc2 : ¬ cap < q := by omega
   have hzb : z < 4294967296 := by rw [HZ.out]; exact hs2.getD q
   refine wp_region_held (S := fun _ => True) (by kernel_rfl) ?_
   change wpAnyH _ _ _ _ _ _ _ _ w2.drew
   have c2 : w2.drew.cell? ⟨g, o + q, none⟩ = some (.int .u32 z) := c1
   refine wtp 0 (.slice (some ⟨g, o, none⟩) row.length cap) rfl (fun _ _ _ h => h) (Or.inl ⟨by rfl, fun W3 _ => by go_simp⟩) trivial ?_
   refine wtp 1 (.slice b1 q d1) rfl (fun _ _ _ h => h) (Or.inl ⟨by rfl, fun W3 _ => by go_simp⟩) trivial ?_
   refine wtp 2 (.int .i64 q) rfl (fun _ _ _ h => h) (Or.inl ⟨by rfl, fun W3 _ => by go_simp⟩) trivial ?_
   refine wtp 3 (.pointer (some ⟨g, o + q, none⟩)) rfl (fun _ _ _ h => h) (Or.inl ⟨by rfl, fun W3 _ => by go_simp⟩) trivial ?_
   refine wtp 5 (.slice (some ⟨g, o, none⟩) row.length cap) rfl (fun _ _ _ h => h) (Or.inl ⟨by rfl, fun W3 _ => by go_simp⟩) trivial ?_
   refine wtp 6 (.slice b1 q d1) rfl (fun _ _ _ h => h) (Or.inl ⟨by rfl, fun W3 _ => by go_simp⟩) trivial ?_
   refine wtp 7 (.int .i64 q) rfl (fun _ _ _ h => h) (Or.inl ⟨by rfl, fun W3 _ => by go_simp⟩) trivial ?_
   refine wtp 8 (.slice (some ⟨g, o, none⟩) q cap) rfl (fun _ _ _ h => h) (Or.inl ⟨by rfl, fun W3 _ => by go_simp⟩) trivial ?_
   refine wtp 9 (.slice b1 q d1) rfl (fun _ _ _ h => h) (Or.inl ⟨by rfl, fun W3 _ => by go_simp⟩) trivial ?_
   refine two_op 4 10 ?_ ?_
   · refine wpOp_intro rfl (fun K4 hK => ?_)
     go_simp
     refine hK _ _ ⟨trivial, ?_⟩
     clear hK K4
     refine one_op 10 rfl (fun K10 hK => ?_)
     go_simp
     refine kadd.mono ?_
     rintro e w4 ⟨r2, c, rfl, q1, q2, q3, q4, q5, q6⟩
     have Q5 := Lib.hid q5
     have Q2 := Lib.hid q2
     have q7 : Blk w4 g pre (r2 ++ row'.drop q) post := by
       have := (Blk.split (W := w4) (g := g) (pre := pre) (post := post) (a := []) (b := r2) (c := row'.drop q)).2 (by simpa using q1)
       simpa using this
     have hl7 : q < (r2 ++ row'.drop q).length := by have := HQ1.out; rw [List.length_append, List.length_drop, q2]; omega
     have ez : (r2 ++ row'.drop q).getD q 0 = z := by
       rw [List.getD_eq_getElem?_getD, List.getElem?_append_right (by omega), q2, Nat.sub_self, List.getElem?_drop, Nat.add_zero, ← List.getD_eq_getElem?_getD]
       exact HZ.out.symm
     have c7 := q7.cell ho q hl7
     have f7 := q7.frozen (o + q)
     rw [ez] at c7
     have q8 := q7.set ho q ((z + c) % 4294967296) hl7
     have HL7 := Lib.hid hl7
     refine hK _ _ ⟨trivial, ?_⟩
     clear hK K10 kadd q5 q2 q7 hl7 ez
     refine wtp 11 (.int .u32 (((z : Int) + (c : Int)) % 4294967296)) rfl (fun _ _ _ h => h) (Or.inl ⟨by rfl, fun W3 _ => by go_simp; rw [IntKind.wrap_u32']⟩) trivial ?_
     refine wtp 12 (.pointer (some ⟨g, o + q, none⟩)) rfl (fun _ _ _ h => h) (Or.inl ⟨by rfl, fun W3 _ => by go_simp⟩) trivial ?_
     refine one_op 13 rfl (fun K13 hK => ?_)
     go_simp
     refine hK _ _ ⟨trivial, ?_⟩
     clear hK K13
     refine wdn ?_
     have uT := take_less hT HT0.out.2.2.2
     go_wp2
     go_ret
     rw [show (((z + c) % 4294967296 : Nat) : Int) = ((z : Int) + (c : Int)) % 4294967296 by omega] at q8
     refine ⟨_, T - 1, rfl, HT0.out.2.1.symm, by omega, q8, ?_, (q3.append (hs2.drop q)).set _ _ (by omega), ?_, grown_setCell (show w.grownBy w4 (some g) from ⟨q6.os.trans hg2.os, q6.tape.trans hg2.tape, q6.output.trans hg2.output, Nat.le_trans hg2.size q6.size, fun k hk hne => (q6.block k (Nat.lt_of_lt_of_le hk hg2.size) hne).trans (hg2.block k hk hne)⟩) _ _⟩
     · rw [List.length_set, List.length_append, List.length_drop, Q2.out]; have := HQ1.out; have := HLEN.out; omega
     · exact take_val HLEN.out HR.out HL.out HQ.out HZ.out hs2 hsb q3 q4 Q2.out Q5.out HV2.out HT0.out
   · refine wpOp_intro rfl (fun K10 hK => ?_)
     go_simp
     refine kadd.mono ?_
     rintro e w4 ⟨r2, c, rfl, q1, q2, q3, q4, q5, q6⟩
     have Q5 := Lib.hid q5
     have Q2 := Lib.hid q2
     have q7 : Blk w4 g pre (r2 ++ row'.drop q) post := by
       have := (Blk.split (W := w4) (g := g) (pre := pre) (post := post) (a := []) (b := r2) (c := row'.drop q)).2 (by simpa using q1)
       simpa using this
     have hl7 : q < (r2 ++ row'.drop q).length := by have := HQ1.out; rw [List.length_append, List.length_drop, q2]; omega
     have ez : (r2 ++ row'.drop q).getD q 0 = z := by
       rw [List.getD_eq_getElem?_getD, List.getElem?_append_right (by omega), q2, Nat.sub_self, List.getElem?_drop, Nat.add_zero, ← List.getD_eq_getElem?_getD]
       exact HZ.out.symm
     have c7 := q7.cell ho q hl7
     have f7 := q7.frozen (o + q)
     rw [ez] at c7
     have q8 := q7.set ho q ((z + c) % 4294967296) hl7
     have HL7 := Lib.hid hl7
     refine hK _ _ ⟨trivial, ?_⟩
     clear hK K10 kadd q5 q2 q7 hl7 ez
     refine one_op 4 rfl (fun K4 hK => ?_)
     go_simp
     refine hK _ _ ⟨trivial, ?_⟩
     clear hK K4
     refine wtp 11 (.int .u32 (((z : Int) + (c : Int)) % 4294967296)) rfl (fun _ _ _ h => h) (Or.inl ⟨by rfl, fun W3 _ => by go_simp; rw [IntKind.wrap_u32']⟩) trivial ?_
     refine wtp 12 (.pointer (some ⟨g, o + q, none⟩)) rfl (fun _ _ _ h => h) (Or.inl ⟨by rfl, fun W3 _ => by go_simp⟩) trivial ?_
     refine one_op 13 rfl (fun K13 hK => ?_)
     go_simp
     refine hK _ _ ⟨trivial, ?_⟩
     clear hK K13
     refine wdn ?_
     have uT := take_less hT HT0.out.2.2.2
     go_wp2
     go_ret
     rw [show (((z + c) % 4294967296 : Nat) : Int) = ((z : Int) + (c : Int)) % 4294967296 by omega] at q8
     refine ⟨_, T - 1, rfl, HT0.out.2.1.symm, by omega, q8, ?_, (q3.append (hs2.drop q)).set _ _ (by omega), ?_, grown_setCell (show w.grownBy w4 (some g) from ⟨q6.os.trans hg2.os, q6.tape.trans hg2.tape, q6.output.trans hg2.output, Nat.le_trans hg2.size q6.size, fun k hk hne => (q6.block k (Nat.lt_of_lt_of_le hk hg2.size) hne).trans (hg2.block k hk hne)⟩) _ _⟩
     · rw [List.length_set, List.length_append, List.length_drop, Q2.out]; have := HQ1.out; have := HLEN.out; omega
     · exact take_val HLEN.out HR.out HL.out HQ.out HZ.out hs2 hsb q3 q4 Q2.out Q5.out HV2.out HT0.out
end Go.Proofs.YtgmbaamfobhceaaGreat
namespace Go.Proofs.YtgmbaamfobhceaaGreat
open Go Go.Proofs Go.RowKit Go.Shelf Nu
theorem digs_self {l : List Nat} (hs : Sm l) (hc : chk l = true) : digs (val l) = l := digs_val hs hc
theorem divide_less {w : World} {va vb : Value} {la lb : List Nat} (ha : Reads w va la) (hb : Reads w vb lb) (hla : la.length ≤ 100000) (hlb : lb.length ≤ 100000) (hsa : Sm la) (hsb : Sm lb) (hca : chk la = true) (hcb : chk lb = true) (h : val la < val lb) :
  Calls Tryz.prog 114 #[va, vb] w fun e w' => ∃ v', e = .returned (.tuple #[.slice none 0 0, v']) ∧ Fresh w' w.heap.size v' la ∧ Below w.heap.size w w' := by
 have kc := cmp_any ha hb hla hlb hsa hsb
 rw [nv_chk hca, nv_chk hcb, show sgn (val la) (val lb) = -1 by simp [sgn, h]] at kc
 have ha' := ha
 obtain ⟨a1, c1, rfl⟩ := ha.form
 obtain ⟨b1, d1, rfl⟩ := hb.form
 clear ha hb h
 go_enter Tryz.func114, Tryz.ntmps114
 go_wp2_with (first
  | (go_at_call 108; refine kc.mono ?_; rintro e w1 ⟨rfl, hb1⟩)
  | (go_at_call 113; refine (clone_any (ha'.below hb1) (by omega)).mono ?_; rintro e w2 ⟨v', rfl, hF, hb2⟩; obtain ⟨ta, tc, v2, rfl, hR, kt⟩ := trim_any hF (by omega) hsa; rw [digs_self hsa hca] at hR)
  | (go_at_call 112; refine kt.mono ?_; rintro e w' ⟨rfl, rfl⟩))
 go_ret2
 exact ⟨v2, rfl, hR.mono hb1.size, hb1.trans (hb2.mono hb1.size)⟩
theorem divide_one_own {w : World} {va vb : Value} {la : List Nat} {d : Nat} (ha : Reads w va la) (hb : Reads w vb [d]) (hla : la.length ≤ 100000) (hsa : Sm la) (hca : chk la = true) (hd : 0 < d) (hd2 : d < 4294967296) (h : d ≤ val la) :
   Calls Tryz.prog 114 #[va, vb] w fun e w' => ∃ v1 v2, e = .returned (.tuple #[v1, v2]) ∧ Fresh w' w.heap.size v1 (digs (val la / d)) ∧ Fresh w' w.heap.size v2 (digs (val la % d)) ∧ Below w.heap.size w w' ∧ Two v1 v2 := by
 have kc := cmp_any ha hb hla (by simp) hsa (Sm.cons hd2 Sm.nil)
 have hcd : chk [d] = true := by simp [chk]; omega
 have hz : ((sgn (val la) d) < 0) = False := by simp [sgn]; split <;> (try split) <;> omega
 rw [nv_chk hca, nv_chk hcd, val_one] at kc
 obtain ⟨z, hz1⟩ : ∃ z, z = sgn (val la) d := ⟨_, rfl⟩
 rw [← hz1] at kc hz
 have hz2 : ¬ z < 0 := by rw [hz]; exact not_false
 have ha' := ha
 have hb' := hb
 obtain ⟨a1, c1, rfl⟩ := ha.form
 obtain ⟨bb, ob, cb, rfl, hbb, hcb, hcell⟩ : ∃ b off cap, vb = .slice (some ⟨b, off, none⟩) 1 cap ∧ b < w.heap.size ∧ 1 ≤ cap ∧ w.cell? ⟨b, off, none⟩ = some (.int .u32 d) := by
   rcases hb with ⟨_, h⟩ | ⟨b, off, cap, e, h1, h2, h3⟩ | ⟨_, _, h⟩
   rotate_right
   · cases h
   · cases h
   · exact ⟨b, off, cap, e, h1, h2, by simpa using h3 0 (by simp)⟩
 have hne : la ≠ [] := by rintro rfl; simp [val] at h; omega
 clear ha hb hz hz1
 go_enter Tryz.func114, Tryz.ntmps114
 go_wp2_with (go_at_call 108; refine kc.mono ?_; rintro e w1 ⟨rfl, hb1⟩)
 refine wp_region_held (S := fun W => W.cell? ⟨bb, ob, none⟩ = some (.int .u32 d)) (by kernel_rfl) ?_
 change wpAnyH _ _ _ _ _ _ _ _ w1.drew
 have hS0 : w1.drew.cell? ⟨bb, ob, none⟩ = some (.int .u32 d) := (hb1.cell (p := ⟨bb, ob, none⟩) hbb).trans hcell
 refine wtp 0 (.slice a1 la.length c1) rfl (fun _ _ _ h => h) (Or.inl ⟨by rfl, fun W3 hS => by go_simp⟩) hS0 ?_
 refine wtp 2 (.slice (some ⟨bb, ob, none⟩) 1 cb) rfl (fun _ _ _ h => h) (Or.inl ⟨by rfl, fun W3 hS => by go_simp⟩) hS0 ?_
 refine wtp 3 (.pointer (some ⟨bb, ob, none⟩)) rfl (fun _ _ _ h => h) (Or.inl ⟨by rfl, fun W3 hS => by go_simp⟩) hS0 ?_
 refine wtp 4 (.int .u32 d) rfl (fun _ _ _ h => h) (Or.inl ⟨by rfl, fun W3 hS => by go_simp⟩) hS0 ?_
 refine one_op 1 rfl (fun K hK => ?_)
 go_simp
 refine (clone_any (w := w1.drew) (ha'.below hb1.drew) (by omega)).mono ?_
 rintro e w2 ⟨v', rfl, hF, hb2⟩
 have hw2 : w1.heap.size ≤ w2.heap.size := hb2.size
 have hww : w.heap.size ≤ w1.heap.size := hb1.size
 obtain ⟨g, cap, rfl, hg⟩ : ∃ g cap, v' = .slice (some ⟨g, 0, none⟩) la.length cap ∧ w1.heap.size ≤ g := by
   rcases hF.form with ⟨_, h⟩ | ⟨g, cap, e, h, _⟩
   · exact absurd h hne
   · exact ⟨g, cap, e, h⟩
 have hS1 : w2.cell? ⟨bb, ob, none⟩ = some (.int .u32 d) := (hb2.cell (p := ⟨bb, ob, none⟩) (show bb < w1.heap.size by omega)).trans hS0
 refine hK _ _ ⟨hS1, ?_⟩
 clear hK K
 refine one_op 5 rfl (fun K hK => ?_)
 go_simp
 refine (divPart_some (w := w2) (base := w1.heap.size) hF hla hsa hd hd2).mono ?_
 rintro e w3 ⟨v1, rfl, hR, hb3⟩
 have hw3 : w1.heap.size ≤ w3.heap.size := by have := hb3.size; omega
 have hS2 : w3.cell? ⟨bb, ob, none⟩ = some (.int .u32 d) := (hb3.cell (p := ⟨bb, ob, none⟩) (show bb < w1.heap.size by omega)).trans hS1
 refine hK _ _ ⟨hS2, ?_⟩
 clear hK K
 obtain ⟨r, hr⟩ : ∃ r, r = val la % d := ⟨_, rfl⟩
 rw [← hr]
 have hrb : r < 4294967296 := by have := Nat.mod_lt (val la) hd; omega
 have HR := Lib.hid hr
 clear hr
 refine wtp 6 (.tuple #[v1, .int .u32 r]) rfl (fun _ _ _ h => h) (Or.inl ⟨by rfl, fun W3 hS => by go_simp⟩) hS2 ?_
 refine wtp 7 (v1) rfl (fun _ _ _ h => h) (Or.inl ⟨by rfl, fun W3 hS => by go_simp⟩) hS2 ?_
 refine wtp 8 (.int .u32 r) rfl (fun _ _ _ h => h) (Or.inl ⟨by rfl, fun W3 hS => by go_simp⟩) hS2 ?_
 refine wtp 9 (v1) rfl (fun _ _ _ h => h) (Or.inl ⟨by rfl, fun W3 hS => by go_simp⟩) hS2 ?_
 refine wtp 10 (.int .u32 r) rfl (fun _ _ _ h => h) (Or.inl ⟨by rfl, fun W3 hS => by go_simp⟩) hS2 ?_
 refine wdn ?_
 go_wp2_with (go_at_call 109; refine (of_any r (by omega) _).mono ?_; rintro e w4 ⟨v2, rfl, hR2, hb4⟩)
 go_ret2
 have hw4 : w3.heap.size ≤ w4.heap.size := hb4.size
 refine ⟨v1, v2, rfl, (hR.below hb4).mono hww, ?_, ?_, ?_⟩
 · rw [← HR.out]; exact hR2.mono (by omega)
 · exact ((hb1.drew.trans (hb2.mono hww)).trans (hb3.mono hww)).trans (hb4.mono (by omega))
 · cases e1 : v1.ownBlock with
   | none => exact .inl e1
   | some g1 =>
     refine .inr (fun e2 => ?_)
     rw [e1] at e2
     have h1 := World.ownsRow.lt hR g1 e1
     have h2 := World.ownsRow.lt hR2 g1 e2.symm
     omega
theorem div_of {w : World} {va vb : Value} {la lb : List Nat} {q r : List Nat} (ha : Reads w va la) (hb : Reads w vb lb) (hla : la.length ≤ 1000000) (hlb : lb.length ≤ 1000000) (hca : chk la = true) (hcb : chk lb = true) (h0 : lb ≠ [])
  (kd : Calls Tryz.prog 114 #[va, vb] w fun e w' => ∃ v1 v2, e = .returned (.tuple #[v1, v2]) ∧ Fresh w' w.heap.size v1 q ∧ Fresh w' w.heap.size v2 r ∧ Below w.heap.size w w') :
  Calls Tryz.prog 142 #[va, vb] w fun e w' => ∃ v1 v2, e = .returned (.tuple #[v1, v2, .int .i64 0]) ∧ Fresh w' w.heap.size v1 q ∧ Fresh w' w.heap.size v2 r ∧ Below w.heap.size w w' := by
 have k1 := check_any ha hla
 have k2 := check_any hb hlb
 obtain ⟨a1, c1, rfl⟩ := ha.form
 obtain ⟨b1, d1, rfl⟩ := hb.form
 have hn : 0 < lb.length := by
  rcases Nat.eq_zero_or_pos lb.length with h | h
  · exact absurd (List.eq_nil_of_length_eq_zero h) h0
  · exact h
 clear ha hb h0
 rw [hca] at k1
 rw [hcb] at k2
 go_enter Tryz.func142, Tryz.ntmps142
 go_wp2_with (first
  | (go_at_call 61; with_reducible refine k1.mono ?_; clear k1; rintro e w' ⟨rfl, rfl⟩)
  | (go_at_call 61; with_reducible refine k2.mono ?_; clear k2; rintro e w' ⟨rfl, rfl⟩)
  | (go_at_call 114; refine kd.mono ?_; rintro e w' ⟨v1, v2, rfl, hq, hr, hbl⟩))
 go_ret3
 exact ⟨v1, v2, rfl, hq, hr, hbl⟩
end Go.Proofs.YtgmbaamfobhceaaGreat
