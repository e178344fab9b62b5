/- Bits moved up and down; what the heads of two numbers are. -/
import Derived.Test.YtbcipningfdgoaaMathB
namespace Go.Proofs.Ytbcipningfdgoaa.Nu

theorem pow32 {s : Nat} (h : s ≤ 32) : 2 ^ s * 2 ^ (32 - s) = 4294967296 := by
  rw [← Nat.pow_add, Nat.add_sub_cancel' h]
theorem two_pos (s : Nat) : 0 < 2 ^ s := Nat.pow_pos (by decide)
theorem pow31 {s : Nat} (h : s ≤ 31) : 2 ^ s ≤ 2147483648 := Nat.le_trans (Nat.pow_le_pow_right (by decide) h) (by decide)

/-- one part more of a number moved up -/
theorem up_step {la out : List Nat} {k c S : Nat} (hk : out.length = k) (h : val out + 4294967296 ^ k * c = val (la.take k) * S) :
    val (out ++ [(c + la.getD k 0 * S) % 4294967296]) + 4294967296 ^ (k + 1) * ((c + la.getD k 0 * S) / 4294967296) = val (la.take (k + 1)) * S := by
  rw [val_snoc, val_take_succ, hk, Nat.pow_succ]
  have := ring_add _ _ c (la.getD k 0 * S) _ _ ((c + la.getD k 0 * S) % 4294967296) ((c + la.getD k 0 * S) / 4294967296) h rfl (by omega)
  rw [this, Nat.add_mul, Nat.mul_assoc]
theorem up_bound {c x S : Nat} (hc : c < S) (hx : x < 4294967296) (hS : S ≤ 2147483648) : c + x * S < 9223372036854775808 ∧ (c + x * S) / 4294967296 < S := by
  have h1 : x * S ≤ 4294967295 * S := Nat.mul_le_mul_right _ (by omega)
  exact ⟨by omega, by omega⟩

/-- one part more of a number moved down -/
theorem down_part {S T a x V : Nat} (hS : 0 < S) (hB : S * T = 4294967296) (ha : V % 4294967296 = a) (hx : x < 4294967296) :
    (a * 4294967296 + x) / S % 4294967296 + 4294967296 * (V / S) = (x + 4294967296 * V) / S := by
  have e1 : V = S * (V / S) + V % S := (Nat.div_add_mod V S).symm
  have e2 : a % S = V % S := by rw [← ha, ← hB, Nat.mod_mul_right_mod]
  have e3 : a = S * (a / S) + V % S := by have := (Nat.div_add_mod a S).symm; rwa [e2] at this
  generalize V / S = c at *
  have hd : V % S < S := Nat.mod_lt _ hS
  generalize V % S = d at *
  generalize a / S = f at *
  have hlt : (x + 4294967296 * d) / S < 4294967296 := by
    refine Nat.div_lt_of_lt_mul ?_
    have := Nat.mul_le_mul_right 4294967296 (show d + 1 ≤ S by omega)
    omega
  have h1 : (a * 4294967296 + x) / S = (x + 4294967296 * d) / S + 4294967296 * f := by
    rw [e3, show (S * f + d) * 4294967296 + x = (x + 4294967296 * d) + S * (4294967296 * f) by grind, Nat.add_mul_div_left _ _ hS]
  have h2 : (x + 4294967296 * V) / S = (x + 4294967296 * d) / S + 4294967296 * c := by
    rw [e1, show x + 4294967296 * (S * c + d) = (x + 4294967296 * d) + S * (4294967296 * c) by grind, Nat.add_mul_div_left _ _ hS]
  rw [h1, h2, Nat.add_mul_mod_self_left, Nat.mod_eq_of_lt hlt]
theorem val_mod (l : List Nat) (hs : Sm l) : val l % 4294967296 = l.getD 0 0 := by
  cases l with
  | nil => rfl
  | cons x t =>
    have := hs.head
    simp [val, Nat.add_mul_mod_self_left, Nat.mod_eq_of_lt this]
theorem down_step {l cur : List Nat} {S T j : Nat} (hS : 0 < S) (hB : S * T = 4294967296) (hs : Sm l) (hj : j < l.length) (hc : j < cur.length)
    (h : val (cur.drop (j + 1)) = val (l.drop (j + 1)) / S) (a x : Nat) (ha : a = l.getD (j + 1) 0) (hx : x = l.getD j 0) :
    val ((cur.set j ((a * 4294967296 + x) / S % 4294967296)).drop j) = val (l.drop j) / S := by
  have hl1 : l.drop j = x :: l.drop (j + 1) := by
    rw [List.drop_eq_getElem_cons hj, hx, List.getD_eq_getElem?_getD, List.getElem?_eq_getElem hj]; rfl
  have hc1 : (cur.set j ((a * 4294967296 + x) / S % 4294967296)).drop j = ((a * 4294967296 + x) / S % 4294967296) :: cur.drop (j + 1) := by
    rw [List.drop_eq_getElem_cons (by simpa using hc), set_drop]
    simp
  have hm : val (l.drop (j + 1)) % 4294967296 = a := by
    rw [val_mod _ (hs.drop _), ha, List.getD_eq_getElem?_getD, List.getD_eq_getElem?_getD, List.getElem?_drop, Nat.add_zero]
  rw [hl1, hc1, val, val, h]
  exact down_part hS hB hm (by rw [hx]; exact hs.getD j)

/-! the head of a number -/

theorem val_top3p {l : List Nat} {n : Nat} (hl : l.length ≤ n + 3) : val l = val (l.take n) + 4294967296 ^ n * (l.getD n 0 + 4294967296 * (l.getD (n + 1) 0 + 4294967296 * l.getD (n + 2) 0)) := by
  have h1 := val_take_succ l (n + 2)
  have h2 := val_take_succ l (n + 1)
  have h3 := val_take_succ l n
  rw [List.take_of_length_le (by omega)] at h1
  have e1 : 4294967296 ^ (n + 1) = 4294967296 * 4294967296 ^ n := by rw [Nat.pow_succ, Nat.mul_comm]
  have e2 : 4294967296 ^ (n + 2) = 4294967296 * (4294967296 * 4294967296 ^ n) := by rw [Nat.pow_succ, e1, Nat.mul_comm]
  rw [e1] at h2
  rw [e2] at h1
  rw [h1, show n + 2 = n + 1 + 1 from rfl, h2, h3]
  generalize 4294967296 ^ n = P
  generalize l.getD n 0 = x
  generalize l.getD (n + 1) 0 = y
  generalize l.getD (n + 1 + 1) 0 = z
  clear h1 h2 h3 e1 e2 hl
  grind
theorem val_take_lt' {l : List Nat} (h : Sm l) (n : Nat) : val (l.take n) < 4294967296 ^ n := by
  refine Nat.lt_of_lt_of_le (val_lt (h.take n)) (Nat.pow_le_pow_right (by decide) ?_)
  rw [List.length_take]; omega
/-- the highest 64 bits behind s of n + 3 parts -/
def hd (v n s : Nat) : Nat := v / (4294967296 ^ n * 2 ^ (32 - s))
theorem hd_eq {l : List Nat} {n s : Nat} (hl : l.length ≤ n + 3) (hs : Sm l) (h : s ≤ 31) :
    hd (val l) n s = (l.getD (n + 2) 0 * 4294967296 + l.getD (n + 1) 0) * 2 ^ s + l.getD n 0 / 2 ^ (32 - s) := by
  unfold hd
  rw [← Nat.div_div_eq_div_mul, val_top3p hl, Nat.add_mul_div_left _ _ (Nat.pow_pos (by decide)), Nat.div_eq_of_lt (val_take_lt' hs n), Nat.zero_add]
  have hp := pow32 (show s ≤ 32 by omega)
  have hq := two_pos (32 - s)
  generalize 2 ^ (32 - s) = q at *
  generalize 2 ^ s = p at *
  rw [show l.getD n 0 + 4294967296 * (l.getD (n + 1) 0 + 4294967296 * l.getD (n + 2) 0) = l.getD n 0 + q * ((l.getD (n + 2) 0 * 4294967296 + l.getD (n + 1) 0) * p) by rw [← hp]; grind, Nat.add_mul_div_left _ _ hq, Nat.add_comm]
theorem hd_low {s x : Nat} (h : s ≤ 31) (hx : x < 4294967296) : x / 2 ^ (32 - s) < 2 ^ s := by
  refine Nat.div_lt_of_lt_mul ?_
  rw [Nat.mul_comm, pow32 (by omega)]; exact hx
theorem hd_mono {a b n s : Nat} (h : b ≤ a) : hd b n s ≤ hd a n s := Nat.div_le_div_right h
/-- .. of a number whose highest part has s bits of 0 ahead -/
theorem hd_lt {l : List Nat} {n s : Nat} (hl : l.length ≤ n + 3) (hs : Sm l) (h : s ≤ 31) (ht : l.getD (n + 2) 0 * 2 ^ s < 4294967296) : hd (val l) n s < 18446744073709551616 := by
  rw [hd_eq hl hs h]
  have h1 := hs.getD (n + 1)
  have h2 := hd_low h (hs.getD n)
  have h3 := Nat.mul_le_mul_right (2 ^ s) (show l.getD (n + 1) 0 + 1 ≤ 4294967296 by omega)
  rw [Nat.add_mul, Nat.one_mul] at h3
  rw [Nat.add_mul, Nat.mul_right_comm]
  have h4 := Nat.mul_le_mul_right 4294967296 (show l.getD (n + 2) 0 * 2 ^ s + 2 ^ s ≤ 4294967296 by
    have hp := pow32 (show s ≤ 32 by omega)
    generalize 2 ^ (32 - s) = q at *
    generalize 2 ^ s = p at *
    have h5 : l.getD (n + 2) 0 < q := by
      rw [← hp, Nat.mul_comm p q] at ht
      exact Nat.lt_of_mul_lt_mul_right ht
    have h6 := Nat.mul_le_mul_right p (show l.getD (n + 2) 0 + 1 ≤ q by omega)
    rw [Nat.add_mul, Nat.one_mul, Nat.mul_comm q p, hp] at h6
    exact h6)
  rw [Nat.add_mul] at h4
  omega
theorem hd_heads (v n s : Nat) : hd v n s * (4294967296 ^ n * 2 ^ (32 - s)) ≤ v ∧ v < (hd v n s + 1) * (4294967296 ^ n * 2 ^ (32 - s)) := by
  have hp : 0 < 4294967296 ^ n * 2 ^ (32 - s) := Nat.mul_pos (Nat.pow_pos (by decide)) (two_pos _)
  unfold hd
  generalize 4294967296 ^ n * 2 ^ (32 - s) = K at *
  refine ⟨Nat.div_mul_le_self v K, ?_⟩
  have := Nat.lt_div_mul_add (a := v) hp
  rw [Nat.add_mul, Nat.one_mul]
  exact this

/-! division, part by part -/

/-- between two steps of the division: i places are left -/
def Dv (V D i : Nat) (q : List Nat) (r : Nat) : Prop := V = D * (4294967296 ^ i * val (q.drop i)) + r ∧ r < 4294967296 ^ i * D
theorem Dv.step {V D i m : Nat} {q cur row' : List Nat} (hm : D < 4294967296 ^ m) (h : Dv V D (i + 1) q (val cur)) (hs : Sm cur) (hi : i < q.length) (hl : i + m < cur.length) (hr : row'.length = m + 1)
    (hv : val row' = val ((cur.drop i).take (m + 1)) % D) :
    val ((cur.drop i).take (m + 1)) < 4294967296 * D ∧
      Dv V D i (q.set i (val ((cur.drop i).take (m + 1)) / D)) (val (cur.take i ++ row' ++ cur.drop (i + m + 1))) := by
  obtain ⟨h1, h2⟩ := h
  have e1 := val_split cur i (by omega)
  have e2 := val_split (cur.drop i) (m + 1) (by simp; omega)
  have e3 : (cur.drop i).drop (m + 1) = cur.drop (i + m + 1) := by rw [List.drop_drop]; rfl
  rw [e3] at e2
  have lt1 := val_take_lt' hs i
  have hP : 0 < 4294967296 ^ i := Nat.pow_pos (by decide)
  -- nothing stands above the row
  have hz : val (cur.drop (i + m + 1)) = 0 := by
    rcases Nat.eq_zero_or_pos (val (cur.drop (i + m + 1))) with h | h
    · exact h
    · exfalso
      have a1 : 4294967296 ^ i * (4294967296 ^ (m + 1) * 1) ≤ 4294967296 ^ i * (4294967296 ^ (m + 1) * val (cur.drop (i + m + 1))) := Nat.mul_le_mul_left _ (Nat.mul_le_mul_left _ h)
      have a2 : 4294967296 ^ (i + 1) * D < 4294967296 ^ (i + 1) * 4294967296 ^ m := Nat.mul_lt_mul_of_pos_left hm (Nat.pow_pos (by decide))
      have a3 : 4294967296 ^ (i + 1) * 4294967296 ^ m = 4294967296 ^ i * (4294967296 ^ (m + 1) * 1) := by
        rw [Nat.mul_one, ← Nat.pow_add, ← Nat.pow_add]; congr 1; omega
      rw [e2, Nat.mul_add] at e1
      omega
  rw [hz, Nat.mul_zero, Nat.add_zero] at e2
  have hD0 : 0 < D := by
    rcases Nat.eq_zero_or_pos D with h | h
    · rw [h, Nat.mul_zero] at h2; omega
    · exact h
  have hlen : (cur.take i).length = i := by rw [List.length_take]; omega
  have e4 : val (cur.take i ++ row' ++ cur.drop (i + m + 1)) = val (cur.take i) + 4294967296 ^ i * val row' := by
    rw [List.append_assoc, val_append, val_append, hz, Nat.mul_zero, Nat.add_zero, hlen]
  have e5 : (q.set i (val ((cur.drop i).take (m + 1)) / D)).drop i = (val ((cur.drop i).take (m + 1)) / D) :: q.drop (i + 1) := by
    rw [List.drop_eq_getElem_cons (by simpa using hi), set_drop]
    simp
  rw [e2] at e1
  unfold Dv
  rw [e4, e5, val, hv]
  rw [Nat.pow_succ] at h1 h2
  generalize val ((cur.drop i).take (m + 1)) = R at *
  have hdm := (Nat.div_add_mod R D).symm
  have hml := Nat.mod_lt R hD0
  generalize R / D = Q at *
  generalize R % D = r at *
  generalize 4294967296 ^ i = P at *
  generalize val (q.drop (i + 1)) = Z at *
  generalize val (cur.take i) = Y at *
  refine ⟨?_, ?_, ?_⟩
  · have : P * R < P * (4294967296 * D) := by rw [← Nat.mul_assoc]; omega
    exact Nat.lt_of_mul_lt_mul_left this
  · rw [h1, e1, hdm]; grind
  · have := Nat.mul_le_mul_left P (show r + 1 ≤ D by omega)
    rw [Nat.mul_add, Nat.mul_one] at this
    omega
theorem Dv.start {V D n : Nat} (h : V < 4294967296 ^ n * D) : Dv V D n (List.replicate n 0) V := by
  refine ⟨?_, h⟩
  rw [List.drop_of_length_le (by simp), val, Nat.mul_zero, Nat.mul_zero, Nat.zero_add]
theorem Dv.done {V D r : Nat} {q : List Nat} (h : Dv V D 0 q r) : val q = V / D ∧ r = V % D := by
  obtain ⟨h1, h2⟩ := h
  rw [Nat.pow_zero, Nat.one_mul] at h1 h2
  rw [List.drop_zero] at h1
  have hD : 0 < D := by omega
  rw [h1, Nat.add_comm, Nat.add_mul_div_left _ _ hD, Nat.add_mul_mod_self_left, Nat.div_eq_of_lt h2, Nat.mod_eq_of_lt h2, Nat.zero_add]
  exact ⟨rfl, rfl⟩
theorem dv_room {a b m n S : Nat} (ha : a < 4294967296 ^ n) (hb : 2147483648 * 4294967296 ^ m ≤ b * S) (hS : S ≤ 2147483648) (hmn : m + 1 ≤ n) : a * S < 4294967296 ^ (n - (m + 1) + 1) * (b * S) := by
  have h1 : a * S < 4294967296 ^ n * S + 1 := by
    have := Nat.mul_le_mul_right S (Nat.le_of_lt ha)
    omega
  have hSp : 0 < S := by
    rcases Nat.eq_zero_or_pos S with h | h
    · subst h
      have := Nat.pow_pos (n := m) (show 0 < 4294967296 by decide)
      omega
    · exact h
  have h0 : a * S < 4294967296 ^ n * S := Nat.mul_lt_mul_of_pos_right ha hSp
  have h2 : 4294967296 ^ (n - (m + 1) + 1) * (2147483648 * 4294967296 ^ m) ≤ 4294967296 ^ (n - (m + 1) + 1) * (b * S) := Nat.mul_le_mul_left _ hb
  have h3 : 4294967296 ^ (n - (m + 1) + 1) * (2147483648 * 4294967296 ^ m) = 4294967296 ^ n * 2147483648 := by
    rw [Nat.mul_left_comm, ← Nat.pow_add, Nat.mul_comm, show n - (m + 1) + 1 + m = n by omega]
  have h4 : 4294967296 ^ n * S ≤ 4294967296 ^ n * 2147483648 := Nat.mul_le_mul_left _ hS
  omega
/-! a number moved up until its highest bit is set -/

theorem up_fits {l : List Nat} {p sh : Nat} (hl : l.length = p + 1) (hs : Sm l) (hsh : sh ≤ 31) (ht : l.getD p 0 * 2 ^ sh < 4294967296) : val l * 2 ^ sh < 4294967296 ^ (p + 1) := by
  have h1 := val_take_succ l p
  rw [List.take_of_length_le (by omega)] at h1
  have h2 := val_take_lt' hs p
  have hp := pow32 (show sh ≤ 32 by omega)
  have hq := two_pos sh
  generalize l.getD p 0 = T at *
  generalize val (l.take p) = Y at *
  rw [Nat.pow_succ]
  generalize 4294967296 ^ p = P at *
  generalize 2 ^ (32 - sh) = q at *
  generalize 2 ^ sh = S at *
  have h3 : T < q := by
    rw [← hp, Nat.mul_comm S q] at ht
    exact Nat.lt_of_mul_lt_mul_right ht
  have h4 : val l < P * (T + 1) := by rw [h1, Nat.mul_add, Nat.mul_one]; omega
  have h5 : P * (T + 1) ≤ P * q := Nat.mul_le_mul_left _ h3
  have h6 : val l * S < P * q * S := Nat.mul_lt_mul_of_pos_right (by omega) hq
  rwa [Nat.mul_assoc, Nat.mul_comm q S, hp] at h6
theorem up_low {l : List Nat} {p S : Nat} (hl : l.length = p + 1) (ht : 2147483648 ≤ l.getD p 0 * S) : 2147483648 * 4294967296 ^ p ≤ val l * S := by
  have h1 := val_take_succ l p
  rw [List.take_of_length_le (by omega)] at h1
  have h2 := Nat.mul_le_mul_right (4294967296 ^ p) ht
  rw [h1]
  generalize 4294967296 ^ p = P at *
  generalize l.getD p 0 = T at *
  generalize val (l.take p) = Y at *
  have h3 : (Y + P * T) * S = Y * S + T * S * P := by grind
  omega
theorem up_by {l : List Nat} {m V : Nat} (hl : l.length = m + 1) (hv : val l = V) (hV : V < 4294967296 ^ m) : val (l.take m) = V := by
  have h1 := val_take_succ l m
  rw [List.take_of_length_le (by omega), hv] at h1
  rcases Nat.eq_zero_or_pos (l.getD m 0) with h | h
  · rw [h, Nat.mul_zero] at h1; omega
  · have := Nat.mul_le_mul_left (4294967296 ^ m) h
    omega
theorem top_of {l : List Nat} {p V : Nat} (hl : l.length = p + 1) (hs : Sm l) (hv : val l = V) (h : 2147483648 * 4294967296 ^ p ≤ V) : 2147483648 ≤ l.getD p 0 := by
  have h1 := val_take_succ l p
  rw [List.take_of_length_le (by omega), hv] at h1
  have h2 := val_take_lt' hs p
  rcases Nat.lt_or_ge (l.getD p 0) 2147483648 with h3 | h3
  · have := Nat.mul_le_mul_left (4294967296 ^ p) (show l.getD p 0 + 1 ≤ 2147483648 by omega)
    rw [Nat.mul_add, Nat.mul_one, Nat.mul_comm _ 2147483648] at this
    omega
  · exact h3
end Go.Proofs.Ytbcipningfdgoaa.Nu
