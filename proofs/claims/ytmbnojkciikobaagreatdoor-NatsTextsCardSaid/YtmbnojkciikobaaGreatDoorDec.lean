/- A number's text is read as it; a text that is read is the number's: of the digits alone. Whether a text is longer than is gone through. -/
import Derived.Test.YtmbnojkciikobaaGreatDoorForm
namespace Go.Proofs.YtmbnojkciikobaaGreatDoor
open Go Go.Proofs Go.RowKit Go.Shelf Nu

/-- a number's text -/
def txt (V : Nat) : ByteArray := ⟨((low V).reverse.map UInt8.ofNat).toArray⟩
/-- the number of some digits, the lowest first -/
def dec : List Nat → Nat
  | [] => 0
  | d :: l => (d - 48) + 10 * dec l
/-- a text's bytes -/
def nat8 (s : ByteArray) : List Nat := s.data.toList.map UInt8.toNat

theorem dec_low (V : Nat) : dec (low V) = V := by
  induction V using Nat.strongRecOn with
  | ind V ih =>
    rw [low]
    by_cases h : V / 10 = 0
    · simp [h, dec]; omega
    · simp only [h, dite_false, dec]
      rw [ih (V / 10) (by omega)]
      omega
theorem low_digit {V x : Nat} (h : x ∈ low V) : 48 ≤ x ∧ x ≤ 57 := by
  induction V using Nat.strongRecOn with
  | ind V ih =>
    rw [low] at h
    rcases List.mem_cons.1 h with rfl | h
    · omega
    · split at h
      · cases h
      · exact ih (V / 10) (by omega) h
theorem low_last {V : Nat} (h : 0 < V) : ∃ x, (low V).getLast? = some x ∧ x ≠ 48 := by
  induction V using Nat.strongRecOn with
  | ind V ih =>
    rw [low]
    by_cases h0 : V / 10 = 0
    · exact ⟨48 + V % 10, by simp [h0], by omega⟩
    · obtain ⟨x, h1, h2⟩ := ih (V / 10) (by omega) (by omega)
      refine ⟨x, ?_, h2⟩
      simp only [h0, dite_false]
      have hne : low (V / 10) ≠ [] := fun e => by have := low_pos (V / 10); rw [e] at this; simp at this
      rw [List.getLast?_cons, h1]
      rfl
theorem low_one {V : Nat} (h : (low V).length ≠ 1) : 0 < V := by
  rcases Nat.eq_zero_or_pos V with rfl | h1
  · exact absurd (by rw [low]; simp) h
  · exact h1
theorem dec_pos {l : List Nat} (hd : ∀ x ∈ l, 48 ≤ x ∧ x ≤ 57) {x : Nat} (h : l.getLast? = some x) (hx : x ≠ 48) : 0 < dec l := by
  induction l with
  | nil => simp at h
  | cons d l ih =>
    cases l with
    | nil =>
      have e : d = x := by simpa using h
      have := hd d (by simp)
      simp only [dec]; omega
    | cons d2 l2 =>
      have := ih (fun y hy => hd y (by simp at hy ⊢; exact .inr hy)) (by simpa using h)
      simp only [dec] at this ⊢; omega
theorem low_dec {l : List Nat} (hd : ∀ x ∈ l, 48 ≤ x ∧ x ≤ 57) (hn : l ≠ []) (h : l.length = 1 ∨ ∃ x, l.getLast? = some x ∧ x ≠ 48) : low (dec l) = l := by
  induction l with
  | nil => exact absurd rfl hn
  | cons d l ih =>
    have h1 := hd d (by simp)
    cases l with
    | nil =>
      rw [low]
      have e : (d - 48) / 10 = 0 := by omega
      simp only [dec, Nat.mul_zero, Nat.add_zero, e, dite_true]
      congr 1
      omega
    | cons d2 l2 =>
      obtain ⟨x, hx1, hx2⟩ : ∃ x, (d :: d2 :: l2).getLast? = some x ∧ x ≠ 48 := by
        rcases h with h | h
        · simp at h
        · exact h
      have hl : ∀ x ∈ d2 :: l2, 48 ≤ x ∧ x ≤ 57 := fun y hy => hd y (List.mem_cons_of_mem _ hy)
      have hx1' : (d2 :: l2).getLast? = some x := by simpa using hx1
      have hp := dec_pos hl hx1' hx2
      have hi := ih hl (by simp) (.inr ⟨x, hx1', hx2⟩)
      generalize d2 :: l2 = m at *
      rw [low]
      have e1 : (d - 48 + 10 * dec m) / 10 = dec m := by omega
      have e2 : (d - 48 + 10 * dec m) % 10 = d - 48 := by omega
      simp only [dec, e1, e2]
      rw [dif_neg (by omega), hi]
      congr 1
      omega

theorem nat8_length (s : ByteArray) : (nat8 s).length = s.size := by simp [nat8]
theorem bt_nat8 (s : ByteArray) (j : Nat) : bt s j = (nat8 s).getD j 0 := by
  unfold bt nat8
  rw [List.getD_eq_getElem?_getD, List.getD_eq_getElem?_getD, List.getElem?_map]
  cases s.data.toList[j]? <;> rfl
theorem numv_dec (s : ByteArray) (k : Nat) (hk : k ≤ s.size) : numv s k = dec ((nat8 s).take k).reverse := by
  induction k with
  | zero => simp [numv, dec]
  | succ k ih =>
    have hl := nat8_length s
    rw [numv, ih (by omega), List.take_succ_eq_append_getElem (by omega), List.reverse_append, List.reverse_singleton, List.singleton_append, dec, bt_nat8, List.getD_eq_getElem?_getD, List.getElem?_eq_getElem (by omega)]
    simp only [Option.getD_some]
    omega
theorem nat8_txt (V : Nat) : nat8 (txt V) = (low V).reverse := by
  unfold nat8 txt
  simp only [List.map_map]
  rw [List.map_congr_left (g := id)]
  · simp
  · intro x hx
    have := low_digit (List.mem_reverse.1 hx)
    simp only [Function.comp, UInt8.toNat_ofNat', id]
    omega
theorem txt_size (V : Nat) : (txt V).size = (low V).length := by rw [← nat8_length, nat8_txt, List.length_reverse]
theorem txt_numv (V : Nat) : numv (txt V) (txt V).size = V := by
  rw [numv_dec _ _ (Nat.le_refl _), nat8_txt, txt_size, List.take_of_length_le (by simp), List.reverse_reverse, dec_low]
theorem txt_num (V : Nat) : isNum (txt V) := by
  have hb : ∀ j, j < (low V).length → ∃ x ∈ low V, bt (txt V) j = x := fun j hj => by
    rw [bt_nat8, nat8_txt, List.getD_eq_getElem?_getD, List.getElem?_eq_getElem (by simpa using hj)]
    exact ⟨_, List.mem_reverse.1 (List.getElem_mem _), rfl⟩
  refine ⟨fun j hj => ?_, ?_⟩
  · rw [txt_size] at hj
    obtain ⟨x, hx, e⟩ := hb j hj
    rw [e]; exact low_digit hx
  · rw [txt_size]
    by_cases h : (low V).length = 1
    · exact .inl h
    · have := low_pos V
      refine .inr ⟨by omega, ?_⟩
      obtain ⟨x, h1, h2⟩ := low_last (low_one h)
      rw [bt_nat8, nat8_txt, List.getD_eq_getElem?_getD, ← List.head?_eq_getElem?, List.head?_reverse, h1]
      exact h2
theorem txt_back {s : ByteArray} (h : isNum s) : txt (numv s s.size) = s := by
  have hl := nat8_length s
  have hpos : 0 < s.size := by rcases h.2 with h | h <;> omega
  have e : low (numv s s.size) = (nat8 s).reverse := by
    rw [numv_dec _ _ (Nat.le_refl _), List.take_of_length_le (by omega)]
    refine low_dec (fun x hx => ?_) (fun e => ?_) ?_
    · obtain ⟨j, hj, rfl⟩ := List.mem_iff_getElem.1 (List.mem_reverse.1 hx)
      have := h.1 j (by omega)
      rw [bt_nat8, List.getD_eq_getElem?_getD, List.getElem?_eq_getElem hj] at this
      simpa using this
    · have := congrArg List.length e
      rw [List.length_reverse, hl, List.length_nil] at this; omega
    · rw [List.length_reverse, hl]
      rcases h.2 with h | h
      · exact .inl h
      · refine .inr ⟨bt s 0, ?_, h.2⟩
        rw [List.getLast?_reverse, List.head?_eq_getElem?, bt_nat8, List.getD_eq_getElem?_getD, List.getElem?_eq_getElem (by omega)]
        rfl
  unfold txt
  rw [e, List.reverse_reverse]
  unfold nat8
  rw [List.map_map]
  have : (UInt8.ofNat ∘ UInt8.toNat) = id := by funext x; simp
  rw [this, List.map_id]
theorem txt_zero : txt 0 = ⟨#[48]⟩ := by
  unfold txt
  rw [low]
  rfl

set_option maxHeartbeats 1000000 in
/-- Beyond, of one size -/
theorem beyond_one (W : World) (x : Nat) (hx : x < 9223372036854775808) (R : Bool) (hR : R = decide (1048576 < x)) :
    Calls Tryz.prog 26 #[.slice (some ⟨W.heap.size, 0, none⟩) 1 1] (W.alloc (.cells #[.int .i64 x] 3)) fun e w' => e = .returned (.bool R) ∧ Below W.heap.size W w' := by
  have hc : (W.alloc (.cells #[.int .i64 (x : Int)] 3)).cell? ⟨W.heap.size, 0, none⟩ = some (.int .i64 x) := by
    unfold World.cell?
    rw [World.alloc_heap_new]
    rfl
  obtain ⟨V, hV⟩ : ∃ V, V = W.alloc (.cells #[.int .i64 (x : Int)] 3) := ⟨_, rfl⟩
  obtain ⟨b, hb⟩ : ∃ b, b = W.heap.size := ⟨_, rfl⟩
  have HB : Hid (∀ n, Below b W (V.drewN n)) := Lib.hid fun n => by
    rw [hV, hb]
    exact ⟨rfl, rfl, rfl, by show W.heap.size ≤ (W.alloc _).heap.size; simp, fun k hk => Below.heap_alloc W _ k hk⟩
  rw [← hV, ← hb] at hc
  rw [← hV, ← hb]
  have HR := Lib.hid hR
  clear hV hb hR
  go_enter Tryz.func26, Tryz.ntmps26
  go_wp2
  go_loopw [3, 4] (fun y z wr => ((z = .int .i64 0 ∧ y = .int .i64 0) ∨ (z = .int .i64 1 ∧ y = .int .i64 x ∧ x ≤ 1048576)) ∧ ∃ n, wr = V.drewN n) (fun _ z _ => 1 - (intOf z).toNat)
  case atStart => exact ⟨.inl ⟨rfl, rfl⟩, 0, rfl⟩
  case round =>
    obtain ⟨h, n, rfl⟩ := hrel
    rcases h with ⟨rfl, rfl⟩ | ⟨rfl, rfl, hxl⟩
    · by_cases hq : 1048576 < (x : Int)
      · have h0 : R = true := by rw [HR.out]; simp; omega
        go_wp2
        go_ret
        exact ⟨by rw [h0]; rfl, HB.out n⟩
      · go_wp2
        go_roundw
        case rel => exact ⟨.inr ⟨by simp, by simp, by omega⟩, n, rfl⟩
        case measure => simp [intOf]
    · have h0 : R = false := by rw [HR.out]; simp; omega
      go_wp2
      go_ret
      exact ⟨by rw [h0]; rfl, HB.out n⟩

end Go.Proofs.YtmbnojkciikobaaGreatDoor
