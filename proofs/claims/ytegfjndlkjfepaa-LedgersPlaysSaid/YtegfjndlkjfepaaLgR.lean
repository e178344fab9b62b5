/- Ledgers: the document's ledger: names, may tenants be. -/
import Derived.Test.YtegfjndlkjfepaaLgD3
import Derived.MakeChecks
import Derived.Laws.MakeOwn
namespace Go.Proofs.Ytegfjndlkjfepaa
open Go Go.Proofs Go.RowKit Go.Shelf
set_option linter.unusedVariables false
set_option linter.unusedSimpArgs false
set_option maxRecDepth 100000

attribute [local go_sem] Oper.semAt_some
def words8 : List ByteArray := [⟨#[109, 111, 115, 116]⟩, ⟨#[108, 101, 97, 115, 116]⟩, ⟨#[115, 117, 109]⟩, ⟨#[114, 111, 119, 115]⟩, ⟨#[118, 97, 114, 115]⟩, ⟨#[119, 104, 111, 108, 101]⟩, ⟨#[102, 114, 101, 101]⟩, ⟨#[101, 110, 100]⟩]
theorem own8_words (s : ByteArray) : own8 s.data.toList = words8.any fun x => decide (x = s) := by
  have key : ∀ x : ByteArray, (s.data.toList == x.data.toList) = decide (x = s) := fun x => by
    rw [Bool.eq_iff_iff]
    simp only [beq_iff_eq, decide_eq_true_eq]
    constructor
    · intro h; apply ByteArray.ext; exact (Array.toList_inj.1 h).symm
    · rintro rfl; rfl
  unfold own8 words8
  simp only [List.any_cons, List.any_nil, Bool.or_false, ← key]
  simp only [Bool.or_assoc]
/-- a byte that no name has at this place -/
def oddAt (c : UInt8) (first : Bool) : Bool := !Tk.letter c && (first || !Tk.ofWord c)
def rnameB (l : List UInt8) : Bool := !own8 l && ((List.range l.length).all fun i => match l[i]? with | some c => !oddAt c (i == 0) | none => true) && !l.isEmpty && decide (l.length ≤ 32)
theorem ofWord_letter {c : UInt8} (h : Tk.letter c = true) : Tk.ofWord c = true := by unfold Tk.ofWord; rw [h]; rfl
theorem rname_same (l : List UInt8) : rnameB l = nameB l := by
  cases l with
  | nil => rfl
  | cons c t =>
    have key : ((List.range (c :: t).length).all fun i => match (c :: t)[i]? with | some c => !oddAt c (i == 0) | none => true) = (wordN (c :: t) == (c :: t).length) := by
      rw [Bool.eq_iff_iff]
      simp only [List.all_eq_true, List.mem_range, beq_iff_eq]
      constructor
      · intro h
        have h0 := h 0 (by simp)
        simp only [List.getElem?_cons_zero, oddAt, beq_self_eq_true, Bool.true_or, Bool.and_true, Bool.not_not] at h0
        show (if Tk.letter c = true then Tk.run Tk.ofWord (c :: t) else 0) = (c :: t).length
        rw [if_pos h0]
        refine Tk.run_all _ _ fun d hd => ?_
        obtain ⟨i, hi⟩ := List.getElem?_of_mem hd
        have hl := (List.getElem?_eq_some_iff.1 hi).1
        have h1 := h i hl
        rw [hi] at h1
        cases hL : Tk.letter d with
        | true => exact ofWord_letter hL
        | false =>
          by_cases h2 : i = 0
          · subst h2
            simp at hi
            rw [← hi, h0] at hL
            cases hL
          · have : (i == 0) = false := by simp [h2]
            simpa [oddAt, hL, this] using h1
      · intro h i hi
        obtain ⟨d, hd⟩ : ∃ d, (c :: t)[i]? = some d := ⟨_, List.getElem?_eq_getElem hi⟩
        rw [hd]
        have hc : Tk.letter c = true := by
          cases hL : Tk.letter c with
          | true => rfl
          | false =>
            have : wordN (c :: t) = 0 := by show (if Tk.letter c = true then Tk.run Tk.ofWord (c :: t) else 0) = 0; rw [hL]; rfl
            rw [this] at h
            simp at h
        have hr : Tk.run Tk.ofWord (c :: t) = (c :: t).length := by
          have : wordN (c :: t) = Tk.run Tk.ofWord (c :: t) := by show (if Tk.letter c = true then Tk.run Tk.ofWord (c :: t) else 0) = _; rw [if_pos hc]
          rw [← this]; exact h
        have hw : Tk.ofWord d = true := Tk.run_take Tk.ofWord (c :: t) d (by rw [hr, List.take_length]; exact List.mem_of_getElem? hd)
        by_cases h2 : i = 0
        · subst h2
          simp at hd
          subst hd
          simp [oddAt, hc]
        · have : (i == 0) = false := by simp [h2]
          simp [oddAt, this, hw]
    unfold rnameB nameB
    rw [key]
    cases own8 (c :: t) <;> cases (wordN (c :: t) == (c :: t).length) <;> simp
theorem rname_odd {l : List UInt8} {k : Nat} {c : UInt8} (hc : l[k]? = some c) (h : oddAt c (k == 0) = true) : rnameB l = false := by
  unfold rnameB
  have hk := (List.getElem?_eq_some_iff.1 hc).1
  have : ((List.range l.length).all fun i => match l[i]? with | some c => !oddAt c (i == 0) | none => true) = false := by
    rw [List.all_eq_false]
    exact ⟨k, by simpa using hk, by rw [hc]; simp [h]⟩
  rw [this]
  simp
theorem odd_next {l : List UInt8} {k : Nat} {c : UInt8} (hd : ∀ (j : Nat) (d : UInt8), j < k → l[j]? = some d → oddAt d (j == 0) = false) (hc : l[k]? = some c) (h : oddAt c (k == 0) = false) : ∀ (j : Nat) (d : UInt8), j < k + 1 → l[j]? = some d → oddAt d (j == 0) = false := by
  intro j d hj hd'
  by_cases e : j = k
  · subst e
    rw [hc] at hd'
    cases hd'
    exact h
  · exact hd j d (by omega) hd'
theorem words_cell (w : World) (k : Nat) (x : ByteArray) (h : words8[k]? = some x) : (w.alloc (.cells (words8.map Value.string).toArray 9)).cell? ⟨w.heap.size, k, none⟩ = some (.string x) := by
  rw [al_cell]
  simp [h]
set_option maxHeartbeats 8000000 in
/-- the document's names -/
theorem rname_any (s : ByteArray) (w : World) (hs0 : s.size ≤ maxLen) : Calls Try.prog 46 #[.string s] w fun e w' => e = .returned (.bool (rnameB s.data.toList)) ∧ Below w.heap.size w w' := by
  have hs : s.size ≤ 9223372036854775807 := hs0
  clear hs0
  obtain ⟨W1, hW1⟩ : ∃ W1, W1 = w.alloc (.cells (words8.map Value.string).toArray 9) := ⟨_, rfl⟩
  have HB := Lib.hid (show Below w.heap.size w W1 by rw [hW1]; exact alloc_below w _)
  have HC8 := Lib.hid (show ∀ (k : Nat) (x : ByteArray), words8[k]? = some x → W1.cell? ⟨w.heap.size, k, none⟩ = some (.string x) by rw [hW1]; exact words_cell w)
  have hs1 : w.heap.size < W1.heap.size := by rw [hW1]; simp
  have k0 : ((0 : Nat) : Int) = 0 := rfl
  go_enter Try.func46, Try.ntmps46
  go_wp2
  rw [show w.alloc (.cells #[.string ⟨#[109, 111, 115, 116]⟩, .string ⟨#[108, 101, 97, 115, 116]⟩, .string ⟨#[115, 117, 109]⟩, .string ⟨#[114, 111, 119, 115]⟩, .string ⟨#[118, 97, 114, 115]⟩, .string ⟨#[119, 104, 111, 108, 101]⟩, .string ⟨#[102, 114, 101, 101]⟩, .string ⟨#[101, 110, 100]⟩] 9) = W1 from hW1.symm]
  clear hW1
  go_loopg [4] 8 (fun g s4 wr => ∃ k : Nat, k + g = 8 ∧ s4 = .int .i64 (k : Int) ∧ Hid (∀ (j : Nat) (x : ByteArray), j < k → words8[j]? = some x → x ≠ s) ∧ Hid (Below W1.heap.size W1 wr))
  case atStart => exact ⟨0, by omega, rfl, Lib.hid fun j x hj => by omega, Lib.hid (Below.refl _ _)⟩
  case round =>
    clear k0
    obtain ⟨k, hk, rfl, HNO, HW⟩ := hrel
    by_cases hlt : k < 8
    · obtain ⟨x, hx⟩ : ∃ x, words8[k]? = some x := ⟨_, List.getElem?_eq_getElem (by show k < 8; exact hlt)⟩
      have c0 : wr.cell? ⟨w.heap.size, k, none⟩ = some (.string x) := (HW.out.cell (p := ⟨w.heap.size, k, none⟩) hs1).trans (HC8.out k x hx)
      have n0 : (0 : Int) ≤ (k : Int) := by omega
      have n1 : (k : Int) < 8 := by omega
      have w2 : IntKind.i64.wrap ((k : Int) + 1) = ((k + 1 : Nat) : Int) := IntWalk.i64_in _ (by omega)
      have hst := str_eq x s
      have HX := Lib.hid hx
      clear hx
      by_cases hq : x = s
      · have HQ := Lib.hid hq
        rw [decide_eq_true hq] at hst
        have hq2 := decide_eq_true hq
        clear hq
        go_wp2
        go_ret
        refine ⟨ret_bool ?_, HB.out.trans (HW.out.mono HB.out.size)⟩
        have e8 : own8 s.data.toList = true := by
          rw [own8_words, List.any_eq_true]
          exact ⟨x, List.mem_of_getElem? HX.out, decide_eq_true HQ.out⟩
        unfold rnameB
        rw [e8]
        rfl
      · have HQ := Lib.hid hq
        rw [decide_eq_false hq] at hst
        have hq2 := decide_eq_false hq
        clear hq
        go_wp2
        go_roundg (8 - (k + 1))
        case measure => omega
        case rel =>
          refine ⟨k + 1, by omega, by first | rfl | simp, Lib.hid fun j y hj hy => ?_, HW⟩
          by_cases hjk : j = k
          · subst hjk
            rw [HX.out] at hy
            cases hy
            exact HQ.out
          · exact HNO.out j y (by omega) hy
    · have n1 : ¬ (k : Int) < 8 := by omega
      have HE8 := Lib.hid (show own8 s.data.toList = false by
        rw [own8_words, List.any_eq_false]
        intro x hx
        obtain ⟨j, hj⟩ := List.getElem?_of_mem hx
        have hl : j < 8 := (List.getElem?_eq_some_iff.1 hj).1
        simpa using HNO.out j x (by omega) hj)
      have HBW := Lib.hid (HB.out.trans (HW.out.mono HB.out.size))
      clear HNO HW HC8 hs1 HB
      have k0 : ((0 : Nat) : Int) = 0 := rfl
      obtain ⟨V1, hV1⟩ : ∃ V1, V1 = wr := ⟨_, rfl⟩
      have HV1 := Lib.hid hV1
      clear hV1
      go_wp2
      go_loopg [5] s.size (fun g s5 wr => ∃ k : Nat, k + g = s.size ∧ s5 = .int .i64 (k : Int) ∧ Hid (∀ (j : Nat) (d : UInt8), j < k → s.data.toList[j]? = some d → oddAt d (j == 0) = false) ∧ Hid (Below w.heap.size w wr))
      case atStart => exact ⟨0, by omega, rfl, Lib.hid fun j x hj => by omega, HBW⟩
      case round =>
        clear k0
        obtain ⟨k, hk, rfl, HD, HW⟩ := hrel
        by_cases hlt : k < s.size
        case neg =>
          have n1 : ¬ (k : Int) < (s.size : Int) := by omega
          have HALL := Lib.hid (show rnameB s.data.toList = (!s.data.toList.isEmpty && decide (s.size ≤ 32)) by
            unfold rnameB
            rw [HE8.out, ← size_list]
            have : ((List.range s.size).all fun i => match s.data.toList[i]? with | some c => !oddAt c (i == 0) | none => true) = true := by
              rw [List.all_eq_true]
              intro j hj
              simp only [List.mem_range] at hj
              rw [get_list s j hj]
              simp [HD.out j _ (by omega) (get_list s j hj)]
            rw [this]
            simp)
          by_cases h0 : s.size = 0
          · obtain rfl := bytes_empty s h0
            go_wp2
            go_ret
            exact ⟨ret_bool (by rw [HALL.out]; rfl), HW.out⟩
          · obtain ⟨t, ht⟩ := list_cons s (by omega)
            have hne : (s.toList == ([] : List UInt8)) = false := by rw [Lib.toList_data, ht]; rfl
            have hne1 : s.toList.isEmpty = false := by rw [Lib.toList_data, ht]; rfl
            have hne2 : ¬ s.toList = [] := by rw [Lib.toList_data, ht]; simp
            have hne3 : ¬ s = ⟨#[]⟩ := by rintro rfl; exact h0 rfl
            have HI := Lib.hid (show s.data.toList.isEmpty = false by rw [ht]; rfl)
            clear ht h0
            go_wp2
            go_ret
            exact ⟨ret_bool (by rw [HALL.out, HI.out]; simp; omega), HW.out⟩
        obtain ⟨c, hc0⟩ : ∃ c, s.data.toList[k]? = some c := ⟨_, get_list s k hlt⟩
        have hcs : s[k] = c := by have := get_list s k hlt; rw [hc0] at this; exact (Option.some.inj this).symm
        have HC := Lib.hid hc0
        obtain ⟨z, hz⟩ : ∃ z, z = (c.toNat : Int) := ⟨_, rfl⟩
        have HZ := Lib.hid hz
        have hcz : ((s[k]).toNat : Int) = z := by rw [hcs, hz]
        have n0 : (0 : Int) ≤ (k : Int) := by omega
        have n1 : (k : Int) < (s.size : Int) := by omega
        have w2 : IntKind.i64.wrap ((k : Int) + 1) = ((k + 1 : Nat) : Int) := IntWalk.i64_in _ (by omega)
        have z0 : 0 ≤ z := by omega
        clear hc0 hz hcs
        by_cases i0 : z < 48
        case pos =>
          have f97 : ¬ (97 : Int) ≤ z := by omega
          have f122 : z ≤ (122 : Int) := by omega
          have f65 : ¬ (65 : Int) ≤ z := by omega
          have f90 : z ≤ (90 : Int) := by omega
          have f48 : z < (48 : Int) := by omega
          have f57 : ¬ (57 : Int) < z := by omega
          have f95 : (z == 95) = false := by simp; omega
          have g95 : (z != 95) = true := by simp; omega
          have hl := Lib.hid (show Tk.letter c = false from by rw [letter_int, ← HZ.out]; simp; omega)
          have hw := Lib.hid (show Tk.ofWord c = false from by rw [word_int, digit_int, ← HZ.out]; have hlz := hl.out; rw [letter_int, ← HZ.out] at hlz; simp [letter_int, ← HZ.out]; omega)
          by_cases h0 : k = 0
          · subst h0
            go_wp2
            go_ret
            exact ⟨ret_bool (rname_odd HC.out (by unfold oddAt; rw [hl.out]; rfl)).symm, HW.out⟩
          · have e0 : ((k : Int) == 0) = false := by simp; omega
            have e1 : ¬ (k : Int) = 0 := by omega
            go_wp2
            go_ret
            exact ⟨ret_bool (rname_odd HC.out (by unfold oddAt; rw [hl.out, hw.out]; simp)).symm, HW.out⟩
        by_cases i1 : 48 ≤ z ∧ z ≤ 57
        case pos =>
          have f97 : ¬ (97 : Int) ≤ z := by omega
          have f122 : z ≤ (122 : Int) := by omega
          have f65 : ¬ (65 : Int) ≤ z := by omega
          have f90 : z ≤ (90 : Int) := by omega
          have f48 : ¬ z < (48 : Int) := by omega
          have f57 : ¬ (57 : Int) < z := by omega
          have f95 : (z == 95) = false := by simp; omega
          have g95 : (z != 95) = true := by simp; omega
          have hl := Lib.hid (show Tk.letter c = false from by rw [letter_int, ← HZ.out]; simp; omega)
          have hw := Lib.hid (show Tk.ofWord c = true from by rw [word_int, digit_int, ← HZ.out]; simp; omega)
          by_cases h0 : k = 0
          · subst h0
            go_wp2
            go_ret
            exact ⟨ret_bool (rname_odd HC.out (by unfold oddAt; rw [hl.out]; rfl)).symm, HW.out⟩
          · have e0 : ((k : Int) == 0) = false := by simp; omega
            have e1 : ¬ (k : Int) = 0 := by omega
            go_wp2
            go_roundg (s.size - (k + 1))
            case measure => omega
            case rel => exact ⟨k + 1, by omega, by first | rfl | simp, Lib.hid (odd_next HD.out HC.out (by unfold oddAt; rw [hl.out, hw.out, show (k == 0) = false by simp [h0]]; rfl)), HW⟩
        by_cases i2 : 58 ≤ z ∧ z ≤ 64
        case pos =>
          have f97 : ¬ (97 : Int) ≤ z := by omega
          have f122 : z ≤ (122 : Int) := by omega
          have f65 : ¬ (65 : Int) ≤ z := by omega
          have f90 : z ≤ (90 : Int) := by omega
          have f48 : ¬ z < (48 : Int) := by omega
          have f57 : (57 : Int) < z := by omega
          have f95 : (z == 95) = false := by simp; omega
          have g95 : (z != 95) = true := by simp; omega
          have hl := Lib.hid (show Tk.letter c = false from by rw [letter_int, ← HZ.out]; simp; omega)
          have hw := Lib.hid (show Tk.ofWord c = false from by rw [word_int, digit_int, ← HZ.out]; have hlz := hl.out; rw [letter_int, ← HZ.out] at hlz; simp [letter_int, ← HZ.out]; omega)
          by_cases h0 : k = 0
          · subst h0
            go_wp2
            go_ret
            exact ⟨ret_bool (rname_odd HC.out (by unfold oddAt; rw [hl.out]; rfl)).symm, HW.out⟩
          · have e0 : ((k : Int) == 0) = false := by simp; omega
            have e1 : ¬ (k : Int) = 0 := by omega
            go_wp2
            go_ret
            exact ⟨ret_bool (rname_odd HC.out (by unfold oddAt; rw [hl.out, hw.out]; simp)).symm, HW.out⟩
        by_cases i3 : 65 ≤ z ∧ z ≤ 90
        case pos =>
          have f97 : ¬ (97 : Int) ≤ z := by omega
          have f122 : z ≤ (122 : Int) := by omega
          have f65 : (65 : Int) ≤ z := by omega
          have f90 : z ≤ (90 : Int) := by omega
          have f48 : ¬ z < (48 : Int) := by omega
          have f57 : (57 : Int) < z := by omega
          have f95 : (z == 95) = false := by simp; omega
          have g95 : (z != 95) = true := by simp; omega
          have hl := Lib.hid (show Tk.letter c = true from by rw [letter_int, ← HZ.out]; simp; omega)
          go_wp2
          go_roundg (s.size - (k + 1))
          case measure => omega
          case rel => exact ⟨k + 1, by omega, by first | rfl | simp, Lib.hid (odd_next HD.out HC.out (by unfold oddAt; rw [hl.out]; rfl)), HW⟩
        by_cases i4 : 91 ≤ z ∧ z ≤ 94
        case pos =>
          have f97 : ¬ (97 : Int) ≤ z := by omega
          have f122 : z ≤ (122 : Int) := by omega
          have f65 : (65 : Int) ≤ z := by omega
          have f90 : ¬ z ≤ (90 : Int) := by omega
          have f48 : ¬ z < (48 : Int) := by omega
          have f57 : (57 : Int) < z := by omega
          have f95 : (z == 95) = false := by simp; omega
          have g95 : (z != 95) = true := by simp; omega
          have hl := Lib.hid (show Tk.letter c = false from by rw [letter_int, ← HZ.out]; simp; omega)
          have hw := Lib.hid (show Tk.ofWord c = false from by rw [word_int, digit_int, ← HZ.out]; have hlz := hl.out; rw [letter_int, ← HZ.out] at hlz; simp [letter_int, ← HZ.out]; omega)
          by_cases h0 : k = 0
          · subst h0
            go_wp2
            go_ret
            exact ⟨ret_bool (rname_odd HC.out (by unfold oddAt; rw [hl.out]; rfl)).symm, HW.out⟩
          · have e0 : ((k : Int) == 0) = false := by simp; omega
            have e1 : ¬ (k : Int) = 0 := by omega
            go_wp2
            go_ret
            exact ⟨ret_bool (rname_odd HC.out (by unfold oddAt; rw [hl.out, hw.out]; simp)).symm, HW.out⟩
        by_cases i5 : z = 95
        case pos =>
          have f97 : ¬ (97 : Int) ≤ z := by omega
          have f122 : z ≤ (122 : Int) := by omega
          have f65 : (65 : Int) ≤ z := by omega
          have f90 : ¬ z ≤ (90 : Int) := by omega
          have f48 : ¬ z < (48 : Int) := by omega
          have f57 : (57 : Int) < z := by omega
          have f95 : (z == 95) = true := by simp; omega
          have g95 : (z != 95) = false := by simp; omega
          have hl := Lib.hid (show Tk.letter c = false from by rw [letter_int, ← HZ.out]; simp; omega)
          have hw := Lib.hid (show Tk.ofWord c = true from by rw [word_int, digit_int, ← HZ.out]; simp; omega)
          by_cases h0 : k = 0
          · subst h0
            go_wp2
            go_ret
            exact ⟨ret_bool (rname_odd HC.out (by unfold oddAt; rw [hl.out]; rfl)).symm, HW.out⟩
          · have e0 : ((k : Int) == 0) = false := by simp; omega
            have e1 : ¬ (k : Int) = 0 := by omega
            go_wp2
            go_roundg (s.size - (k + 1))
            case measure => omega
            case rel => exact ⟨k + 1, by omega, by first | rfl | simp, Lib.hid (odd_next HD.out HC.out (by unfold oddAt; rw [hl.out, hw.out, show (k == 0) = false by simp [h0]]; rfl)), HW⟩
        by_cases i6 : z = 96
        case pos =>
          have f97 : ¬ (97 : Int) ≤ z := by omega
          have f122 : z ≤ (122 : Int) := by omega
          have f65 : (65 : Int) ≤ z := by omega
          have f90 : ¬ z ≤ (90 : Int) := by omega
          have f48 : ¬ z < (48 : Int) := by omega
          have f57 : (57 : Int) < z := by omega
          have f95 : (z == 95) = false := by simp; omega
          have g95 : (z != 95) = true := by simp; omega
          have hl := Lib.hid (show Tk.letter c = false from by rw [letter_int, ← HZ.out]; simp; omega)
          have hw := Lib.hid (show Tk.ofWord c = false from by rw [word_int, digit_int, ← HZ.out]; have hlz := hl.out; rw [letter_int, ← HZ.out] at hlz; simp [letter_int, ← HZ.out]; omega)
          by_cases h0 : k = 0
          · subst h0
            go_wp2
            go_ret
            exact ⟨ret_bool (rname_odd HC.out (by unfold oddAt; rw [hl.out]; rfl)).symm, HW.out⟩
          · have e0 : ((k : Int) == 0) = false := by simp; omega
            have e1 : ¬ (k : Int) = 0 := by omega
            go_wp2
            go_ret
            exact ⟨ret_bool (rname_odd HC.out (by unfold oddAt; rw [hl.out, hw.out]; simp)).symm, HW.out⟩
        by_cases i7 : 97 ≤ z ∧ z ≤ 122
        case pos =>
          have f97 : (97 : Int) ≤ z := by omega
          have f122 : z ≤ (122 : Int) := by omega
          have f65 : (65 : Int) ≤ z := by omega
          have f90 : ¬ z ≤ (90 : Int) := by omega
          have f48 : ¬ z < (48 : Int) := by omega
          have f57 : (57 : Int) < z := by omega
          have f95 : (z == 95) = false := by simp; omega
          have g95 : (z != 95) = true := by simp; omega
          have hl := Lib.hid (show Tk.letter c = true from by rw [letter_int, ← HZ.out]; simp; omega)
          go_wp2
          go_roundg (s.size - (k + 1))
          case measure => omega
          case rel => exact ⟨k + 1, by omega, by first | rfl | simp, Lib.hid (odd_next HD.out HC.out (by unfold oddAt; rw [hl.out]; rfl)), HW⟩
        have f97 : (97 : Int) ≤ z := by omega
        have f122 : ¬ z ≤ (122 : Int) := by omega
        have f65 : (65 : Int) ≤ z := by omega
        have f90 : ¬ z ≤ (90 : Int) := by omega
        have f48 : ¬ z < (48 : Int) := by omega
        have f57 : (57 : Int) < z := by omega
        have f95 : (z == 95) = false := by simp; omega
        have g95 : (z != 95) = true := by simp; omega
        have hl := Lib.hid (show Tk.letter c = false from by rw [letter_int, ← HZ.out]; simp; omega)
        have hw := Lib.hid (show Tk.ofWord c = false from by rw [word_int, digit_int, ← HZ.out]; have hlz := hl.out; rw [letter_int, ← HZ.out] at hlz; simp [letter_int, ← HZ.out]; omega)
        by_cases h0 : k = 0
        · subst h0
          go_wp2
          go_ret
          exact ⟨ret_bool (rname_odd HC.out (by unfold oddAt; rw [hl.out]; rfl)).symm, HW.out⟩
        · have e0 : ((k : Int) == 0) = false := by simp; omega
          have e1 : ¬ (k : Int) = 0 := by omega
          go_wp2
          go_ret
          exact ⟨ret_bool (rname_odd HC.out (by unfold oddAt; rw [hl.out, hw.out]; simp)).symm, HW.out⟩
end Go.Proofs.Ytegfjndlkjfepaa
