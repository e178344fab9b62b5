/- Ledgers: names, and whether a tenant may be, as the program asks it. -/
import Derived.Test.YtegfjndlkjfepaaTkN
import Derived.Test.YtegfjndlkjfepaaLgM
namespace Go.Proofs.Ytegfjndlkjfepaa
open Go Go.Proofs Go.RowKit Go.Shelf
set_option linter.unusedVariables false
set_option maxRecDepth 100000

set_option maxHeartbeats 2000000 in
theorem lletter_any (c : UInt8) (w : World) : Calls Try.prog 52 #[.int .u8 (c.toNat : Int)] w fun e w' => e = .returned (.bool (Tk.letter c)) ∧ w = w' := by
  rw [letter_int]
  generalize (c.toNat : Int) = x
  go_enter Try.func52, Try.ntmps52
  go_wp2
  all_goals
    go_ret
    exact ⟨ret_bool (by simp_all <;> omega), rfl⟩
set_option maxHeartbeats 4000000 in
theorem lofname_any (c : UInt8) (w : World) : Calls Try.prog 54 #[.int .u8 (c.toNat : Int)] w fun e w' => e = .returned (.bool (Tk.ofWord c)) ∧ w = w' := by
  have k1 := fun W => lletter_any c W
  rw [word_int, digit_int]
  obtain ⟨a, ha⟩ : ∃ a, a = Tk.letter c := ⟨_, rfl⟩
  rw [← ha] at k1 ⊢
  clear ha
  generalize (c.toNat : Int) = x at *
  cases a <;>
  · go_enter Try.func54, Try.ntmps54
    go_wp2_with (go_at_call 52; refine (k1 _).mono ?_; rintro e w' ⟨rfl, rfl⟩)
    all_goals
      go_ret
      exact ⟨ret_bool (by simp_all <;> omega), rfl⟩
set_option maxHeartbeats 4000000 in
theorem llang_any (s : ByteArray) (w : World) : Calls Try.prog 53 #[.string s] w fun e w' => e = .returned (.bool (own8 s.data.toList)) ∧ w = w' := by
  go_enter Try.func53, Try.ntmps53
  go_wp2
  all_goals
    go_ret
    exact ⟨ret_bool (by simp_all [own8, Lib.toList_data]), rfl⟩
def within (n m : Int) : Bool := decide (1 ≤ n) && decide (n ≤ m)
set_option maxHeartbeats 2000000 in
theorem within_any (n m : Int) (w : World) : Calls Try.prog 50 #[.int .i64 n, .int .i64 m] w fun e w' => e = .returned (.bool (within n m)) ∧ w = w' := by
  unfold within
  go_enter Try.func50, Try.ntmps50
  go_wp2
  all_goals
    go_ret
    exact ⟨ret_bool (by simp_all <;> omega), rfl⟩
theorem run_short {p : UInt8 → Bool} {l : List UInt8} {k : Nat} {c : UInt8} (hc : l[k]? = some c) (hp : p c = false) : Tk.run p l ≠ l.length := fun e => by
  have h := Tk.run_take p l c (by rw [e, List.take_length]; exact List.mem_of_getElem? hc)
  rw [hp] at h; cases h
set_option maxHeartbeats 4000000 in
theorem lname_any (s : ByteArray) (w : World) : Calls Try.prog 49 #[.string s] w fun e w' => e = .returned (.bool (nameB s.data.toList)) ∧ w = w' := by
  have kw := fun W => within_any (s.size : Int) 32 W
  by_cases h0 : 1 ≤ s.size ∧ s.size ≤ 32
  · have hlt : 0 < s.size := by omega
    obtain ⟨t, ht⟩ := list_cons s hlt
    have hw : within (s.size : Int) 32 = true := by unfold within; simp; omega
    have k1 := fun W => lletter_any s[0] W
    have k2 := fun W => llang_any s W
    obtain ⟨b, hb⟩ : ∃ b, b = own8 s.data.toList := ⟨_, rfl⟩
    have e : nameB s.data.toList = ((wordN s.data.toList == s.size) && !b) := by
      unfold nameB
      rw [← size_list, hb, decide_eq_true h0.2, ht]; rfl
    rw [e]
    rw [hw] at kw
    rw [← hb] at k2
    clear hw hb e
    cases hc : Tk.letter s[0] with
    | false =>
      have e2 : wordN s.data.toList = 0 := by rw [ht]; simp [wordN, hc]
      rw [hc] at k1
      rw [e2, show ((0 : Nat) == s.size) = false by simp; omega]
      clear e2 ht hc
      go_enter Try.func49, Try.ntmps49
      go_wp2_with fail
      refine (kw _).mono ?_
      rintro e w1 ⟨rfl, rfl⟩
      go_wp2_with fail
      refine (k1 _).mono ?_
      rintro e w1 ⟨rfl, rfl⟩
      go_wp2
      go_ret
      exact ⟨rfl, rfl⟩
    | true =>
      have e2 : wordN s.data.toList = Tk.run Tk.ofWord s.data.toList := by rw [ht]; simp only [wordN, hc, if_true]
      rw [hc] at k1
      rw [e2]
      clear e2 ht hc
      cases b with
      | true =>
        rw [Bool.not_true, Bool.and_false]
        go_enter Try.func49, Try.ntmps49
        go_wp2_with fail
        refine (kw _).mono ?_
        rintro e w1 ⟨rfl, rfl⟩
        go_wp2_with fail
        refine (k1 _).mono ?_
        rintro e w1 ⟨rfl, rfl⟩
        go_wp2_with fail
        refine (k2 _).mono ?_
        rintro e w1 ⟨rfl, rfl⟩
        go_wp2
        go_ret
        exact ⟨rfl, rfl⟩
      | false =>
        rw [Bool.not_false, Bool.and_true]
        go_enter Try.func49, Try.ntmps49
        go_wp2_with fail
        refine (kw _).mono ?_
        rintro e w1 ⟨rfl, rfl⟩
        go_wp2_with fail
        refine (k1 _).mono ?_
        rintro e w1 ⟨rfl, rfl⟩
        go_wp2_with fail
        refine (k2 _).mono ?_
        rintro e w1 ⟨rfl, rfl⟩
        clear k1 k2 kw
        go_wp2
        go_loop [20] (fun x => ∃ k : Nat, k ≤ s.size ∧ x = .int .i64 k ∧ Hid (∀ d ∈ s.data.toList.take k, Tk.ofWord d = true)) (fun x => s.size - (intOf x).toNat)
        case atStart => exact ⟨0, Nat.zero_le _, rfl, Lib.hid fun d hd => by simp at hd⟩
        case round =>
          obtain ⟨k, hk, rfl, hd⟩ := hrel
          by_cases hlt : k < s.size
          · have HC := Lib.hid (get_list s k hlt)
            have k1 := fun W => lofname_any s[k] W
            cases hb : Tk.ofWord s[k] with
            | true =>
              have HB := Lib.hid hb
              rw [hb] at k1
              clear hb
              go_wp2_with fail
              refine (k1 _).mono ?_
              rintro e w1 ⟨rfl, rfl⟩
              go_wp2
              go_round
              case rel => exact ⟨k + 1, by omega, by go_num, Lib.hid (run_next _ k _ hd.out HC.out HB.out)⟩
              case measure => simp [intOf]; omega
            | false =>
              have HB := Lib.hid hb
              rw [hb] at k1
              clear hb
              go_wp2_with fail
              refine (k1 _).mono ?_
              rintro e w1 ⟨rfl, rfl⟩
              go_wp2
              go_ret
              exact ⟨ret_bool (by rw [size_list]; have := run_short HC.out HB.out; simp only [beq_eq_false_iff_ne.2 this]), rfl⟩
          · obtain rfl : k = s.size := by omega
            go_wp2
            go_ret
            exact ⟨ret_bool (by rw [run_full _ (by rw [← size_list]; exact hd.out), size_list]; simp), rfl⟩
  · have hw : within (s.size : Int) 32 = false := by
      unfold within
      cases h : (decide (1 ≤ (s.size : Int)) && decide ((s.size : Int) ≤ 32))
      · rfl
      · simp at h; omega
    have e : nameB s.data.toList = false := by
      unfold nameB
      rw [← size_list]
      by_cases h : s.size ≤ 32
      · obtain rfl := bytes_empty s (by omega)
        rfl
      · rw [decide_eq_false h]; simp
    rw [e]
    rw [hw] at kw
    clear hw e h0
    go_enter Try.func49, Try.ntmps49
    go_wp2_with fail
    refine (kw _).mono ?_
    rintro e w1 ⟨rfl, rfl⟩
    go_wp2
    go_ret
    exact ⟨rfl, rfl⟩
/-- may a tenant be, alone? -/
def tenB (t : Ten) : Bool := nameB t.n.data.toList && within (t.k.size : Int) 64 && within t.r 1073741824
set_option maxHeartbeats 4000000 in
theorem tmay_any (t : Ten) (w : World) : Calls Try.prog 43 #[.agg #[.string t.n, .string t.k, .int .i64 t.r]] w fun e w' => e = .returned (.bool (tenB t)) ∧ Below w.heap.size w w' := by
  obtain ⟨n, k, r⟩ := t
  have k1 := fun W => lname_any n W
  have k2 := fun W => within_any (k.size : Int) 64 W
  have k3 := fun W => within_any r 1073741824 W
  unfold tenB
  obtain ⟨a, ha⟩ : ∃ a, a = nameB n.data.toList := ⟨_, rfl⟩
  obtain ⟨b, hb⟩ : ∃ b, b = within (k.size : Int) 64 := ⟨_, rfl⟩
  obtain ⟨c, hc⟩ : ∃ c, c = within r 1073741824 := ⟨_, rfl⟩
  rw [← ha] at k1
  rw [← hb] at k2
  rw [← hc] at k3
  show Calls Try.prog 43 #[.agg #[.string n, .string k, .int .i64 r]] w fun e w' => e = .returned (.bool (nameB n.data.toList && within (k.size : Int) 64 && within r 1073741824)) ∧ Below w.heap.size w w'
  rw [← ha, ← hb, ← hc]
  clear ha hb hc
  go_enter Try.func43, Try.ntmps43
  cases a with
  | false =>
    go_wp2_with fail
    refine (k1 _).mono ?_
    rintro e w1 ⟨rfl, rfl⟩
    go_wp2
    go_ret
    exact ⟨rfl, (Below.refl _ _).alloc (Nat.le_refl _) _⟩
  | true =>
    go_wp2_with fail
    refine (k1 _).mono ?_
    rintro e w1 ⟨rfl, rfl⟩
    cases b with
    | false =>
      go_wp2_with fail
      refine (k2 _).mono ?_
      rintro e w1 ⟨rfl, rfl⟩
      go_wp2
      go_ret
      exact ⟨rfl, (Below.refl _ _).alloc (Nat.le_refl _) _⟩
    | true =>
      go_wp2_with fail
      refine (k2 _).mono ?_
      rintro e w1 ⟨rfl, rfl⟩
      go_wp2_with fail
      refine (k3 _).mono ?_
      rintro e w1 ⟨rfl, rfl⟩
      go_wp2
      go_ret
      exact ⟨ret_bool (by simp), (Below.refl _ _).alloc (Nat.le_refl _) _⟩
end Go.Proofs.Ytegfjndlkjfepaa
