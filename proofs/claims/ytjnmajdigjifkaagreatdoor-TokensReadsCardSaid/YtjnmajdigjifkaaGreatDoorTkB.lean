/- Tokens: how many bytes of a word, of a number, of signs a text begins with. -/
import Derived.Test.YtjnmajdigjifkaaGreatDoorTkA
import Derived.Lib.Strings
import Derived.Lib.Walk
import Derived.Laws.Strings3
import Derived.Laws.Rows
import Derived.Below
namespace Go.Proofs.YtjnmajdigjifkaaGreatDoor
open Go Go.Proofs Go.RowKit Go.Shelf

set_option maxHeartbeats 1000000 in
theorem lhp_any (s p : ByteArray) (w : World) :
    Calls Tryz.prog 92 #[.string s, .string p] w fun e w' => e = .returned (.bool (Lib.hasPrefix s.data.toList p.data.toList)) ∧ w = w' := by
  rw [← Lib.hasPrefix_of_take, ← Lib.size_eq, ← Lib.size_eq]
  go_enter Tryz.func92, Tryz.ntmps92
  go_wp2
  · rename_i h
    go_ret
    refine ⟨?_, rfl⟩
    show Ending.returned (Value.bool ((s.extract 0 p.size).toList == p.toList)) = _
    rw [Lib.extract_toList, Lib.toList_data]
    simp [h]
  · rename_i h
    go_ret
    refine ⟨?_, rfl⟩
    show Ending.returned (Value.bool false) = _
    simp [h]
theorem hp_any (s p : ByteArray) (w : World) :
    Calls Tryz.prog 86 #[.string s, .string p] w fun e w' => e = .returned (.bool (Lib.hasPrefix s.data.toList p.data.toList)) ∧ w = w' := by
  have k := fun W => lhp_any s p W
  go_enter Tryz.func86, Tryz.ntmps86
  go_wp2_with (go_at_call 92; refine (k _).mono ?_; rintro e w' ⟨rfl, rfl⟩)
  go_ret
  exact ⟨rfl, rfl⟩
theorem hp_is (s p : ByteArray) (w : World) {b : Bool} (h : Lib.hasPrefix s.data.toList p.data.toList = b) :
    Calls Tryz.prog 86 #[.string s, .string p] w fun e w' => e = .returned (.bool b) ∧ w = w' := by
  have := hp_any s p w
  rwa [h] at this

theorem blankSize_any (s : ByteArray) (w : World) (hs : s.size ≤ 1000000) : Calls Tryz.prog 51 #[.string s] w fun e w' => e = .returned (.int .i64 (Tk.run Tk.blank s.data.toList : Nat)) ∧ w = w' := by
  have k := fun W => run_blank s W hs
  go_enter Tryz.func51, Tryz.ntmps51
  go_wp2_with (go_at_call 84; refine (k _).mono ?_; rintro e w' ⟨rfl, rfl⟩)
  go_ret
  exact ⟨rfl, rfl⟩

/-- a word's bytes -/
def wordN : List UInt8 → Nat
  | [] => 0
  | c :: l => if Tk.letter c then Tk.run Tk.ofWord (c :: l) else 0
theorem list_cons (s : ByteArray) (h : 0 < s.size) : ∃ l, s.data.toList = s[0] :: l := by
  have := get_list s 0 h
  cases hl : s.data.toList with
  | nil => rw [hl] at this; cases this
  | cons c l => rw [hl] at this; simp at this; exact ⟨l, by rw [this]⟩
set_option maxHeartbeats 1000000 in
theorem wordSize_any (s : ByteArray) (w : World) (hs : s.size ≤ 1000000) : Calls Tryz.prog 53 #[.string s] w fun e w' => e = .returned (.int .i64 (wordN s.data.toList : Nat)) ∧ w = w' := by
  by_cases h0 : s.size = 0
  · have e : s = ⟨#[]⟩ := by apply ByteArray.ext; exact Array.eq_empty_of_size_eq_zero h0
    subst e
    go_enter Tryz.func53, Tryz.ntmps53
    go_wp2
    go_ret
    exact ⟨rfl, rfl⟩
  · have hlt : 0 < s.size := by omega
    obtain ⟨l, hl⟩ := list_cons s hlt
    have k2 := fun W => run_word s W hs
    have hne : (s.toList == ([] : List UInt8)) = false := by rw [Lib.toList_data, hl]; rfl
    have hne1 : s.toList.isEmpty = false := by rw [Lib.toList_data, hl]; rfl
    have hne2 : ¬ s.toList = [] := by rw [Lib.toList_data, hl]; simp
    have hne3 : ¬ s = ⟨#[]⟩ := by rintro rfl; exact h0 rfl
    have k1 := fun W => isLetter_any s[0] W
    clear h0
    cases hc : Tk.letter s[0] with
    | true =>
      have e : wordN s.data.toList = Tk.run Tk.ofWord s.data.toList := by rw [hl]; simp only [wordN, hc, if_true]
      rw [hc] at k1
      rw [e]
      clear e hl hc
      go_enter Tryz.func53, Tryz.ntmps53
      go_wp2_with (first
        | (go_at_call 88; refine (k1 _).mono ?_; rintro e w' ⟨rfl, rfl⟩)
        | (go_at_call 84; refine (k2 _).mono ?_; rintro e w' ⟨rfl, rfl⟩))
      go_ret
      exact ⟨rfl, rfl⟩
    | false =>
      have e : wordN s.data.toList = 0 := by rw [hl]; simp [wordN, hc]
      rw [hc] at k1
      rw [e]
      clear e hl hc
      go_enter Tryz.func53, Tryz.ntmps53
      go_wp2_with (first
        | (go_at_call 88; refine (k1 _).mono ?_; rintro e w' ⟨rfl, rfl⟩))
      go_ret
      exact ⟨rfl, rfl⟩

theorem ext_drop (s : ByteArray) (k : Nat) : (s.extract k s.size).data.toList = s.data.toList.drop k := by
  have := Lib.extract_toList s k s.size
  rw [Lib.toList_data] at this
  rw [this, List.take_of_length_le (by rw [List.length_drop, ← size_list]; exact Nat.le_refl _)]
set_option maxHeartbeats 2000000 in
theorem numberSize_any (s : ByteArray) (w : World) (hs : s.size ≤ 1000000) : Calls Tryz.prog 54 #[.string s] w fun e w' => e = .returned (.int .i64 (Tk.numN s.data.toList : Nat)) ∧ w = w' := by
  have k1 := fun W => run_digit s W hs
  obtain ⟨a, ha⟩ : ∃ a, a = Tk.run Tk.digit s.data.toList := ⟨_, rfl⟩
  have hle : a ≤ s.size := by rw [ha, size_list]; exact Tk.run_le _ _
  have hn : Tk.numN s.data.toList = if a = 0 then 0 else match s.data.toList.drop a with | 46 :: t => if Tk.run Tk.digit t = 0 then a else a + 1 + Tk.run Tk.digit t | _ => a := by rw [ha]; rfl
  rw [hn, ← ext_drop]
  rw [← ha] at k1
  have hls := size_list (s.extract a s.size)
  have hrs : (s.extract a s.size).size = s.size - a := by simp
  have HE : Hid ((s.extract (a + 1) s.size).data.toList = (s.extract a s.size).data.toList.drop 1) := Lib.hid (by rw [ext_drop, ext_drop, List.drop_drop])
  clear hn ha
  by_cases h0 : a = 0
  · subst h0
    simp only [if_true]
    clear hls hrs
    go_enter Tryz.func54, Tryz.ntmps54
    go_wp2_with (first
      | (go_at_call 84; refine (k1 _).mono ?_; rintro e w' ⟨rfl, rfl⟩))
    go_ret
    exact ⟨rfl, rfl⟩
  have hz : ((a : Int) == 0) = false := by simp [h0]
  rw [if_neg h0]
  by_cases hp : ∃ t, (s.extract a s.size).data.toList = 46 :: t
  · obtain ⟨t, ht⟩ := hp
    rw [ht]
    have k2 := fun W => hp_is (s.extract a s.size) ⟨#[46]⟩ W (b := true) (by rw [ht]; rfl)
    have hlt : a + 1 ≤ s.size := by rw [ht] at hls; simp only [List.length_cons] at hls; omega
    have k3 := fun W => run_digit (s.extract (a + 1) s.size) W (by simp; omega)
    rw [HE.out, ht, List.drop_one, List.tail_cons] at k3
    show Calls _ _ _ _ fun e w' => e = .returned (.int .i64 ((if Tk.run Tk.digit t = 0 then a else a + 1 + Tk.run Tk.digit t : Nat) : Int)) ∧ w = w'
    generalize hb : Tk.run Tk.digit t = b at *
    have hbl : b ≤ t.length := by rw [← hb]; exact Tk.run_le _ _
    have htl : t.length + 1 = s.size - a := by rw [← hrs, hls, ht]; rfl
    have hbs : a + 1 + b ≤ s.size := by omega
    clear hb hls hrs HE ht hbl htl
    by_cases hb0 : b = 0
    · subst hb0
      simp only [if_true]
      clear h0
      go_enter Tryz.func54, Tryz.ntmps54
      go_wp2_with (first
        | (go_at_call 84; with_reducible refine (k1 _).mono ?_; clear k1; rintro e w' ⟨rfl, rfl⟩)
        | (go_at_call 84; with_reducible refine (k3 _).mono ?_; clear k3; rintro e w' ⟨rfl, rfl⟩)
        | (go_at_call 86; refine (k2 _).mono ?_; rintro e w' ⟨rfl, rfl⟩))
      go_ret
      exact ⟨rfl, rfl⟩
    · have hz2 : ((b : Int) == 0) = false := by simp [hb0]
      rw [if_neg hb0]
      clear h0 hb0
      go_enter Tryz.func54, Tryz.ntmps54
      go_wp2_with (first
        | (go_at_call 84; with_reducible refine (k1 _).mono ?_; clear k1; rintro e w' ⟨rfl, rfl⟩)
        | (go_at_call 84; with_reducible refine (k3 _).mono ?_; clear k3; rintro e w' ⟨rfl, rfl⟩)
        | (go_at_call 86; refine (k2 _).mono ?_; rintro e w' ⟨rfl, rfl⟩))
      go_ret
      exact ⟨ret_int (by simp), rfl⟩
  · have e : (match (s.extract a s.size).data.toList with | 46 :: t => if Tk.run Tk.digit t = 0 then a else a + 1 + Tk.run Tk.digit t | _ => a) = a := by
      split
      · rename_i t ht; exact (hp ⟨t, ht⟩).elim
      · rfl
    rw [e]
    have k2 := fun W => hp_is (s.extract a s.size) ⟨#[46]⟩ W (b := false) (by
      cases hq : (s.extract a s.size).data.toList with
      | nil => rfl
      | cons c t =>
        have : c ≠ 46 := by rintro rfl; exact hp ⟨t, hq⟩
        simp [Lib.hasPrefix, List.isPrefixOf]; exact fun h => (this h.symm).elim)
    clear e hp hls hrs HE h0
    go_enter Tryz.func54, Tryz.ntmps54
    go_wp2_with (first
      | (go_at_call 84; refine (k1 _).mono ?_; rintro e w' ⟨rfl, rfl⟩)
      | (go_at_call 86; refine (k2 _).mono ?_; rintro e w' ⟨rfl, rfl⟩))
    go_ret
    exact ⟨rfl, rfl⟩

/-- the signs, the longer ones first -/
def sg : Nat → ByteArray
  | 0 => ⟨#[60, 61]⟩ | 1 => ⟨#[62, 61]⟩ | 2 => ⟨#[43]⟩ | 3 => ⟨#[45]⟩ | 4 => ⟨#[42]⟩ | 5 => ⟨#[47]⟩ | 6 => ⟨#[44]⟩ | 7 => ⟨#[58]⟩ | 8 => ⟨#[59]⟩ | 9 => ⟨#[61]⟩ | 10 => ⟨#[40]⟩ | 11 => ⟨#[41]⟩ | 12 => ⟨#[91]⟩ | 13 => ⟨#[93]⟩ | _ => ⟨#[]⟩
def tab : Array Value := #[.string ⟨#[60, 61]⟩, .string ⟨#[62, 61]⟩, .string ⟨#[43]⟩, .string ⟨#[45]⟩, .string ⟨#[42]⟩, .string ⟨#[47]⟩, .string ⟨#[44]⟩, .string ⟨#[58]⟩, .string ⟨#[59]⟩, .string ⟨#[61]⟩, .string ⟨#[40]⟩, .string ⟨#[41]⟩, .string ⟨#[91]⟩, .string ⟨#[93]⟩]
/-- the table of signs lies there -/
def HasTab (w : World) : Prop := ∃ t fr, w.heap[0]? = some (.cells tab t fr)
theorem sg_at : ∀ (k : Nat), k < 14 → ∀ (w : World), (Instr.index 138 (.agg tab) (.int .i64 (k : Int))).run Tryz.prog w = .ok (.string (sg k)) w
  | 0, _ => fun _ => by kernel_rfl
  | 1, _ => fun _ => by kernel_rfl
  | 2, _ => fun _ => by kernel_rfl
  | 3, _ => fun _ => by kernel_rfl
  | 4, _ => fun _ => by kernel_rfl
  | 5, _ => fun _ => by kernel_rfl
  | 6, _ => fun _ => by kernel_rfl
  | 7, _ => fun _ => by kernel_rfl
  | 8, _ => fun _ => by kernel_rfl
  | 9, _ => fun _ => by kernel_rfl
  | 10, _ => fun _ => by kernel_rfl
  | 11, _ => fun _ => by kernel_rfl
  | 12, _ => fun _ => by kernel_rfl
  | 13, _ => fun _ => by kernel_rfl
  | _ + 14, h => by omega
theorem sg_none (l : List UInt8) (h : ∀ j, j < 14 → Lib.hasPrefix l (sg j).data.toList = false) : Tk.signN l = 0 := by
  cases l with
  | nil => rfl
  | cons c l =>
    have g := fun j hj => h j hj
    have h0 := g 0 (by decide); have h1 := g 1 (by decide); have h2 := g 2 (by decide); have h3 := g 3 (by decide); have h4 := g 4 (by decide); have h5 := g 5 (by decide); have h6 := g 6 (by decide)
    have h7 := g 7 (by decide); have h8 := g 8 (by decide); have h9 := g 9 (by decide); have h10 := g 10 (by decide); have h11 := g 11 (by decide); have h12 := g 12 (by decide); have h13 := g 13 (by decide)
    clear g h
    cases l with
    | nil =>
      simp [Lib.hasPrefix, sg, List.isPrefixOf] at *
      simp [Tk.signN, Tk.sign1]
      grind
    | cons d l =>
      simp [Lib.hasPrefix, sg, List.isPrefixOf] at *
      simp [Tk.signN, Tk.sign1]
      grind
theorem sg_hit (l : List UInt8) (k : Nat) (hk : k < 14) (h : ∀ j, j < k → Lib.hasPrefix l (sg j).data.toList = false) (hh : Lib.hasPrefix l (sg k).data.toList = true) : Tk.signN l = (sg k).size := by
  cases l with
  | nil =>
    have : k = 0 ∨ k = 1 ∨ k = 2 ∨ k = 3 ∨ k = 4 ∨ k = 5 ∨ k = 6 ∨ k = 7 ∨ k = 8 ∨ k = 9 ∨ k = 10 ∨ k = 11 ∨ k = 12 ∨ k = 13 := by omega
    rcases this with rfl | rfl | rfl | rfl | rfl | rfl | rfl | rfl | rfl | rfl | rfl | rfl | rfl | rfl <;> cases hh
  | cons c l =>
    by_cases h2 : (c == 60 || c == 62) && l.head? == some 61
    · have e : Tk.signN (c :: l) = 2 := by simp only [Tk.signN, h2, if_true]
      rw [e]
      have hc : c = 60 ∨ c = 62 := by simp at h2; exact h2.1
      have hl : ∃ m, l = 61 :: m := by
        cases l with
        | nil => simp at h2
        | cons d m => simp at h2; exact ⟨m, by rw [h2.2]⟩
      obtain ⟨m, rfl⟩ := hl
      rcases hc with rfl | rfl
      · have : ¬ 0 < k := fun hz => by have := h 0 hz; cases this
        obtain rfl : k = 0 := by omega
        rfl
      · have : ¬ 1 < k := fun hz => by have := h 1 hz; cases this
        have : k = 0 ∨ k = 1 := by omega
        rcases this with rfl | rfl
        · cases hh
        · rfl
    · have e : Tk.signN (c :: l) = if Tk.sign1 c then 1 else 0 := by simp only [Tk.signN]; rw [if_neg h2]
      rw [e]
      have : k = 0 ∨ k = 1 ∨ k = 2 ∨ k = 3 ∨ k = 4 ∨ k = 5 ∨ k = 6 ∨ k = 7 ∨ k = 8 ∨ k = 9 ∨ k = 10 ∨ k = 11 ∨ k = 12 ∨ k = 13 := by omega
      rcases this with rfl | rfl | rfl | rfl | rfl | rfl | rfl | rfl | rfl | rfl | rfl | rfl | rfl | rfl
      case inl =>
        exfalso; apply h2
        cases l with
        | nil => simp [Lib.hasPrefix, sg, List.isPrefixOf] at hh
        | cons d m => simp [Lib.hasPrefix, sg, List.isPrefixOf] at hh; simp [← hh.1, ← hh.2]
      case inr.inl =>
        exfalso; apply h2
        cases l with
        | nil => simp [Lib.hasPrefix, sg, List.isPrefixOf] at hh
        | cons d m => simp [Lib.hasPrefix, sg, List.isPrefixOf] at hh; simp [← hh.1, ← hh.2]
      all_goals
        simp [Lib.hasPrefix, sg, List.isPrefixOf] at hh
        rw [← hh]
        rfl
theorem sg_size {k : Nat} (hk : k < 14) : (sg k).size ≤ 2 := by
  have : k = 0 ∨ k = 1 ∨ k = 2 ∨ k = 3 ∨ k = 4 ∨ k = 5 ∨ k = 6 ∨ k = 7 ∨ k = 8 ∨ k = 9 ∨ k = 10 ∨ k = 11 ∨ k = 12 ∨ k = 13 := by omega
  rcases this with rfl | rfl | rfl | rfl | rfl | rfl | rfl | rfl | rfl | rfl | rfl | rfl | rfl | rfl <;> decide

set_option maxRecDepth 100000 in
set_option maxHeartbeats 4000000 in
theorem signsSize_any (s : ByteArray) (w : World) (hT : HasTab w) : Calls Tryz.prog 55 #[.string s] w fun e w' => e = .returned (.int .i64 (Tk.signN s.data.toList : Nat)) ∧ w = w' := by
  obtain ⟨tt, fr, hT⟩ := hT
  obtain ⟨T, hTT⟩ : ∃ T, T = tab := ⟨_, rfl⟩
  have hsz : (Tryz.prog.info? 138).map (·.size) = some T.size := by rw [hTT]; kernel_rfl
  have ix : ∀ k : Nat, k < 14 → ∀ W : World, (Instr.index 138 (.agg T) (.int .i64 (k : Int))).run Tryz.prog W = .ok (.string (sg k)) W := fun k hk W => by rw [hTT]; exact sg_at k hk W
  rw [← hTT] at hT
  clear hTT
  go_enter Tryz.func55, Tryz.ntmps55
  go_wp2_with (refine wpList_load_row rfl 138 _ rfl 0 rfl tt T fr _ hT Tryz.underlying138 rfl hsz ?_)
  have HT := Lib.hid hT
  have HS := Lib.hid hsz
  have IX := Lib.hid ix
  clear hT hsz ix
  go_loop [2, 4, 6] (fun _ _ x => ∃ k : Nat, k ≤ 14 ∧ x = .int .i64 k ∧ Hid (∀ j, j < k → Lib.hasPrefix s.data.toList (sg j).data.toList = false)) (fun _ _ x => 14 - (intOf x).toNat)
  case atStart => exact ⟨0, Nat.zero_le _, rfl, Lib.hid fun j hj => by omega⟩
  case round =>
    obtain ⟨k, hk, rfl, H⟩ := hrel
    by_cases hlt : k < 14
    · have hix := IX.out k hlt
      cases hb : Lib.hasPrefix s.data.toList (sg k).data.toList with
      | true =>
        have k1 := fun W => hp_is s (sg k) W hb
        have HB := Lib.hid hb
        have hsz2 := sg_size hlt
        clear hb
        go_wp2_with (go_at_call 86; refine (k1 _).mono ?_; rintro e w' ⟨rfl, rfl⟩)
        go_ret
        exact ⟨ret_int (by rw [sg_hit _ k hlt H.out HB.out]), rfl⟩
      | false =>
        have k1 := fun W => hp_is s (sg k) W hb
        have HB := Lib.hid hb
        clear hb
        go_wp2_with (go_at_call 86; refine (k1 _).mono ?_; rintro e w' ⟨rfl, rfl⟩)
        go_round
        case rel => exact ⟨k + 1, by omega, by go_num, Lib.hid fun j hj => by
          by_cases e : j = k
          · subst e; exact HB.out
          · exact H.out j (by omega)⟩
        case measure => simp [intOf]; omega
    · obtain rfl : k = 14 := by omega
      go_wp2
      go_ret
      exact ⟨ret_int (by rw [sg_none _ H.out]; rfl), rfl⟩
end Go.Proofs.YtjnmajdigjifkaaGreatDoor
