/- Tokens: how many bytes of a comment a text begins with; a copy of a text; the table of pieces. -/
import Derived.Test.YtjnmajdigjifkaaGreatDoorTkB
import Derived.Test.YtjnmajdigjifkaaGreatDoorLayT
import Derived.BigQuiet
import Derived.RegionTactic
import Derived.Deep.QuietTactic
namespace Go.Proofs.YtjnmajdigjifkaaGreatDoor
open Go Go.Proofs Go.RowKit Go.Shelf

theorem index_run : ∀ l : List UInt8, Lib.indexByte l 10 = if Tk.run Tk.noEnd l = l.length then -1 else (Tk.run Tk.noEnd l : Int)
  | [] => rfl
  | c :: l => by
    have ih := index_run l
    have hle := Tk.run_le Tk.noEnd l
    unfold Lib.indexByte
    by_cases hc : c = 10
    · subst hc
      simp [Tk.run, Tk.noEnd]
    · have h1 : (c == 10) = false := by simpa using hc
      have h2 : Tk.noEnd c = true := by simp [Tk.noEnd, hc]
      rw [Tk.run_pos h2, h1, ih]
      simp only [List.length_cons]
      by_cases he : Tk.run Tk.noEnd l = l.length
      · simp [he]
      · have h3 : ¬ Tk.run Tk.noEnd l + 1 = l.length + 1 := by omega
        have : (((Tk.run Tk.noEnd l : Nat) : Int) == -1) = false := by simp
        rw [if_neg he, if_neg h3, this]
        simp

theorem lcut_miss (s : ByteArray) (c : UInt8) (w : World) (h : Lib.indexByte s.data.toList c = -1) :
    Calls Tryz.prog 93 #[.string s, .string ⟨#[c]⟩] w fun e w' => e = .returned (.tuple #[.string s, .string ⟨#[]⟩, .bool false]) ∧ ∃ n, w' = w.drewN n := by
  have ki := Any.stringslite_Index_one YtjnmajdigjifkaaGreatDoor.idxL s c w
  rw [h] at ki
  clear h
  go_enter Tryz.func93, Tryz.ntmps93
  go_wp2_with (go_at_call 95; refine ki.mono ?_; rintro e w' ⟨rfl, rfl⟩)
  go_ret3
  exact ⟨rfl, 0, rfl⟩
theorem lcut_hit (s : ByteArray) (c : UInt8) (i : Nat) (w : World) (h : Lib.indexByte s.data.toList c = i) (hi : i < s.size) (hs : s.size ≤ maxLen) :
    Calls Tryz.prog 93 #[.string s, .string ⟨#[c]⟩] w fun e w' => e = .returned (.tuple #[.string (s.extract 0 i), .string (s.extract (i + 1) s.size), .bool true]) ∧ ∃ n, w' = w.drewN n := by
  have ki := Any.stringslite_Index_one YtjnmajdigjifkaaGreatDoor.idxL s c w
  rw [h] at ki
  unfold maxLen at hs
  have c1 : (0 : Int) ≤ (i : Int) := by omega
  have c2 : (i : Int) ≤ (s.size : Int) := by omega
  have c3 : (0 : Int) ≤ (i : Int) + 1 := by omega
  have c4 : (i : Int) + 1 ≤ (s.size : Int) := by omega
  clear h
  go_enter Tryz.func93, Tryz.ntmps93
  go_wp2_with (go_at_call 95; refine ki.mono ?_; rintro e w' ⟨rfl, rfl⟩)
  go_region
  all_goals
    go_wp2
    go_ret3
    exact ⟨rfl, 1, rfl⟩
theorem scut_any (s : ByteArray) (c : UInt8) (w : World) {a b : ByteArray} {f : Bool} (k : Calls Tryz.prog 93 #[.string s, .string ⟨#[c]⟩] w fun e w' => e = .returned (.tuple #[.string a, .string b, .bool f]) ∧ ∃ n, w' = w.drewN n) :
    Calls Tryz.prog 87 #[.string s, .string ⟨#[c]⟩] w fun e w' => e = .returned (.tuple #[.string a, .string b, .bool f]) ∧ ∃ n, w' = w.drewN n := by
  go_enter Tryz.func87, Tryz.ntmps87
  go_wp2_with (go_at_call 93; refine k.mono ?_; clear k; rintro e w' ⟨rfl, n, rfl⟩)
  go_ret3
  exact ⟨rfl, n, rfl⟩
/-- what stands ahead of the first byte 10 -/
theorem scut_end (s : ByteArray) (w : World) (hs : s.size ≤ maxLen) : ∃ (a b : ByteArray) (f : Bool), a.size = Tk.run Tk.noEnd s.data.toList ∧
    Calls Tryz.prog 87 #[.string s, .string ⟨#[10]⟩] w fun e w' => e = .returned (.tuple #[.string a, .string b, .bool f]) ∧ ∃ n, w' = w.drewN n := by
  have hi := index_run s.data.toList
  have hle := Tk.run_le Tk.noEnd s.data.toList
  rw [← size_list] at hi hle
  by_cases he : Tk.run Tk.noEnd s.data.toList = s.size
  · rw [if_pos he] at hi
    exact ⟨s, _, _, he.symm, scut_any s 10 w (lcut_miss s 10 w hi)⟩
  · rw [if_neg he] at hi
    exact ⟨_, _, _, by rw [ByteArray.size_extract]; omega, scut_any s 10 w (lcut_hit s 10 _ w hi (by omega) hs)⟩

/-- a comment's bytes -/
def commN : List UInt8 → Nat
  | [] => 0
  | c :: l => if c = 35 then Tk.run Tk.noEnd (c :: l) else 0
set_option maxHeartbeats 1000000 in
theorem commentSize_any (s : ByteArray) (w : World) (hs : s.size ≤ 1000000) : Calls Tryz.prog 52 #[.string s] w fun e w' => e = .returned (.int .i64 (commN s.data.toList : Nat)) ∧ ∃ n, w' = w.drewN n := by
  by_cases hp : ∃ t, s.data.toList = 35 :: t
  · obtain ⟨t, ht⟩ := hp
    have e : commN s.data.toList = Tk.run Tk.noEnd s.data.toList := by rw [ht]; simp [commN]
    have k1 := fun W => hp_is s ⟨#[35]⟩ W (b := true) (by rw [ht]; rfl)
    obtain ⟨a, b, f, ha, k2⟩ := scut_end s w (by unfold maxLen; omega)
    rw [e, ← ha]
    clear e ht ha
    go_enter Tryz.func52, Tryz.ntmps52
    go_wp2_with (first
      | (go_at_call 86; refine (k1 _).mono ?_; clear k1; rintro e w' ⟨rfl, rfl⟩)
      | (go_at_call 87; refine k2.mono ?_; clear k2; rintro e w' ⟨rfl, n, rfl⟩))
    go_ret
    exact ⟨rfl, n, rfl⟩
  · have e : commN s.data.toList = 0 := by
      cases hq : s.data.toList with
      | nil => rfl
      | cons c t =>
        have : c ≠ 35 := by rintro rfl; exact hp ⟨t, hq⟩
        simp [commN, this]
    have k1 := fun W => hp_is s ⟨#[35]⟩ W (b := false) (by
      cases hq : s.data.toList with
      | nil => rfl
      | cons c t =>
        have : c ≠ 35 := by rintro rfl; exact hp ⟨t, hq⟩
        simp [Lib.hasPrefix, List.isPrefixOf]; exact fun h => (this h.symm).elim)
    rw [e]
    clear e hp
    go_enter Tryz.func52, Tryz.ntmps52
    go_wp2_with (go_at_call 86; refine (k1 _).mono ?_; clear k1; rintro e w' ⟨rfl, rfl⟩)
    go_ret
    exact ⟨rfl, 0, rfl⟩

theorem clone_any (s : ByteArray) (w : World) (hs : s.size ≤ 1000000) : Calls Tryz.prog 10 #[.string s] w fun e w' => e = .returned (.string s) ∧ Below w.heap.size w w' := by
  have k := fun W => AnyPu.stringslite_Clone YtjnmajdigjifkaaGreatDoor.clL s W (by omega)
  go_enter Tryz.func10, Tryz.ntmps10
  go_wp2_with (go_at_call 56; refine (k _).mono ?_; clear k; rintro e w' ⟨rfl, hb⟩)
  go_ret
  exact ⟨rfl, hb⟩

/-- the pieces, as they lie -/
def pcs : Array Value := #[.int .u8 0, .func (.func 51) #[] #[], .int .u8 0, .func (.func 52) #[] #[], .int .u8 1, .func (.func 53) #[] #[], .int .u8 2, .func (.func 54) #[] #[], .int .u8 3, .func (.func 55) #[] #[]]
end Go.Proofs.YtjnmajdigjifkaaGreatDoor
