/- What a slice of parts reads as; the small functions of the program: may a number be, 0 in its place, the noughts at its end. -/
import Derived.RangeFuncNested
import Derived.RangeFuncBound
import Derived.RangeFuncCalls
import Derived.RangeFuncLeaves
import Derived.Shelf.Abstract
import Derived.WalkKit
import Derived.OwnWalkIn
import Derived.TacticsInMore
import Derived.LoopNIn
import Derived.LoopIn
import Derived.LoopTactic
import Derived.Lib.Hide
import Derived.WalkSpells
import Derived.WalkLawsBesides
import Derived.Outline
import Derived.Test.YtmbnojkciikobaaGreatDoorProg
import Derived.Test.YtmbnojkciikobaaGreatDoorMathB
namespace Go.Proofs.YtmbnojkciikobaaGreatDoor
open Go Go.Proofs Go.RowKit Go.Shelf Nu

/-- The slice value v reads as the parts l. -/
def Reads (W : World) (v : Value) (l : List Nat) : Prop :=
  (v = .slice none 0 0 ∧ l = []) ∨ (∃ b off cap, v = .slice (some ⟨b, off, none⟩) l.length cap ∧ b < W.heap.size ∧ l.length ≤ cap ∧ ∀ j, j < l.length → W.cell? ⟨b, off + j, none⟩ = some (.int .u32 (l.getD j 0 : Nat))) ∨ ∃ x, v = .slice (some x) 0 0 ∧ l = []

theorem Reads.nil (W : World) : Reads W (.slice none 0 0) [] := .inl ⟨rfl, rfl⟩
theorem Reads.below {W W' : World} {v : Value} {l : List Nat} (h : Reads W v l) (hb : Below W.heap.size W W') : Reads W' v l := by
  rcases h with h | ⟨b, off, cap, e, hb', hc, hl⟩ | h
  · exact .inl h
  · exact .inr (.inl ⟨b, off, cap, e, Nat.lt_of_lt_of_le hb' hb.size, hc, fun j hj => (hb.cell (p := ⟨b, off + j, none⟩) hb').trans (hl j hj)⟩)
  · exact .inr (.inr h)

theorem Reads.form {W : World} {v : Value} {l : List Nat} (h : Reads W v l) : ∃ a cap, v = .slice a l.length cap := by
  rcases h with ⟨rfl, rfl⟩ | ⟨b, off, cap, rfl, _⟩ | ⟨x, rfl, rfl⟩
  · exact ⟨none, 0, rfl⟩
  · exact ⟨_, cap, rfl⟩
  · exact ⟨some x, 0, rfl⟩
theorem ret_bool {a b : Bool} (h : a = b) : Ending.returned (.bool a) = .returned (.bool b) := by rw [h]
theorem ret_int {k : IntKind} {a b : Int} (h : a = b) : Ending.returned (.int k a) = .returned (.int k b) := by rw [h]

set_option maxHeartbeats 400000 in
/-- Check -/
theorem check_any {W : World} {v : Value} {l : List Nat} (h : Reads W v l) (hl : l.length ≤ 1000000) :
    Calls Tryz.prog 32 #[v] W fun e w' => e = .returned (.bool (chk l)) ∧ W = w' := by
  rcases h with ⟨rfl, rfl⟩ | ⟨b, off, cap, rfl, hb, hcap, hc⟩ | ⟨x, rfl, rfl⟩
  rotate_right
  · go_enter Tryz.func32, Tryz.ntmps32
    go_wp2
    go_ret
    exact ⟨rfl, rfl⟩
  · go_enter Tryz.func32, Tryz.ntmps32
    go_wp2
    go_ret
    exact ⟨rfl, rfl⟩
  · cases l with
    | nil =>
      go_enter Tryz.func32, Tryz.ntmps32
      go_wp2
      go_ret
      exact ⟨rfl, rfl⟩
    | cons x t =>
      have hx := hc t.length (by simp)
      have hk : chk (x :: t) = (((x :: t).getD t.length 0 : Nat) != 0) := by simp [chk]
      rw [hk]
      clear hk hc
      generalize hy : (x :: t).getD t.length 0 = y at hx ⊢
      clear hy
      simp only [List.length_cons] at hl hcap ⊢
      generalize t.length = n at *
      have hz : ((n : Int) + 1 == 0) = false := by simp; omega
      go_enter Tryz.func32, Tryz.ntmps32
      go_wp2
      go_ret
      exact ⟨ret_bool (by simp [bne]; rw [Bool.eq_iff_iff]; simp), rfl⟩

/-- what stands for a number that may not be -/
def orz (l : List Nat) : List Nat := if chk l then l else []
theorem val_orz (l : List Nat) : val (orz l) = nv l := by unfold orz nv; split <;> rfl
theorem sm_orz {l : List Nat} (h : Sm l) : Sm (orz l) := by unfold YtmbnojkciikobaaGreatDoor.orz; split; exact h; exact Sm.nil
theorem orz_length (l : List Nat) : (orz l).length ≤ l.length := by unfold orz; split; exact Nat.le_refl _; simp
theorem chk_orz (l : List Nat) : chk (orz l) = true := by unfold orz; split; assumption; rfl

/-- what orZero answers -/
def orzV (v : Value) (l : List Nat) : Value := if chk l then v else .slice none 0 0
theorem orzV_reads {W : World} {v : Value} {l : List Nat} (h : Reads W v l) : Reads W (orzV v l) (orz l) := by
  unfold orzV orz
  split
  · exact h
  · exact Reads.nil W

set_option maxHeartbeats 400000 in
/-- orZero -/
theorem orZero_any {W : World} {v : Value} {l : List Nat} (h : Reads W v l) (hl : l.length ≤ 1000000) :
    Calls Tryz.prog 64 #[v] W fun e w' => e = .returned (orzV v l) ∧ w' = W := by
  have hf := h
  obtain ⟨a, cap, rfl⟩ := h.form
  cases hc : chk l with
  | true =>
    have e : ∀ v, orzV v l = v := fun v => by simp [orzV, hc]
    rw [e]
    go_enter Tryz.func64, Tryz.ntmps64
    go_wp2_with (go_at_call 32; refine (check_any hf hl).mono ?_; rintro e w' ⟨rfl, rfl⟩)
    go_ret
    exact ⟨rfl, rfl⟩
  | false =>
    have e : ∀ v, orzV v l = .slice none 0 0 := fun v => by simp [orzV, hc]
    rw [e]
    go_enter Tryz.func64, Tryz.ntmps64
    go_wp2_with (go_at_call 32; refine (check_any hf hl).mono ?_; rintro e w' ⟨rfl, rfl⟩)
    go_ret
    exact ⟨rfl, rfl⟩

/-- part -/
theorem part_any {W : World} {v : Value} {l : List Nat} (h : Reads W v l) (hl : l.length ≤ 1000000) (hs : Sm l) (i : Nat) (_hi : i ≤ 1000000) :
    Calls Tryz.prog 138 #[v, .int .i64 i] W fun e w' => e = .returned (.int .u64 (l.getD i 0 : Nat)) ∧ w' = W := by
  by_cases hlt : i < l.length
  · rcases h with ⟨rfl, rfl⟩ | ⟨b, off, cap, rfl, hb, hcap, hc⟩ | ⟨x, rfl, rfl⟩
    rotate_right
    · simp at hlt
    · simp at hlt
    · have hx := hc i hlt
      have hb := hs.getD i
      clear hc hs
      generalize l.getD i 0 = x at *
      generalize l.length = n at *
      go_enter Tryz.func138, Tryz.ntmps138
      go_wp2
      go_ret
      exact ⟨rfl, rfl⟩
  · have e : l.getD i 0 = 0 := by rw [List.getD_eq_getElem?_getD, List.getElem?_eq_none (by omega)]; rfl
    rw [e]
    obtain ⟨a, cap, rfl⟩ := h.form
    clear h e hs
    generalize l.length = n at *
    go_enter Tryz.func138, Tryz.ntmps138
    go_wp2
    go_ret
    exact ⟨rfl, rfl⟩

/-- what trim makes of a slice -/
def trimV (b off cap : Nat) (l : List Nat) : Value := if (cut l).length = 0 then .slice none 0 0 else .slice (some ⟨b, off, none⟩) (cut l).length cap
theorem trimV_nil {b off cap : Nat} {l : List Nat} (h : cut l = []) : trimV b off cap l = .slice none 0 0 := by simp [trimV, h]
theorem trimV_take {b off cap n : Nat} {l : List Nat} (h : cut l = l.take (n + 1)) (hn : n < l.length) : trimV b off cap l = .slice (some ⟨b, off, none⟩) (n + 1) cap := by
  have e2 : (l.take (n + 1)).length = n + 1 := by rw [List.length_take]; omega
  simp [trimV, h, e2]

set_option maxHeartbeats 400000 in
/-- trim, of what is not nil -/
theorem trim_some {W : World} {l : List Nat} (b off cap : Nat) (hl : l.length ≤ 1000000) (hcap : l.length ≤ cap) (hc : ∀ j, j < l.length → W.cell? ⟨b, off + j, none⟩ = some (.int .u32 (l.getD j 0 : Nat))) :
    Calls Tryz.prog 66 #[.slice (some ⟨b, off, none⟩) l.length cap] W fun e w' => e = .returned (trimV b off cap l) ∧ W = w' := by
  obtain ⟨L, hL⟩ : ∃ L, L = l.length := ⟨_, rfl⟩
  have HL := Lib.hid hL
  rw [← hL] at hl hcap hc ⊢
  clear hL
  go_enter Tryz.func66, Tryz.ntmps66
  go_wp2
  go_loop [3] (fun s => ∃ n : Nat, n ≤ L ∧ s = .int .i64 n ∧ Hid (∀ j, n ≤ j → l.getD j 0 = 0)) (fun s => (intOf s).toNat)
  case atStart => exact ⟨L, Nat.le_refl _, rfl, Lib.hid fun j hj => by rw [List.getD_eq_getElem?_getD, List.getElem?_eq_none (by have := HL.out; omega)]; rfl⟩
  case round =>
    obtain ⟨n, hn, rfl, H0⟩ := hrel
    cases n with
    | zero =>
      go_wp2
      go_ret
      have e : cut l = [] := by rw [cut_eq_take l 0 (Nat.zero_le _) (fun j _ => H0.out j (Nat.zero_le _)) (.inl rfl)]; rfl
      exact ⟨by rw [trimV_nil e]; rfl, rfl⟩
    | succ n =>
      have hx := hc n (by omega)
      obtain ⟨y, hy⟩ : ∃ y, y = l.getD n 0 := ⟨_, rfl⟩
      rw [← hy] at hx
      have HY := Lib.hid hy
      clear hy
      have e1 : ((n + 1 : Nat) : Int) = (n : Int) + 1 := by omega
      rw [e1]
      clear e1
      by_cases hy0 : y = 0
      · have HZ := Lib.hid hy0
        have ht : ((y : Int) == 0) = true := by simp [hy0]
        clear hy0
        go_wp2
        go_round
        case rel => exact ⟨n, by omega, rfl, Lib.hid fun j hj => by
          by_cases e : j = n
          · subst e; rw [← HY.out]; exact HZ.out
          · exact H0.out j (by omega)⟩
        case measure => simp [intOf]
      · have ht : ((y : Int) == 0) = false := by simp [hy0]
        have HZ := Lib.hid hy0
        clear hy0
        go_wp2
        go_ret
        have e : cut l = l.take (n + 1) := cut_eq_take l (n + 1) (by have := HL.out; omega) (fun j hj => H0.out j hj) (.inr (by rw [show n + 1 - 1 = n by omega, ← HY.out]; exact HZ.out))
        exact ⟨by rw [trimV_take e (by have := HL.out; omega)]; rfl, rfl⟩

end Go.Proofs.YtmbnojkciikobaaGreatDoor
