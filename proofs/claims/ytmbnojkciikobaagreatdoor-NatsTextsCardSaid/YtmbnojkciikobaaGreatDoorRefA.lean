/- The document's answer: the small functions. -/
import Derived.Test.YtmbnojkciikobaaGreatDoorBlk
import Derived.Test.YtmbnojkciikobaaGreatDoorLen
import Derived.Deep.LoopGhost
namespace Go.Proofs.YtmbnojkciikobaaGreatDoor
open Go Go.Proofs Go.RowKit Go.Shelf Nu

attribute [local go_sem] Oper.semAt_some

set_option maxHeartbeats 400000 in
/-- Check, by hand -/
theorem rcheck_any {W : World} {v : Value} {l : List Nat} (h : Reads W v l) (hl : l.length ≤ 1000000) :
    Calls Tryz.prog 33 #[v] W fun e w' => e = .returned (.bool (chk l)) ∧ W = w' := by
  rcases h with ⟨rfl, rfl⟩ | ⟨b, off, cap, rfl, hb, hcap, hc⟩ | ⟨x, rfl, rfl⟩
  rotate_right
  · go_enter Tryz.func33, Tryz.ntmps33
    go_wp2
    go_ret
    exact ⟨rfl, rfl⟩
  · go_enter Tryz.func33, Tryz.ntmps33
    go_wp2
    go_ret
    exact ⟨rfl, rfl⟩
  · cases l with
    | nil =>
      go_enter Tryz.func33, Tryz.ntmps33
      go_wp2
      go_ret
      exact ⟨rfl, rfl⟩
    | cons x t =>
      have hx := hc t.length (by simp)
      have hk : chk (x :: t) = (((x :: t).getD t.length 0 : Nat) != 0) := by simp [chk]
      rw [hk]
      clear hk hc
      generalize hy : (x :: t).getD t.length 0 = y at hx ⊢
      clear hy
      simp only [List.length_cons] at hl hcap ⊢
      generalize t.length = n at *
      have hz : ((n : Int) + 1 == 0) = false := by simp; omega
      go_enter Tryz.func33, Tryz.ntmps33
      go_wp2
      go_ret
      exact ⟨ret_bool (by simp [bne]; rw [Bool.eq_iff_iff]; simp), rfl⟩

set_option maxHeartbeats 400000 in
/-- fit, by hand -/
theorem rfit_any {W : World} {v : Value} {l : List Nat} (h : Reads W v l) (hl : l.length ≤ 1000000) :
    Calls Tryz.prog 74 #[v] W fun e w' => e = .returned (orzV v l) ∧ w' = W := by
  have hf := h
  obtain ⟨a, cap, rfl⟩ := h.form
  cases hc : chk l with
  | true =>
    have e : ∀ v, orzV v l = v := fun v => by simp [orzV, hc]
    rw [e]
    go_enter Tryz.func74, Tryz.ntmps74
    go_wp2_with (go_at_call 33; refine (rcheck_any hf hl).mono ?_; rintro e w' ⟨rfl, rfl⟩)
    go_ret
    exact ⟨rfl, rfl⟩
  | false =>
    have e : ∀ v, orzV v l = .slice none 0 0 := fun v => by simp [orzV, hc]
    rw [e]
    go_enter Tryz.func74, Tryz.ntmps74
    go_wp2_with (go_at_call 33; refine (rcheck_any hf hl).mono ?_; rintro e w' ⟨rfl, rfl⟩)
    go_ret
    exact ⟨rfl, rfl⟩


theorem getD_cut0 {l : List Nat} {n : Nat} (h : l.length ≤ n) : l.getD n 0 = 0 := by rw [List.getD_eq_getElem?_getD, List.getElem?_eq_none h]; rfl

set_option maxHeartbeats 2000000 in
/-- trim, by hand -/
theorem rtrim_any {W : World} {v : Value} {l : List Nat} (h : Reads W v l) (hl : l.length ≤ 1000000) :
    Calls Tryz.prog 75 #[v] W fun e w' => (∃ u, e = .returned u ∧ Reads W u (cut l)) ∧ w' = W := by
  rcases h with ⟨rfl, rfl⟩ | ⟨b, off, cap, rfl, hb, hcap, hc⟩ | ⟨x, rfl, rfl⟩
  · go_enter Tryz.func75, Tryz.ntmps75
    go_wp2
    go_loop [0] (fun s => s = .slice none 0 0) (fun _ => 0)
    case atStart => rfl
    case round =>
      subst hrel
      go_wp2
      go_ret
      exact ⟨⟨_, rfl, Reads.nil W⟩, rfl⟩
  · have H := Lib.hid hc
    obtain ⟨L, hL⟩ : ∃ L, L = l.length := ⟨_, rfl⟩
    have HL := Lib.hid hL
    rw [← hL] at hl hcap ⊢
    clear hL hc
    go_enter Tryz.func75, Tryz.ntmps75
    go_wp2
    go_loopg [0] L (fun g s wr => ∃ n : Nat, n = g ∧ n ≤ L ∧ s = .slice (some ⟨b, off, none⟩) n cap ∧ Hid (∀ j, n ≤ j → l.getD j 0 = 0) ∧ wr = W)
    case atStart => exact ⟨L, rfl, Nat.le_refl _, rfl, Lib.hid (fun j hj => getD_cut0 (by have := HL.out; omega)), rfl⟩
    case round =>
      obtain ⟨n, hng, hn, rfl, H0, rfl⟩ := hrel
      have fin : (n = 0 ∨ l.getD (n - 1) 0 ≠ 0) → Reads wr (.slice (some ⟨b, off, none⟩) n cap) (cut l) := by
        intro h1
        have e := cut_eq_take l n (by have := HL.out; omega) (fun j hj => H0.out j hj) h1
        have e2 : (l.take n).length = n := by rw [List.length_take]; have := HL.out; omega
        rw [e]
        exact .inr (.inl ⟨b, off, cap, by rw [e2], hb, by omega, fun j hj => by
          rw [e2] at hj
          have k := H.out j (by have := HL.out; omega)
          rw [k, List.getD_eq_getElem?_getD, List.getD_eq_getElem?_getD, List.getElem?_take, if_pos hj]⟩)
      have FIN := Lib.hid fin
      have HNG := Lib.hid hng
      clear fin hng
      by_cases hn0 : n = 0
      · have F0 := Lib.hid (FIN.out (.inl hn0))
        subst hn0
        go_wp2
        go_ret
        exact ⟨⟨_, rfl, F0.out⟩, rfl⟩
      · obtain ⟨p, hp⟩ : ∃ p, n = p + 1 := ⟨n - 1, by omega⟩
        have hx := H.out p (by have := HL.out; omega)
        have hnp : (n : Int) - 1 = (p : Int) := by omega
        have hp0 : (0 : Int) < (n : Int) := by omega
        have hpn : (p : Int) < (n : Int) := by omega
        have hpc : (p : Int) ≤ (cap : Int) := by omega
        have HP := Lib.hid hp
        obtain ⟨y, hy⟩ : ∃ y, y = l.getD p 0 := ⟨_, rfl⟩
        rw [← hy] at hx
        have HY := Lib.hid hy
        clear hy hp hn0
        by_cases hy0 : y = 0
        · have HZ := Lib.hid hy0
          have ht : ((y : Int) == 0) = true := by simp [hy0]
          clear hy0
          go_wp2
          go_roundg p
          case rel => exact ⟨p, rfl, by omega, rfl, Lib.hid (fun j hj => by
            by_cases e : j = p
            · subst e; rw [← HY.out]; exact HZ.out
            · exact H0.out j (by have := HP.out; omega)), rfl⟩
          case measure => have := HP.out; have := HNG.out; omega
        · have ht : ((y : Int) == 0) = false := by simp [hy0]
          have HZ := Lib.hid hy0
          clear hy0
          go_wp2
          go_ret
          exact ⟨⟨_, rfl, FIN.out (.inr (by rw [HP.out, Nat.add_sub_cancel, ← HY.out]; exact HZ.out))⟩, rfl⟩
  · go_enter Tryz.func75, Tryz.ntmps75
    go_wp2
    go_loop [0] (fun s => s = .slice (some x) 0 0) (fun _ => 0)
    case atStart => rfl
    case round =>
      subst hrel
      go_wp2
      go_ret
      exact ⟨⟨_, rfl, .inr (.inr ⟨x, rfl, rfl⟩)⟩, rfl⟩

end Go.Proofs.YtmbnojkciikobaaGreatDoor
