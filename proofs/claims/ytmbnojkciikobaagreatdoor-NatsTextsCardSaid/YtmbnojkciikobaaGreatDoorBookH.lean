/- A book's lists of parts are looked at. -/
import Derived.Test.YtmbnojkciikobaaGreatDoorBookG
import Derived.Deep.QuietTactic
namespace Go.Proofs.YtmbnojkciikobaaGreatDoor
open Go Go.Proofs Go.RowKit Go.Shelf Nu

attribute [local go_sem] Oper.semAt_some

section
variable (w : World) (base B h n N cap : Nat) (A : Nat → Option Addr) (L C M : Nat → Nat) (G : Nat → Value)
def LookO (W : World) : Prop :=
  BookAt W B n (.slice (some ⟨h, 0, none⟩) N cap) ∧ HAt W h N (fun j => .slice (A j) (L j) (C j)) G M ∧ Below base w W ∧ base ≤ W.heap.size ∧
    ∀ j, j < N → Reads W (.slice (A j) (L j) (C j)) (List.replicate (L j) (1000 + M j)) ∧ Reads W (G j) (List.replicate (L j + 40) (1000 + M j))
end
section
variable {w W : World} {base B h n N cap S0 : Nat} {A : Nat → Option Addr} {L C M : Nat → Nat} {G : Nat → Value}
theorem LookO.of (D : Lies base B h N A L C M) (F : GrowO w base B h n N cap A L C M S0 N W) : ∃ G, LookO w base B h n N cap A L C M G W := by
  obtain ⟨G, _, h1, h2, h3, h4, h5, _, h7⟩ := F
  have hs : base ≤ W.heap.size := Nat.le_trans D.base (Nat.le_of_lt h1.lt)
  exact ⟨G, h1, h2, h3, hs, fun j hj => ⟨h5 j hj, (h7 j hj hj).1.reads⟩⟩
theorem LookO.alloc (F : LookO w base B h n N cap A L C M G W) (o : Obj) : LookO w base B h n N cap A L C M G (W.alloc o) := by
  obtain ⟨h1, h2, h3, h4, h5⟩ := F
  have hb : Below W.heap.size W (W.alloc o) := (Below.refl _ _).alloc (Nat.le_refl _) o
  exact ⟨h1.alloc o, h2.kept (World.grownBy_alloc W o none) (by simp), h3.alloc h4 o, by simp; omega, fun j hj => ⟨(h5 j hj).1.below hb, (h5 j hj).2.below hb⟩⟩
theorem LookO.drewN (F : LookO w base B h n N cap A L C M G W) (m : Nat) : LookO w base B h n N cap A L C M G (W.drewN m) := by
  obtain ⟨h1, h2, h3, h4, h5⟩ := F
  exact ⟨h1, h2, ⟨h3.os, h3.tape, h3.output, h3.size, h3.block⟩, h4, h5⟩
theorem getD_rep (K m j : Nat) (hj : j < K) : (List.replicate K m).getD j 0 = m := by
  rw [List.getD_eq_getElem?_getD, List.getElem?_replicate, if_pos hj]; rfl
end

set_option maxRecDepth 100000 in
set_option maxHeartbeats 2000000 in
theorem look_any {w W : World} {base B h n N cap : Nat} {A : Nat → Option Addr} {L C M : Nat → Nat} {G : Nat → Value} (D : Lies base B h N A L C M) (hN : N ≤ cap) (F : LookO w base B h n N cap A L C M G W) :
    Calls Tryz.prog 102 #[.pointer (some ⟨B, 0, none⟩)] W fun e w' => e = .returned (.bool true) ∧ LookO w base B h n N cap A L C M G w' := by
  have hD := Lib.hid D
  have hF := Lib.hid F
  have hfew := D.few
  clear D F
  go_enter Tryz.func102, Tryz.ntmps102
  go_wp2
  go_loopg [3] N (fun g s wr => ∃ i : Nat, i + g = N ∧ s = .int .i64 (i : Int) ∧ Hid (LookO w base B h n N cap A L C M G wr))
  case atStart => exact ⟨0, by omega, rfl, hF⟩
  case round =>
    obtain ⟨i, hi, rfl, HK⟩ := hrel
    have r1 := HK.out.1.c2
    by_cases hlt : i < N
    · obtain ⟨c0, c1, c2⟩ := HK.out.2.1.2 i hlt
      have hbs := HK.out.1.lt
      dsimp only at c0
      have hLi := (hD.out).len i hlt
      have hMi := (hD.out).num i hlt
      obtain ⟨K1, hK1⟩ : ∃ K1, K1 = L i + 40 := ⟨_, rfl⟩
      have hK2 : (L i : Int) + 40 = (K1 : Int) := by omega
      obtain ⟨a1, p1, e1⟩ := (HK.out.2.2.2.2 i hlt).2.form
      rw [List.length_replicate, ← hK1] at e1
      rw [e1] at c1
      have HK1 := Lib.hid hK1
      have E1 := Lib.hid e1
      have hHB := Lib.hid (HBox.new wr (.slice (A i) (L i) (C i)) (.slice a1 K1 p1) (M i))
      have hFA := Lib.hid (HK.out.alloc (.cells #[.slice (A i) (L i) (C i), .slice a1 K1 p1, .int .i64 (M i : Int)] 125))
      clear hK1 e1
      go_wp2
      obtain ⟨hb, hhb⟩ : ∃ hb, hb = wr.heap.size := ⟨_, rfl⟩
      rw [← hhb] at hHB hbs ⊢
      obtain ⟨wo, hwo⟩ : ∃ wo, wo = wr.alloc (.cells #[.slice (A i) (L i) (C i), .slice a1 K1 p1, .int .i64 (M i : Int)] 125) := ⟨_, rfl⟩
      rw [← hwo] at hHB hFA ⊢
      have q0 := hHB.out.c0
      have q1 := hHB.out.c1
      clear hwo hhb HK r1 c0 c1 c2
      go_wp2
      clear q0 q1
      go_loopg [5] K1 (fun g s wy => ∃ k : Nat, k + g = K1 ∧ s = .int .i64 (k : Int) ∧ Hid (LookO w base B h n N cap A L C M G wy) ∧ Hid (HBox wy hb (.slice (A i) (L i) (C i)) (.slice a1 K1 p1) (M i)))
      case atStart => exact ⟨0, by omega, rfl, hFA, hHB⟩
      case round =>
        obtain ⟨k, hk, rfl, HF, HB⟩ := hrel
        have q0 := HB.out.c0
        have q1 := HB.out.c1
        have q2 := HB.out.c2
        by_cases hkl : k < K1
        · obtain ⟨mk, hmk⟩ : ∃ mk, mk = 1000 + M i := ⟨_, rfl⟩
          have kI := fun W => is_any (M i) hMi W
          rw [← hmk] at kI
          have kJ := fun W => unflip (kI W)
          have hr1 := (HF.out.2.2.2.2 i hlt).1
          have hr2 := (HF.out.2.2.2.2 i hlt).2
          rw [← hmk] at hr1 hr2
          rw [E1.out, ← HK1.out] at hr2
          obtain ⟨b2, o2, ha2, hc2⟩ := hr2.addr
          have s2 := hc2 k (by rw [List.length_replicate]; omega)
          rw [getD_rep _ _ _ hkl] at s2
          have ea2 := (ha2 (by rw [List.length_replicate]; omega)).1
          subst ea2
          clear hmk hr2 ha2 hc2
          by_cases hkL : k < L i
          · obtain ⟨b1, o1, ha1, hc1⟩ := hr1.addr
            have s1 := hc1 k (by rw [List.length_replicate]; omega)
            rw [getD_rep _ _ _ hkL] at s1
            have ea1 := (ha1 (by rw [List.length_replicate]; omega)).1
            rw [ea1] at q0
            clear hr1 ha1 hc1 ea1
            have hg1 : decide ((k : Int) < (L i : Int)) = true := by simp; omega
            go_wp2
            go_quiet ((go_at_call 156; exact Calls.quiet_of_same (kJ _)))
            go_wp2
            go_roundg (K1 - (k + 1))
            case measure => omega
            case rel => exact ⟨k + 1, by omega, by simp, Lib.hid (HF.out.drewN _), Lib.hid (show HBox _ _ _ _ _ from HB.out)⟩
          · have hg1 : decide ((k : Int) < (L i : Int)) = false := by simp; omega
            clear hr1
            go_wp2
            go_quiet ((go_at_call 156; exact Calls.quiet_of_same (kJ _)))
            go_wp2
            go_roundg (K1 - (k + 1))
            case measure => omega
            case rel => exact ⟨k + 1, by omega, by simp, Lib.hid (HF.out.drewN _), Lib.hid (show HBox _ _ _ _ _ from HB.out)⟩
        · obtain rfl : k = K1 := by omega
          go_wp2
          go_roundg (N - (i + 1))
          case measure => omega
          case rel => exact ⟨i + 1, by omega, by simp, HF⟩
    · obtain rfl : i = N := by omega
      go_wp2
      go_ret
      exact ⟨rfl, HK.out⟩

end Go.Proofs.YtmbnojkciikobaaGreatDoor
