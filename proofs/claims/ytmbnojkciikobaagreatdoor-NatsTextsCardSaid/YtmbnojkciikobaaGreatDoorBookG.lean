/- A book's lists of parts are grown: the walk. -/
import Derived.Test.YtmbnojkciikobaaGreatDoorBookF
namespace Go.Proofs.YtmbnojkciikobaaGreatDoor
open Go Go.Proofs Go.RowKit Go.Shelf Nu

attribute [local go_sem] Oper.semAt_some

set_option maxRecDepth 100000 in
set_option maxHeartbeats 2000000 in
theorem grow_any {w W : World} {base B h n N cap S0 : Nat} {A : Nat → Option Addr} {L C M : Nat → Nat} (D : Lies base B h N A L C M) (hf : Forms N A L C) (hN : N ≤ cap) (hhS : h < S0) (F : GrowO w base B h n N cap A L C M S0 0 W) :
    Calls Tryz.prog 90 #[.pointer (some ⟨B, 0, none⟩)] W fun e w' => e = .returned (.tuple #[]) ∧ GrowO w base B h n N cap A L C M S0 N w' := by
  obtain ⟨i0, hi0, hz0, hz1, hz2⟩ := info_parts info_u32
  have hD := Lib.hid D
  have hF := Lib.hid F
  have hFo := Lib.hid hf
  have hfew := D.few
  clear D F hf
  go_enter Tryz.func90, Tryz.ntmps90
  go_wp2
  go_loopg [2] N (fun g s wr => ∃ i : Nat, i + g = N ∧ s = .int .i64 (i : Int) ∧ Hid (GrowO w base B h n N cap A L C M S0 i wr))
  case atStart => exact ⟨0, by omega, rfl, hF⟩
  case round =>
    obtain ⟨i, hi, rfl, HK⟩ := hrel
    by_cases hlt : i < N
    · obtain ⟨r1, c0, c1, c2, hbs, hS0⟩ : wr.cell? ⟨B, 2, none⟩ = some (.slice (some ⟨h, 0, none⟩) N cap) ∧ wr.cell? ⟨h, i * 3, none⟩ = some (.slice (A i) (L i) (C i)) ∧ wr.cell? ⟨h, i * 3 + 1, none⟩ = some (.slice none 0 0) ∧ wr.cell? ⟨h, i * 3 + 2, none⟩ = some (.int .i64 (M i : Int)) ∧ B < wr.heap.size ∧ S0 ≤ wr.heap.size := by
        obtain ⟨G, h0, h1, h2, _, h4, _⟩ := HK.out
        have k := h2.2 i hlt
        rw [h0 i (Nat.le_refl _)] at k
        exact ⟨h1.c2, k.1, k.2.1, k.2.2, h1.lt, h4⟩
      have hLi := (hD.out).len i hlt
      have hMi := (hD.out).num i hlt
      have hHB := Lib.hid (HBox.new wr (.slice (A i) (L i) (C i)) (.slice none 0 0) (M i))
      obtain ⟨G, hFA⟩ := HK.out.inner hD.out hlt (.cells #[.slice (A i) (L i) (C i), (.slice none 0 0), .int .i64 (M i : Int)] 125)
      have HFA := Lib.hid hFA
      clear hFA
      go_wp2
      obtain ⟨hb, hhb⟩ : ∃ hb, hb = wr.heap.size := ⟨_, rfl⟩
      rw [← hhb] at hHB HFA hbs hS0 ⊢
      obtain ⟨wo, hwo⟩ : ∃ wo, wo = wr.alloc (.cells #[.slice (A i) (L i) (C i), (.slice none 0 0), .int .i64 (M i : Int)] 125) := ⟨_, rfl⟩
      rw [← hwo] at hHB HFA ⊢
      have q0 := hHB.out.c0
      clear hwo hhb HK r1 c0 c1 c2
      go_wp2
      go_loopg [4, 5] 40 (fun g u s wy => ∃ k : Nat, k + g = 40 ∧ s = .int .i64 (k : Int) ∧ Hid (GrowI w base B h n N cap A L C M S0 (hb + 1) G i k u wy) ∧ Hid (HBox wy hb (.slice (A i) (L i) (C i)) (.slice none 0 0) (M i)))
      case atStart => exact ⟨0, by omega, rfl, HFA, hHB⟩
      case round =>
        obtain ⟨k, hk, rfl, HF, HB⟩ := hrel
        have r2 := HB.out.c2
        have hbase : base ≤ wr.heap.size := by
          have h1 := hD.out.base
          have h2 := HF.out.2.1.lt
          omega
        by_cases hk4 : k < 40
        · have hrow := HF.out.2.2.2.2.2.2.2.2.1
          have kM := mark_any (M i) hMi
          obtain ⟨mk, hmk⟩ : ∃ mk, mk = 1000 + M i := ⟨_, rfl⟩
          rw [← hmk] at hrow kM
          have HMK := Lib.hid hmk
          clear hmk
          go_wp2_with (first
            | (go_at_call 144; (with_reducible refine (kM _).mono ?_); rintro e w5 ⟨rfl, rfl⟩)
            | (at_builtin; go_loud (refine wpList_append_or _ rfl _ _ 22 rfl base 78 i0 (.int .u32 0) 1 4 Tryz.underlying22 hi0 hz0 hz1 hz2 rfl (by decide) _ _ _ rfl (World.ownsRow.alloc hrow _) ⟨wr.heap.size, 0, none⟩ 1 1 [_] rfl rfl (one_new _ _ _ _ (by simp)) (by simp [Value.oneCell']) (by rw [List.length_replicate]; exact small_max (by omega)) (by rw [List.length_replicate]; omega) (by simp; omega) ?_); intro v' w3 hown' hor))
          rw [HMK.out] at hown'
          have hst := GrowI.step hD.out hFo.out hlt HF.out.2.2.2.2.1 hhS (by omega) HF.out rfl hown' hor
          obtain ⟨row, hrw, hlow⟩ := hst.2
          have HG := Lib.hid hst.1
          have HB2 := Lib.hid ((HB.out.alloc _).kept hrw (fun e => by rcases hlow hb e.symm with h | h <;> omega))
          clear hown' hor hst hrw hlow hrow
          go_roundg (40 - (k + 1))
          case measure => omega
          case rel => exact ⟨k + 1, by omega, by simp, HG, HB2⟩
        · obtain rfl : k = 40 := by omega
          have hr2 := HF.out.2.1.c2
          obtain ⟨_, s1, s2⟩ := HF.out.2.2.1.2 i hlt
          rw [HF.out.1 i (Nat.le_refl _)] at s1
          have s3 := HF.out.2.2.1.fr (i * 3 + 1)
          have hN1 := HF.out.next hD.out hlt hhS (by omega)
          have hn1 := HF.out.2.2.2.2.2.2.2.2.1.form
          obtain ⟨g4, c4, e4⟩ : ∃ g4 c4, u4 = .slice (some ⟨g4, 0, none⟩) (L i + 40) c4 := by
            rcases hn1 with ⟨_, e2⟩ | ⟨g, c, e, _⟩
            · have := congrArg List.length e2
              simp at this
            · rw [List.length_replicate] at e; exact ⟨g, c, e⟩
          rw [e4] at hN1 ⊢
          have HN1 := Lib.hid hN1
          clear hn1 hN1 e4 HF HB s2
          go_wp2
          go_roundg (N - (i + 1))
          case measure => omega
          case rel => exact ⟨i + 1, by omega, by simp, HN1⟩
    · obtain rfl : i = N := by omega
      have r1 : wr.cell? ⟨B, 2, none⟩ = some (.slice (some ⟨h, 0, none⟩) i cap) := by obtain ⟨G, _, h1, _⟩ := HK.out; exact h1.c2
      go_wp2
      go_end0
      exact ⟨rfl, HK.out⟩

end Go.Proofs.YtmbnojkciikobaaGreatDoor
