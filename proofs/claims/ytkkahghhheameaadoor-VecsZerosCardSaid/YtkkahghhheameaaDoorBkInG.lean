/- A book's tokens are grown. -/
import Derived.Test.YtkkahghhheameaaDoorBkInF
namespace Go.Proofs.YtkkahghhheameaaDoor
open Go Go.Proofs Go.RowKit Go.Shelf

attribute [local go_sem] Oper.semAt_some
set_option maxRecDepth 100000
theorem info_elIn : (Tryd.prog.info? 58).map (fun i => (i.zero, i.size, i.bytes)) = some (some (.int .u32 0), 1, 4) := by kernel_rfl
theorem small_maxIn {n : Nat} (h : n ≤ 10000000) : n ≤ maxLen := by unfold maxLen; omega
set_option maxHeartbeats 4000000 in
theorem growIn_any {W0 w W : World} {base B h n N cap S0 : Nat} {f : Nat → Value} {A : Nat → Option Addr} {L C M : Nat → Nat} (D : QLies W0 base B h N A L C M) (hfo : QForms N A L C) (hN : N ≤ cap) (hf : f 2 = .slice (some ⟨h, 0, none⟩) N cap) (hhS : h < S0) (hS00 : W0.heap.size ≤ S0) (F : QGrowO W0 w 58 1 mkIn base B h n N f A L C M S0 0 W) :
    Calls Tryd.prog 27 #[.pointer (some ⟨B, 0, none⟩)] W fun e w' => e = .returned (.tuple #[]) ∧ QGrowO W0 w 58 1 mkIn base B h n N f A L C M S0 N w' := by
  obtain ⟨i0, hi0, hz0, hz1, hz2⟩ := q_info info_elIn
  have hD := Lib.hid D
  have hF := Lib.hid F
  have hFo := Lib.hid hfo
  have hfew := D.few
  have Hf := Lib.hid hf
  have HI0 := Lib.hid hi0
  have HZ0 := Lib.hid hz0
  have HZ1 := Lib.hid hz1
  have HZ2 := Lib.hid hz2
  clear D F hf hfo hi0 hz0 hz1 hz2
  go_enter Tryd.func27, Tryd.ntmps27
  go_wp2
  go_loopg [2] N (fun g s wr => ∃ i : Nat, i + g = N ∧ s = .int .i64 (i : Int) ∧ Hid (QGrowO W0 w 58 1 mkIn base B h n N f A L C M S0 i wr))
  case atStart => exact ⟨0, by omega, rfl, hF⟩
  case round =>
    clear hF
    obtain ⟨i, hi, rfl, HK⟩ := hrel
    have r1 : wr.cell? ⟨B, 2, none⟩ = some (.slice (some ⟨h, 0, none⟩) N cap) := by
      obtain ⟨G, h0, h1, _⟩ := HK.out
      exact h1.cell 2 _ (by rw [← Hf.out]; rfl)
    by_cases hlt : i < N
    · obtain ⟨c0, c1, c2, hbs, hS0⟩ : wr.cell? ⟨h, i * 3, none⟩ = some (.slice (A i) (L i) (C i)) ∧ wr.cell? ⟨h, i * 3 + 1, none⟩ = some (.slice none 0 0) ∧ wr.cell? ⟨h, i * 3 + 2, none⟩ = some (.int .i64 (M i : Int)) ∧ B < wr.heap.size ∧ S0 ≤ wr.heap.size := by
        obtain ⟨G, h0, h1, h2, _, h4, _⟩ := HK.out
        have k := h2.2 i hlt
        rw [h0 i (Nat.le_refl _)] at k
        exact ⟨k.1, k.2.1, k.2.2, h1.lt, h4⟩
      have hLi := (hD.out).len i hlt
      have hMi := (hD.out).num i hlt
      have hHB := Lib.hid (QBox.new 68 wr (.slice (A i) (L i) (C i)) (.slice none 0 0) (M i))
      obtain ⟨G, hFA⟩ := HK.out.inner hD.out hlt (.cells #[.slice (A i) (L i) (C i), (.slice none 0 0), .int .i64 (M i : Int)] 68)
      have HFA := Lib.hid hFA
      clear hFA
      go_wp2
      obtain ⟨hb, hhb⟩ : ∃ hb, hb = wr.heap.size := ⟨_, rfl⟩
      rw [← hhb] at hHB HFA hbs hS0 ⊢
      obtain ⟨wo, hwo⟩ : ∃ wo, wo = wr.alloc (.cells #[.slice (A i) (L i) (C i), (.slice none 0 0), .int .i64 (M i : Int)] 68) := ⟨_, rfl⟩
      rw [← hwo] at hHB HFA ⊢
      have q0 := hHB.out.c0
      clear hwo hhb HK r1 c0 c1 c2
      go_wp2
      go_loopg [4, 5] 40 (fun g u s wy => ∃ k : Nat, k + g = 40 ∧ s = .int .i64 (k : Int) ∧ Hid (QGrowI W0 w 58 1 mkIn base B h n N f A L C M S0 (hb + 1) G i k u wy) ∧ Hid (QBox 68 wy hb (.slice (A i) (L i) (C i)) (.slice none 0 0) (M i)))
      case atStart => exact ⟨0, by omega, rfl, HFA, hHB⟩
      case round =>
        clear HFA hHB q0
        obtain ⟨k, hk, rfl, HF, HB⟩ := hrel
        have r2 := HB.out.c2
        by_cases hk4 : k < 40
        · have kM := fun W => markIn_any (M i) hMi W
          obtain ⟨D1, hD1⟩ : ∃ D, D = (1000 + (M i : Int)) := ⟨_, rfl⟩
          rw [← hD1] at kM
          have HD1 := Lib.hid hD1
          have KM := Lib.hid kM
          clear hD1 kM
          go_wp2_with (first
            | (go_at_call 58; (with_reducible refine (KM.out _).mono ?_); rintro e w5 ⟨rfl, q5⟩; have HF5 := Lib.hid (HF.out.on hD.out (q_bg q5)); have HB5 := Lib.hid (HB.out.kept (q_bg q5) (by simp)); have hrow5 := Lib.hid (HF5.out.2.2.2.2.2.2.2.2.2.1); have hsz5 := Lib.hid (show base ≤ w5.heap.size ∧ hb + 1 ≤ w5.heap.size from ⟨Nat.le_trans hD.out.base (Nat.le_of_lt HF5.out.2.1.lt), HF5.out.2.2.2.2.1⟩); clear q5)
            | (at_builtin; go_loud (refine qwpList_append_or _ rfl _ _ 42 rfl base 58 i0 (.int .u32 0) 1 4 Tryd.underlying42 HI0.out HZ0.out HZ1.out HZ2.out rfl (by decide) _ _ _ rfl (World.ownsRow.alloc hrow5.out _) ⟨w5.heap.size, 0, none⟩ 1 1 [.int .u32 D1] rfl rfl (World.news_of_block (cs := #[.int .u32 D1]) (t := 58) (fr := (0, 0)) (q_new w5 _)) (by simp [Value.oneCell']) (small_maxIn (by omega)) (by omega) (by have := hsz5.out; simp; omega) ?_); intro v' w3 qown qor; have hown' := Lib.hid qown; have hor := Lib.hid qor; clear qown qor; refine Hid.out ?_))
          refine Lib.hid ?_
          have hst := QGrowI.step (o := .cells #[.int .u32 D1] 58) marksIn hD.out hFo.out hlt HF5.out.2.2.2.2.1 hhS (by omega) hS00 HF5.out (by have h := hown'.out; rw [HD1.out] at h; exact h) hor.out
          obtain ⟨row, hrw, hlow⟩ := hst.2
          have HG := Lib.hid hst.1
          have HB2 := Lib.hid ((HB5.out.alloc _).kept hrw (fun e => by rcases hlow hb e.symm with h | h <;> omega))
          clear hown' hor hst hrw hlow
          go_wp2
          go_roundg (40 - (k + 1))
          case measure => omega
          case rel => exact ⟨k + 1, by omega, by simp, HG, HB2⟩
        · obtain rfl : k = 40 := by omega
          have hr2 := HF.out.2.1.cell 2 (.slice (some ⟨h, 0, none⟩) N cap) (by rw [← Hf.out]; rfl)
          obtain ⟨_, s1, s2⟩ := HF.out.2.2.1.2 i hlt
          rw [HF.out.1 i (Nat.le_refl _)] at s1
          have s3 := HF.out.2.2.1.fr (i * 3 + 1)
          have hN1 := HF.out.next hD.out hlt hhS (by omega)
          obtain ⟨g4, c4, e4⟩ : ∃ g4 c4, u4 = .slice (some ⟨g4, 0, none⟩) (L i + 40) c4 := by
            have hown := HF.out.2.2.2.2.2.2.2.2.2.1
            rcases hown.2 with ⟨_, h0⟩ | ⟨g, c, cur, e, _⟩
            · omega
            · exact ⟨g, c, e⟩
          rw [e4] at hN1 ⊢
          have HN1 := Lib.hid hN1
          clear hN1 e4 HF HB s2
          go_wp2
          go_roundg (N - (i + 1))
          case measure => omega
          case rel => exact ⟨i + 1, by omega, by simp, HN1⟩
    · obtain rfl : i = N := by omega
      go_wp2
      go_end0
      exact ⟨rfl, HK.out⟩
end Go.Proofs.YtkkahghhheameaaDoor
