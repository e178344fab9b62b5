/- A book's rows of fractions are grown. -/
import Derived.Test.YtkkahghhheameaaDoorBkRaF
namespace Go.Proofs.YtkkahghhheameaaDoor
open Go Go.Proofs Go.RowKit Go.Shelf

attribute [local go_sem] Oper.semAt_some
set_option maxRecDepth 100000
theorem info_ratQ : (Tryd.prog.info? 47).map (fun i => (i.zero, i.size, i.bytes)) = some (some (.agg #[.bool false, .slice none 0 0, .slice none 0 0]), 3, 56) := by kernel_rfl
theorem small_maxR {n : Nat} (h : n ≤ 10000000) : n ≤ maxLen := by unfold maxLen; omega
set_option maxHeartbeats 4000000 in
theorem growRa_any {W0 w W : World} {base B h n N cap S0 S : Nat} {f : Nat → Value} {A : Nat → Option Addr} {L C M : Nat → Nat} (hS : S ≤ W0.heap.size) (D : WLies W0 base B h N A L C M) (hfo : QForms N A L C) (hN : N ≤ cap) (hf : f 8 = .slice (some ⟨h, 0, none⟩) N cap) (hhS : h < S0) (hS00 : W0.heap.size ≤ S0) (F : WGrowO W0 w 47 62 3 (PRat S) base B h n N f A L C M S0 0 W) :
    Calls Tryd.prog 33 #[.pointer (some ⟨B, 0, none⟩)] W fun e w' => e = .returned (.tuple #[]) ∧ WGrowO W0 w 47 62 3 (PRat S) base B h n N f A L C M S0 N w' := by
  obtain ⟨i0, hi0, hz0, hz1, hz2⟩ := q_info info_ratQ
  have hD := Lib.hid D
  have hF := Lib.hid F
  have hFo := Lib.hid hfo
  have hfew := D.few
  have hSW := Lib.hid hS
  have Hf := Lib.hid hf
  have HI0 := Lib.hid hi0
  have HZ0 := Lib.hid hz0
  have HZ1 := Lib.hid hz1
  have HZ2 := Lib.hid hz2
  clear D F hf hfo hS hi0 hz0 hz1 hz2
  go_enter Tryd.func33, Tryd.ntmps33
  go_wp2
  go_loopg [2] N (fun g s wr => ∃ i : Nat, i + g = N ∧ s = .int .i64 (i : Int) ∧ Hid (WGrowO W0 w 47 62 3 (PRat S) base B h n N f A L C M S0 i wr))
  case atStart => exact ⟨0, by omega, rfl, hF⟩
  case round =>
    clear hF
    obtain ⟨i, hi, rfl, HK⟩ := hrel
    have r1 : wr.cell? ⟨B, 8, none⟩ = some (.slice (some ⟨h, 0, none⟩) N cap) := by
      obtain ⟨G, _, _, h0, h1, _⟩ := HK.out
      exact h1.cell 8 _ (by rw [← Hf.out]; rfl)
    by_cases hlt : i < N
    · obtain ⟨c0, c1, c2, hbs, hS0⟩ : wr.cell? ⟨h, i * 3, none⟩ = some (.slice (A i) (L i) (C i)) ∧ wr.cell? ⟨h, i * 3 + 1, none⟩ = some (.slice none 0 0) ∧ wr.cell? ⟨h, i * 3 + 2, none⟩ = some (.int .i64 (M i : Int)) ∧ B < wr.heap.size ∧ S0 ≤ wr.heap.size := by
        obtain ⟨G, _, _, h0, h1, h2, _, h4, _⟩ := HK.out
        have k := h2.2 i hlt
        rw [h0 i (Nat.le_refl _)] at k
        exact ⟨k.1, k.2.1, k.2.2, h1.lt, h4⟩
      have hLi := (hD.out).len i hlt
      have hMi := (hD.out).num i hlt
      have hHB := Lib.hid (QBox.new 62 wr (.slice (A i) (L i) (C i)) (.slice none 0 0) (M i))
      obtain ⟨G, X, Y, hFA⟩ := HK.out.inner (marksRat S) hD.out hlt (.cells #[.slice (A i) (L i) (C i), (.slice none 0 0), .int .i64 (M i : Int)] 62)
      have HFA := Lib.hid hFA
      clear hFA
      go_wp2
      obtain ⟨hb, hhb⟩ : ∃ hb, hb = wr.heap.size := ⟨_, rfl⟩
      rw [← hhb] at hHB HFA hbs hS0 ⊢
      obtain ⟨wo, hwo⟩ : ∃ wo, wo = wr.alloc (.cells #[.slice (A i) (L i) (C i), (.slice none 0 0), .int .i64 (M i : Int)] 62) := ⟨_, rfl⟩
      rw [← hwo] at hHB HFA ⊢
      have q0 := hHB.out.c0
      clear hwo hhb HK r1 c0 c1 c2
      go_wp2
      go_loopg [4, 5] 40 (fun g u s wy => ∃ (k : Nat) (U : List Value), k + g = 40 ∧ s = .int .i64 (k : Int) ∧ Hid (WGrowI W0 w 47 62 3 (PRat S) base B h n N f A L C M S0 (hb + 1) G X Y i k u U wy) ∧ Hid (QBox 62 wy hb (.slice (A i) (L i) (C i)) (.slice none 0 0) (M i)))
      case atStart => exact ⟨0, _, by omega, rfl, HFA, hHB⟩
      case round =>
        clear HFA hHB q0
        obtain ⟨k, U, hk, rfl, HF, HB⟩ := hrel
        have r2 := HB.out.c2
        by_cases hk4 : k < 40
        · have kM := fun W => markRa_any (M i) hMi W
          have KM := Lib.hid kM
          clear kM
          go_wp2_with (first
            | (go_at_call 64; (with_reducible refine (KM.out _).mono ?_); rintro e w5 ⟨b5, rfl, q5⟩; have HF5 := Lib.hid (HF.out.on (marksRat S) hD.out (q_bg q5.2.1)); have HB5 := Lib.hid (HB.out.kept (q_bg q5.2.1) (by simp)); have hcs5 := Lib.hid (PRat.one (Nat.le_trans (Nat.le_trans hSW.out HF.out.2.2.2.2.2.1.1) q5.1) q5.2.2); have hrow5 := Lib.hid (HF5.out.2.2.2.2.2.2.2.2.2.2.1); have hsz5 := Lib.hid (show base ≤ w5.heap.size ∧ hb + 1 ≤ w5.heap.size from ⟨Nat.le_trans hD.out.base (Nat.le_of_lt HF5.out.2.1.lt), HF5.out.2.2.2.2.1⟩); clear q5)
            | (at_builtin; go_loud (refine qwpList_append_or _ rfl _ _ 22 rfl base 47 i0 (.agg #[.bool false, .slice none 0 0, .slice none 0 0]) 3 56 Tryd.underlying22 HI0.out HZ0.out HZ1.out HZ2.out rfl (by decide) _ _ _ rfl (World.ownsRow.alloc hrow5.out _) ⟨w5.heap.size, 0, none⟩ 1 1 [.bool false, .slice none 0 0, .slice (some ⟨b5, 0, none⟩) 1 1] rfl rfl (World.news_of_block (cs := #[.bool false, .slice none 0 0, .slice (some ⟨b5, 0, none⟩) 1 1]) (t := 47) (fr := (0, 0)) (q_new w5 _)) (by simp [Value.oneCell']) (small_maxR (by omega)) (by omega) (by have := hsz5.out; simp; omega) ?_); intro v' w3 qown qor; have hown' := Lib.hid qown; have hor := Lib.hid qor; clear qown qor; refine Hid.out ?_))
          refine Lib.hid ?_
          have hst := WGrowI.step (o := .cells #[.bool false, .slice none 0 0, .slice (some ⟨b5, 0, none⟩) 1 1] 47) (marksRat S) (by decide) hcs5.out hD.out hFo.out hlt HF5.out.2.2.2.2.1 hhS (by omega) hS00 HF5.out hown'.out hor.out
          obtain ⟨row, hrw, hlow⟩ := hst.2
          have HG := Lib.hid hst.1
          have HB2 := Lib.hid ((HB5.out.alloc _).kept hrw (fun e => by rcases hlow hb e.symm with h | h <;> omega))
          clear hown' hor hst hrw hlow
          go_wp2
          go_roundg (40 - (k + 1))
          case measure => omega
          case rel => exact ⟨k + 1, _, by omega, by simp, HG, HB2⟩
        · obtain rfl : k = 40 := by omega
          have hr2 := HF.out.2.1.cell 8 (.slice (some ⟨h, 0, none⟩) N cap) (by rw [← Hf.out]; rfl)
          obtain ⟨_, s1, s2⟩ := HF.out.2.2.1.2 i hlt
          rw [HF.out.1 i (Nat.le_refl _)] at s1
          have s3 := HF.out.2.2.1.fr (i * 3 + 1)
          have hN1 := HF.out.next (marksRat S) (by decide) hD.out hlt hhS (by omega)
          obtain ⟨g4, c4, e4⟩ : ∃ g4 c4, u4 = .slice (some ⟨g4, 0, none⟩) (L i + 40) c4 := by
            have hown := HF.out.2.2.2.2.2.2.2.2.2.2.1
            rcases hown.2 with ⟨_, h0⟩ | ⟨g, c, cur, e, _⟩
            · omega
            · exact ⟨g, c, e⟩
          rw [e4] at hN1 ⊢
          have HN1 := Lib.hid hN1
          clear hN1 e4 HF HB s2
          go_wp2
          go_roundg (N - (i + 1))
          case measure => omega
          case rel => exact ⟨i + 1, by omega, by simp, HN1⟩
    · obtain rfl : i = N := by omega
      go_wp2
      go_end0
      exact ⟨rfl, HK.out⟩
end Go.Proofs.YtkkahghhheameaaDoor
