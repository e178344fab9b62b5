/- A book's rows of fractions are filled with marks. -/
import Derived.Test.YtkkahghhheameaaDoorBkRaT
namespace Go.Proofs.YtkkahghhheameaaDoor
open Go Go.Proofs Go.RowKit Go.Shelf

attribute [local go_sem] Oper.semAt_some
set_option maxRecDepth 100000
set_option maxHeartbeats 4000000 in
theorem fillRa_any {W0 w W : World} {base B h n N cap S : Nat} {f : Nat → Value} {A : Nat → Option Addr} {L C M : Nat → Nat} (hS : S ≤ W0.heap.size) (D : WLies W0 base B h N A L C M) (hN : N ≤ cap) (hf : f 8 = .slice (some ⟨h, 0, none⟩) N cap) (F : WFill W0 w 47 62 3 (PRat S) base B h n N f A L C M 0 0 W) :
    Calls Tryd.prog 21 #[.pointer (some ⟨B, 0, none⟩)] W fun e w' => e = .returned (.tuple #[]) ∧ WFill W0 w 47 62 3 (PRat S) base B h n N f A L C M N 0 w' := by
  have hD := Lib.hid D
  have hF := Lib.hid F
  have hfew := D.few
  have hS0 := Lib.hid hS
  have Hf := Lib.hid hf
  clear D F hf hS
  go_enter Tryd.func21, Tryd.ntmps21
  go_wp2
  go_loopg [2] N (fun g s wr => ∃ i : Nat, i + g = N ∧ s = .int .i64 (i : Int) ∧ Hid (WFill W0 w 47 62 3 (PRat S) base B h n N f A L C M i 0 wr))
  case atStart => exact ⟨0, by omega, rfl, hF⟩
  case round =>
    clear hF
    obtain ⟨i, hi, rfl, HK⟩ := hrel
    have r1 := HK.out.1.cell 8 (.slice (some ⟨h, 0, none⟩) N cap) (by rw [← Hf.out]; rfl)
    by_cases hlt : i < N
    · obtain ⟨c0, c1, c2⟩ := HK.out.2.1.2 i hlt
      have hbs := HK.out.1.lt
      have hW0 := HK.out.2.2.2.1.1
      dsimp only at c0
      have hLi := (hD.out).len i hlt
      have hMi := (hD.out).num i hlt
      have hHB := Lib.hid (QBox.new 62 wr (.slice (A i) (L i) (C i)) (.slice none 0 0) (M i))
      have hFA := Lib.hid (HK.out.alloc (marksRat S) hD.out (.cells #[.slice (A i) (L i) (C i), .slice none 0 0, .int .i64 (M i : Int)] 62))
      go_wp2
      obtain ⟨hb, hhb⟩ : ∃ hb, hb = wr.heap.size := ⟨_, rfl⟩
      rw [← hhb] at hHB hbs hW0 ⊢
      obtain ⟨wo, hwo⟩ : ∃ wo, wo = wr.alloc (.cells #[.slice (A i) (L i) (C i), .slice none 0 0, .int .i64 (M i : Int)] 62) := ⟨_, rfl⟩
      rw [← hwo] at hHB hFA ⊢
      clear hwo hhb HK r1 c0 c1 c2
      go_loopg [4] (L i) (fun g s wy => ∃ k : Nat, k + g = L i ∧ s = .int .i64 (k : Int) ∧ Hid (WFill W0 w 47 62 3 (PRat S) base B h n N f A L C M i k wy) ∧ Hid (QBox 62 wy hb (.slice (A i) (L i) (C i)) (.slice none 0 0) (M i)))
      case atStart => exact ⟨0, by omega, rfl, hFA, hHB⟩
      case round =>
        clear hFA hHB
        obtain ⟨k, hk, rfl, HF, HB⟩ := hrel
        have r1 := HB.out.c0
        have r2 := HB.out.c2
        by_cases hkl : k < L i
        · obtain ⟨g, ea, hg, hcap, hcell, hfr⟩ := HF.out.form i hlt (by omega)
          have kM := fun W => markRa_any (M i) hMi W
          have KM := Lib.hid kM
          have EA := Lib.hid ea
          have hgb : hb ≠ g := by
            have := hD.out.blk i g hlt (by rw [ea]; rfl)
            omega
          rw [ea] at r1
          have KX := Lib.hid (show ∀ (w5 : World) (b5 : Nat), wr.drew.heap.size ≤ b5 ∧ Below wr.drew.heap.size wr.drew w5 ∧ w5.heap[b5]? = some (.cells #[.int .u32 (1000 + (M i : Int))] 58 (0, 0)) → WFill W0 w 47 62 3 (PRat S) base B h n N f A L C M i k w5 ∧ QBox 62 w5 hb (.slice (A i) (L i) (C i)) (.slice none 0 0) (M i) ∧ w5.cell? ⟨hb, 0, none⟩ = some (.slice (some ⟨g, 0, none⟩) (L i) (C i)) ∧ w5.cell? ⟨hb, 2, none⟩ = some (.int .i64 (M i : Int)) ∧ (∃ x0 x1 x2, w5.cell? ⟨g, k * 3, none⟩ = some x0 ∧ w5.cell? ⟨g, k * 3 + 1, none⟩ = some x1 ∧ w5.cell? ⟨g, k * 3 + 2, none⟩ = some x2) ∧ (∀ o, w5.frozen? ⟨g, o, none⟩ = false) ∧ S ≤ b5 ∧ w5.heap[b5]? = some (.cells #[.int .u32 (1000 + (M i : Int))] 58 (0, 0)) from fun w5 b5 q5 => by
            have F5 := (HF.out.drew (marksRat S) hD.out).on (marksRat S) hD.out (q_bg q5.2.1)
            have B5 : QBox 62 w5 hb (.slice (A i) (L i) (C i)) (.slice none 0 0) (M i) := QBox.kept (W := wr.drew) HB.out (q_bg q5.2.1) (by simp)
            obtain ⟨g', ea', _, _, hc', hf'⟩ := F5.form i hlt (by omega)
            rw [ea] at ea'
            obtain rfl : g = g' := by simpa using ea'
            obtain ⟨x0, h0⟩ := hc' (k * 3) (by omega)
            obtain ⟨x1, h1⟩ := hc' (k * 3 + 1) (by omega)
            obtain ⟨x2, h2⟩ := hc' (k * 3 + 2) (by omega)
            have hc0 := B5.c0
            rw [ea] at hc0
            exact ⟨F5, B5, hc0, B5.c2, ⟨x0, x1, x2, h0, h1, h2⟩, hf', Nat.le_trans (Nat.le_trans hS0.out HF.out.2.2.2.1.1) q5.1, q5.2.2⟩)
          have KP := Lib.hid (show ∀ (w5 : World) (b5 : Nat), WFill W0 w 47 62 3 (PRat S) base B h n N f A L C M i k w5 ∧ QBox 62 w5 hb (.slice (A i) (L i) (C i)) (.slice none 0 0) (M i) ∧ S ≤ b5 ∧ w5.heap[b5]? = some (.cells #[.int .u32 (1000 + (M i : Int))] 58 (0, 0)) → WFill W0 w 47 62 3 (PRat S) base B h n N f A L C M i (k + 1) (((w5.setCell ⟨g, k * 3, none⟩ (.bool false)).setCell ⟨g, k * 3 + 1, none⟩ (.slice none 0 0)).setCell ⟨g, k * 3 + 2, none⟩ (.slice (some ⟨b5, 0, none⟩) 1 1)) ∧ QBox 62 (((w5.setCell ⟨g, k * 3, none⟩ (.bool false)).setCell ⟨g, k * 3 + 1, none⟩ (.slice none 0 0)).setCell ⟨g, k * 3 + 2, none⟩ (.slice (some ⟨b5, 0, none⟩) 1 1)) hb (.slice (A i) (L i) (C i)) (.slice none 0 0) (M i) ∧ (((w5.setCell ⟨g, k * 3, none⟩ (.bool false)).setCell ⟨g, k * 3 + 1, none⟩ (.slice none 0 0)).setCell ⟨g, k * 3 + 2, none⟩ (.slice (some ⟨b5, 0, none⟩) 1 1)).cell? ⟨hb, 0, none⟩ = some (.slice (some ⟨g, 0, none⟩) (L i) (C i)) ∧ (((w5.setCell ⟨g, k * 3, none⟩ (.bool false)).setCell ⟨g, k * 3 + 1, none⟩ (.slice none 0 0)).setCell ⟨g, k * 3 + 2, none⟩ (.slice (some ⟨b5, 0, none⟩) 1 1)).cell? ⟨hb, 2, none⟩ = some (.int .i64 (M i : Int)) from fun w5 b5 q5 => by
            have h1 := q5.1.put (marksRat S) (by decide) hD.out ea hlt hkl (PRat.one q5.2.2.1 q5.2.2.2)
            rw [rmark] at h1
            refine ⟨h1, ?_⟩
            obtain ⟨xs, hx, _⟩ := q5.1.2.2.2.2.2 i hlt
            rw [ea] at hx
            have h2 := (q_setCells (rmark b5) (k * 3) hx).2
            rw [rmark] at h2
            have hq : QBox 62 (((w5.setCell ⟨g, k * 3, none⟩ (.bool false)).setCell ⟨g, k * 3 + 1, none⟩ (.slice none 0 0)).setCell ⟨g, k * 3 + 2, none⟩ (.slice (some ⟨b5, 0, none⟩) 1 1)) hb (.slice (A i) (L i) (C i)) (.slice none 0 0) (M i) := q5.2.1.kept h2 (by simpa using hgb)
            refine ⟨hq, ?_, hq.c2⟩
            rw [← ea]; exact hq.c0)
          clear hcell hfr ea kM
          go_wp2
          go_region_held3 (fun w' => w'.cell? ⟨hb, 0, none⟩ = some (.slice (some ⟨g, 0, none⟩) (L i) (C i)) ∧ w'.cell? ⟨hb, 2, none⟩ = some (.int .i64 (M i : Int)))
            (first
              | (exact ⟨X5.out.2.2.1, X5.out.2.2.2.1⟩)
              | (exact ⟨r1, r2⟩)
              | (exact ⟨(KP.out _ _ ⟨X5.out.1, X5.out.2.1, X5.out.2.2.2.2.2.2⟩).2.2.1, (KP.out _ _ ⟨X5.out.1, X5.out.2.1, X5.out.2.2.2.2.2.2⟩).2.2.2⟩)
              | fail)
            ((first
              | (go_at_call 64; (with_reducible refine (KM.out _).mono ?_); rintro e w5 ⟨b5, rfl, q5⟩; have X5 := Lib.hid (KX.out _ _ q5); clear q5; obtain ⟨x0, x1, x2, z0, z1, z2⟩ := X5.out.2.2.2.2.1; have z3 := X5.out.2.2.2.2.2.1)))
          go_wp2
          go_roundg (L i - (k + 1))
          case measure => omega
          case rel =>
            have HP := KP.out w5 _ ⟨X5.out.1, X5.out.2.1, X5.out.2.2.2.2.2.2⟩
            exact ⟨k + 1, by omega, by simp, Lib.hid (by first | exact HP.1 | exact HP.1.drew (marksRat S) hD.out), Lib.hid (by first | exact HP.2.1 | exact (show QBox _ _ _ _ _ _ from HP.2.1))⟩
        · obtain rfl : k = L i := by omega
          have HN := Lib.hid (HF.out.next (marksRat S))
          obtain ⟨z, hz⟩ : ∃ z, z = L i := ⟨_, rfl⟩
          rw [← hz] at r1 ⊢
          clear hz HF HB
          go_wp2
          go_roundg (N - (i + 1))
          case measure => omega
          case rel => exact ⟨i + 1, by omega, by simp, HN⟩
    · obtain rfl : i = N := by omega
      go_wp2
      go_end0
      exact ⟨rfl, HK.out⟩
end Go.Proofs.YtkkahghhheameaaDoor
