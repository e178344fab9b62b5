/- A book's tokens are looked at. -/
import Derived.Test.YtkkahghhheameaaDoorBkInG
namespace Go.Proofs.YtkkahghhheameaaDoor
open Go Go.Proofs Go.RowKit Go.Shelf

attribute [local go_sem] Oper.semAt_some
set_option maxRecDepth 100000
theorem wpOp_introIn {P : Program} {ops : Array Oper} {Q : Exit → Act → World → Prop} {i : Nat} {o : Oper} {K : Act → World → Prop} {a : Act} {w : World} (ho : ops[i]? = some o)
    (h : ∀ K' : Act → World → Prop, (∀ a w, K a w → K' a w) → if Region.wanted o (yielded ops a.tmps) then o.wp P a w K' Q else K' (a.put o.dst undef) w) : wpOp P ops Q i K a w := by
  have := h K (fun _ _ h => h)
  unfold wpOp
  simp only [ho]
  split
  · rename_i hw; simp only [hw, if_true] at this; exact .inl this
  · rename_i hw; simp only [hw] at this; exact this
theorem rd_markIn {W : World} {b off n cap m k : Nat} (h : RdC W (.slice (some ⟨b, off, none⟩) n cap) n (rep mkIn n m)) (hk : k < n) : W.cell? ⟨b, off + k, none⟩ = some (.int .u32 (1000 + (m : Int))) := by
  obtain ⟨a, c, e, _, h⟩ := h
  obtain ⟨b', o', e', _, hc⟩ := h (by omega)
  simp only [Value.slice.injEq] at e
  have e2 := e.1.trans e'
  simp only [Option.some.injEq, Addr.mk.injEq, and_true] at e2
  obtain ⟨rfl, rfl⟩ := e2
  have g := rep_get marksIn n m k 0 hk (by decide)
  rw [Nat.mul_one, Nat.add_zero] at g
  exact hc k _ g
theorem rd_addrIn {W : World} {a : Option Addr} {n cap : Nat} {xs : List Value} (h : RdC W (.slice a n cap) n xs) (h0 : 0 < n) : ∃ b off, a = some ⟨b, off, none⟩ ∧ n ≤ cap := by
  obtain ⟨a', c, e, hc, h⟩ := h
  simp only [Value.slice.injEq] at e
  obtain ⟨rfl, _, rfl⟩ := e
  obtain ⟨b, off, e', _⟩ := h h0
  exact ⟨b, off, e', hc⟩
set_option maxHeartbeats 8000000 in
theorem lookIn_any {W0 w W : World} {base B h n N cap : Nat} {f : Nat → Value} {A : Nat → Option Addr} {L C M : Nat → Nat} {G : Nat → Value} (D : QLies W0 base B h N A L C M) (hN : N ≤ cap) (hf : f 2 = .slice (some ⟨h, 0, none⟩) N cap) (F : QLook W0 w mkIn base B h n N f A L C M G W) :
    Calls Tryd.prog 39 #[.pointer (some ⟨B, 0, none⟩)] W fun e w' => e = .returned (.bool true) ∧ QLook W0 w mkIn base B h n N f A L C M G w' := by
  have hD := Lib.hid D
  have hF := Lib.hid F
  have hfew := D.few
  have Hf := Lib.hid hf
  clear D F hf
  go_enter Tryd.func39, Tryd.ntmps39
  go_wp2
  go_loopg [3] N (fun g s wr => ∃ i : Nat, i + g = N ∧ s = .int .i64 (i : Int) ∧ Hid (QLook W0 w mkIn base B h n N f A L C M G wr))
  case atStart => exact ⟨0, by omega, rfl, hF⟩
  case round =>
    clear hF
    obtain ⟨i, hi, rfl, HK⟩ := hrel
    have r1 := HK.out.1.cell 2 (.slice (some ⟨h, 0, none⟩) N cap) (by rw [← Hf.out]; rfl)
    by_cases hlt : i < N
    · obtain ⟨c0, c1, c2⟩ := HK.out.2.1.2 i hlt
      have hbs := HK.out.1.lt
      dsimp only at c0
      have hLi := (hD.out).len i hlt
      have hMi := (hD.out).num i hlt
      obtain ⟨K1, hK1⟩ : ∃ K1, K1 = L i + 40 := ⟨_, rfl⟩
      have hK2 : (L i : Int) + 40 = (K1 : Int) := by omega
      obtain ⟨a1, p1, e1, _⟩ := (HK.out.2.2.2.2.2 i hlt).2
      rw [← hK1] at e1
      rw [e1] at c1
      have HK1 := Lib.hid hK1
      have E1 := Lib.hid e1
      have hHB := Lib.hid (QBox.new 68 wr (.slice (A i) (L i) (C i)) (.slice a1 K1 p1) (M i))
      have hFA := Lib.hid (HK.out.alloc (.cells #[.slice (A i) (L i) (C i), .slice a1 K1 p1, .int .i64 (M i : Int)] 68))
      clear hK1 e1
      go_wp2
      obtain ⟨hb, hhb⟩ : ∃ hb, hb = wr.heap.size := ⟨_, rfl⟩
      rw [← hhb] at hHB hbs ⊢
      obtain ⟨wo, hwo⟩ : ∃ wo, wo = wr.alloc (.cells #[.slice (A i) (L i) (C i), .slice a1 K1 p1, .int .i64 (M i : Int)] 68) := ⟨_, rfl⟩
      rw [← hwo] at hHB hFA ⊢
      have q0 := hHB.out.c0
      have q1 := hHB.out.c1
      clear hwo hhb HK r1 c0 c1 c2
      go_wp2
      clear q0 q1
      go_loopg [5] K1 (fun g s wy => ∃ k : Nat, k + g = K1 ∧ s = .int .i64 (k : Int) ∧ Hid (QLook W0 w mkIn base B h n N f A L C M G wy ∧ QBox 68 wy hb (.slice (A i) (L i) (C i)) (.slice a1 K1 p1) (M i)))
      case atStart => exact ⟨0, by omega, rfl, Lib.hid ⟨hFA.out, hHB.out⟩⟩
      case round =>
        clear hFA hHB
        obtain ⟨k, hk, rfl, HF⟩ := hrel
        have q1 := HF.out.2.c1
        by_cases hkl : k < K1
        · obtain ⟨D1, hD1⟩ : ∃ D, D = (1000 + (M i : Int)) := ⟨_, rfl⟩
          have HD1 := Lib.hid hD1
          have KI := Lib.hid (show ∀ W, Calls Tryd.prog 70 #[.int .u32 D1, .int .i64 (M i : Int)] W fun e w' => e = .returned (.bool true) ∧ Below W.heap.size W w' from fun W => by rw [hD1]; exact isIn_any (M i) hMi W)
          have hr2 := (HF.out.1.2.2.2.2.2 i hlt).2
          rw [E1.out, ← HK1.out] at hr2
          obtain ⟨b2, o2, ea2, hcp2⟩ := rd_addrIn hr2 (by omega)
          subst ea2
          have WS0 := Lib.hid (show QLook W0 w mkIn base B h n N f A L C M G wr.drew ∧ QBox 68 wr.drew hb (.slice (A i) (L i) (C i)) (.slice (some ⟨b2, o2, none⟩) K1 p1) (M i) from ⟨HF.out.1.on ⟨rfl, rfl, rfl, Nat.le_refl _, fun _ _ _ => rfl⟩, HF.out.2⟩)
          by_cases hkL : k < L i
          · obtain ⟨b1, o1, ea1, hcp1⟩ := rd_addrIn (HF.out.1.2.2.2.2.2 i hlt).1 (by omega)
            have EA1 := Lib.hid ea1
            have KS := Lib.hid (show ∀ w5 : World, QLook W0 w mkIn base B h n N f A L C M G w5 ∧ QBox 68 w5 hb (.slice (A i) (L i) (C i)) (.slice (some ⟨b2, o2, none⟩) K1 p1) (M i) → (fun w' => w'.cell? ⟨hb, 0, none⟩ = some (.slice (some ⟨b1, o1, none⟩) (L i) (C i)) ∧ w'.cell? ⟨hb, 1, none⟩ = some (.slice (some ⟨b2, o2, none⟩) K1 p1) ∧ w'.cell? ⟨hb, 2, none⟩ = some (.int .i64 (M i : Int)) ∧ w'.cell? ⟨b2, o2 + k, none⟩ = some (.int .u32 D1) ∧ w'.cell? ⟨b1, o1 + k, none⟩ = some (.int .u32 D1)) w5 from fun w5 h5 => by
              have x2 := (h5.1.2.2.2.2.2 i hlt).2
              rw [E1.out, ← HK1.out] at x2
              have x1 := (h5.1.2.2.2.2.2 i hlt).1
              rw [ea1] at x1
              have y2 := rd_markIn x2 hkl
              have y1 := rd_markIn x1 hkL
              rw [← hD1] at y1 y2
              have z0 := h5.2.c0
              rw [ea1] at z0
              exact ⟨z0, h5.2.c1, h5.2.c2, y2, y1⟩)
            have hg1 : decide ((k : Int) < (L i : Int)) = true := by simp; omega
            have i1 : (k : Int) < (L i : Int) := by omega
            clear hD1 hr2 ea1
            go_wp2
            go_region_held3 (fun w' => w'.cell? ⟨hb, 0, none⟩ = some (.slice (some ⟨b1, o1, none⟩) (L i) (C i)) ∧ w'.cell? ⟨hb, 1, none⟩ = some (.slice (some ⟨b2, o2, none⟩) K1 p1) ∧ w'.cell? ⟨hb, 2, none⟩ = some (.int .i64 (M i : Int)) ∧ w'.cell? ⟨b2, o2 + k, none⟩ = some (.int .u32 D1) ∧ w'.cell? ⟨b1, o1 + k, none⟩ = some (.int .u32 D1))
              (first
                | exact (KS.out _ WS2.out)
                | exact (KS.out _ WS1.out)
                | exact (KS.out _ WS0.out)
                | fail)
              (first
                | ((fail_if_success have mm := mk1); go_at_call 70; (with_reducible refine (KI.out _).mono ?_); rintro e x1 ⟨rfl, q1⟩; have WS1 := Lib.hid (And.intro (WS0.out.1.on (q_bg q1)) (WS0.out.2.kept (q_bg q1) (by simp))); have mk1 := True.intro; clear q1)
                | ((fail_if_success have mm := mk2); have mm := mk1; clear mm; go_at_call 70; (with_reducible refine (KI.out _).mono ?_); rintro e x2 ⟨rfl, q2⟩; have WS2 := Lib.hid (And.intro (WS1.out.1.on (q_bg q2)) (WS1.out.2.kept (q_bg q2) (by simp))); have mk2 := True.intro; clear q2)
                | fail)
            go_wp2
            go_roundg (K1 - (k + 1))
            case measure => omega
            case rel => exact ⟨k + 1, by omega, by simp, Lib.hid (by first | exact WS2.out | exact ⟨WS2.out.1.on ⟨rfl, rfl, rfl, Nat.le_refl _, fun _ _ _ => rfl⟩, WS2.out.2⟩)⟩
          · have KS := Lib.hid (show ∀ w5 : World, QLook W0 w mkIn base B h n N f A L C M G w5 ∧ QBox 68 w5 hb (.slice (A i) (L i) (C i)) (.slice (some ⟨b2, o2, none⟩) K1 p1) (M i) → (fun w' => w'.cell? ⟨hb, 0, none⟩ = some (.slice (A i) (L i) (C i)) ∧ w'.cell? ⟨hb, 1, none⟩ = some (.slice (some ⟨b2, o2, none⟩) K1 p1) ∧ w'.cell? ⟨hb, 2, none⟩ = some (.int .i64 (M i : Int)) ∧ w'.cell? ⟨b2, o2 + k, none⟩ = some (.int .u32 D1)) w5 from fun w5 h5 => by
              have x2 := (h5.1.2.2.2.2.2 i hlt).2
              rw [E1.out, ← HK1.out] at x2
              have y2 := rd_markIn x2 hkl
              rw [← hD1] at y2
              exact ⟨h5.2.c0, h5.2.c1, h5.2.c2, y2⟩)
            have hg1 : decide ((k : Int) < (L i : Int)) = false := by simp; omega
            have i1 : ¬ (k : Int) < (L i : Int) := by omega
            clear hD1 hr2
            go_wp2
            refine wp_region_held_drew (S := (fun w' => w'.cell? ⟨hb, 0, none⟩ = some (.slice (A i) (L i) (C i)) ∧ w'.cell? ⟨hb, 1, none⟩ = some (.slice (some ⟨b2, o2, none⟩) K1 p1) ∧ w'.cell? ⟨hb, 2, none⟩ = some (.int .i64 (M i : Int)) ∧ w'.cell? ⟨b2, o2 + k, none⟩ = some (.int .u32 D1))) (by kernel_rfl) (KS.out _ WS0.out) (fun hHeld => ?_)
            refine wpAnyH_take (i := 0) (v := .pointer (some ⟨hb, 1, none⟩)) rfl (by kernel_rfl) (by kernel_rfl) (by kernel_rfl) (fun _ _ _ h => h) (Or.inl ⟨by rfl, fun W3 hS => by obtain ⟨s0, s1, s2, s3⟩ := hS; go_simp⟩) hHeld ?_
            simp only [List.getElem_toArray, List.getElem_cons_zero, Act.put, List.setIfInBounds_toArray, List.set_cons_zero, List.set_cons_succ]
            refine wpAnyH_take (i := 1) (v := .slice (some ⟨b2, o2, none⟩) K1 p1) rfl (by kernel_rfl) (by kernel_rfl) (by kernel_rfl) (fun _ _ _ h => h) (Or.inl ⟨by rfl, fun W3 hS => by obtain ⟨s0, s1, s2, s3⟩ := hS; go_simp⟩) hHeld ?_
            simp only [List.getElem_toArray, List.getElem_cons_succ, List.getElem_cons_zero, Act.put, List.setIfInBounds_toArray, List.set_cons_zero, List.set_cons_succ]
            refine wpAnyH_take (i := 2) (v := .int .i64 (k : Int)) rfl (by kernel_rfl) (by kernel_rfl) (by kernel_rfl) (fun _ _ _ h => h) (Or.inl ⟨by rfl, fun W3 hS => by obtain ⟨s0, s1, s2, s3⟩ := hS; go_simp⟩) hHeld ?_
            simp only [List.getElem_toArray, List.getElem_cons_succ, List.getElem_cons_zero, Act.put, List.setIfInBounds_toArray, List.set_cons_zero, List.set_cons_succ]
            refine wpAnyH_take (i := 3) (v := .pointer (some ⟨b2, o2 + k, none⟩)) rfl (by kernel_rfl) (by kernel_rfl) (by kernel_rfl) (fun _ _ _ h => h) (Or.inl ⟨by rfl, fun W3 hS => by obtain ⟨s0, s1, s2, s3⟩ := hS; go_simp⟩) hHeld ?_
            simp only [List.getElem_toArray, List.getElem_cons_succ, List.getElem_cons_zero, Act.put, List.setIfInBounds_toArray, List.set_cons_zero, List.set_cons_succ]
            refine wpAnyH_take (i := 4) (v := .int .u32 D1) rfl (by kernel_rfl) (by kernel_rfl) (by kernel_rfl) (fun _ _ _ h => h) (Or.inl ⟨by rfl, fun W3 hS => by obtain ⟨s0, s1, s2, s3⟩ := hS; go_simp⟩) hHeld ?_
            simp only [List.getElem_toArray, List.getElem_cons_succ, List.getElem_cons_zero, Act.put, List.setIfInBounds_toArray, List.set_cons_zero, List.set_cons_succ]
            refine wpAnyH_take (i := 5) (v := .pointer (some ⟨hb, 2, none⟩)) rfl (by kernel_rfl) (by kernel_rfl) (by kernel_rfl) (fun _ _ _ h => h) (Or.inl ⟨by rfl, fun W3 hS => by obtain ⟨s0, s1, s2, s3⟩ := hS; go_simp⟩) hHeld ?_
            simp only [List.getElem_toArray, List.getElem_cons_succ, List.getElem_cons_zero, Act.put, List.setIfInBounds_toArray, List.set_cons_zero, List.set_cons_succ]
            refine wpAnyH_take (i := 6) (v := .int .i64 (M i : Int)) rfl (by kernel_rfl) (by kernel_rfl) (by kernel_rfl) (fun _ _ _ h => h) (Or.inl ⟨by rfl, fun W3 hS => by obtain ⟨s0, s1, s2, s3⟩ := hS; go_simp⟩) hHeld ?_
            simp only [List.getElem_toArray, List.getElem_cons_succ, List.getElem_cons_zero, Act.put, List.setIfInBounds_toArray, List.set_cons_zero, List.set_cons_succ]
            refine wpAnyH_all (rs := [7]) (by kernel_rfl) (by simp) ?_
            intro ii hii
            obtain rfl : ii = 7 := by simpa using hii
            refine wpOp_introIn rfl (fun K hK => ?_)
            clear hii
            go_simp
            refine (KI.out _).mono ?_
            rintro e x1 ⟨rfl, q1⟩
            have WS1 := Lib.hid (And.intro (WS0.out.1.on (q_bg q1)) (WS0.out.2.kept (q_bg q1) (by simp)))
            have S1 := KS.out _ WS1.out
            refine hK _ _ ⟨S1, ?_⟩
            clear hK K q1 hHeld
            refine wpAnyH_take (i := 8) (v := .bool false) rfl (by kernel_rfl) (by kernel_rfl) (by kernel_rfl) (fun _ _ _ h => h) (Or.inl ⟨by rfl, fun W3 hS => by obtain ⟨s0, s1, s2, s3⟩ := hS; go_simp⟩) S1 ?_
            simp only [List.getElem_toArray, List.getElem_cons_succ, List.getElem_cons_zero, Act.put, List.setIfInBounds_toArray, List.set_cons_zero, List.set_cons_succ]
            refine wpAnyH_take (i := 9) (v := .bool false) rfl (by kernel_rfl) (by kernel_rfl) (by kernel_rfl) (fun _ _ _ h => h) (Or.inl ⟨by rfl, fun W3 hS => by obtain ⟨s0, s1, s2, s3⟩ := hS; go_simp⟩) S1 ?_
            simp only [List.getElem_toArray, List.getElem_cons_succ, List.getElem_cons_zero, Act.put, List.setIfInBounds_toArray, List.set_cons_zero, List.set_cons_succ]
            refine wpAnyH_take (i := 10) (v := .int .i64 (k : Int)) rfl (by kernel_rfl) (by kernel_rfl) (by kernel_rfl) (fun _ _ _ h => h) (Or.inl ⟨by rfl, fun W3 hS => by obtain ⟨s0, s1, s2, s3⟩ := hS; go_simp⟩) S1 ?_
            simp only [List.getElem_toArray, List.getElem_cons_succ, List.getElem_cons_zero, Act.put, List.setIfInBounds_toArray, List.set_cons_zero, List.set_cons_succ]
            refine wpAnyH_take (i := 11) (v := .pointer (some ⟨hb, 0, none⟩)) rfl (by kernel_rfl) (by kernel_rfl) (by kernel_rfl) (fun _ _ _ h => h) (Or.inl ⟨by rfl, fun W3 hS => by obtain ⟨s0, s1, s2, s3⟩ := hS; go_simp⟩) S1 ?_
            simp only [List.getElem_toArray, List.getElem_cons_succ, List.getElem_cons_zero, Act.put, List.setIfInBounds_toArray, List.set_cons_zero, List.set_cons_succ]
            refine wpAnyH_take (i := 12) (v := .slice (A i) (L i) (C i)) rfl (by kernel_rfl) (by kernel_rfl) (by kernel_rfl) (fun _ _ _ h => h) (Or.inl ⟨by rfl, fun W3 hS => by obtain ⟨s0, s1, s2, s3⟩ := hS; go_simp⟩) S1 ?_
            simp only [List.getElem_toArray, List.getElem_cons_succ, List.getElem_cons_zero, Act.put, List.setIfInBounds_toArray, List.set_cons_zero, List.set_cons_succ]
            refine wpAnyH_take (i := 13) (v := .int .i64 (L i : Int)) rfl (by kernel_rfl) (by kernel_rfl) (by kernel_rfl) (fun _ _ _ h => h) (Or.inl ⟨by rfl, fun W3 hS => by obtain ⟨s0, s1, s2, s3⟩ := hS; go_simp⟩) S1 ?_
            simp only [List.getElem_toArray, List.getElem_cons_succ, List.getElem_cons_zero, Act.put, List.setIfInBounds_toArray, List.set_cons_zero, List.set_cons_succ]
            refine wpAnyH_take (i := 14) (v := .bool false) rfl (by kernel_rfl) (by kernel_rfl) (by kernel_rfl) (fun _ _ _ h => h) (Or.inl ⟨by rfl, fun W3 hS => by obtain ⟨s0, s1, s2, s3⟩ := hS; go_simp⟩) S1 ?_
            simp only [List.getElem_toArray, List.getElem_cons_succ, List.getElem_cons_zero, Act.put, List.setIfInBounds_toArray, List.set_cons_zero, List.set_cons_succ]
            refine wpAnyH_take (i := 15) (v := .bool false) rfl (by kernel_rfl) (by kernel_rfl) (by kernel_rfl) (fun _ _ _ h => h) (Or.inl ⟨by rfl, fun W3 hS => by obtain ⟨s0, s1, s2, s3⟩ := hS; go_simp⟩) S1 ?_
            simp only [List.getElem_toArray, List.getElem_cons_succ, List.getElem_cons_zero, Act.put, List.setIfInBounds_toArray, List.set_cons_zero, List.set_cons_succ]
            refine wpAnyH_take (i := 16) (v := undef) rfl (by kernel_rfl) (by kernel_rfl) (by kernel_rfl) (fun _ _ _ h => h) (Or.inr ⟨by rfl, rfl⟩) S1 ?_
            simp only [List.getElem_toArray, List.getElem_cons_succ, List.getElem_cons_zero, Act.put, List.setIfInBounds_toArray, List.set_cons_zero, List.set_cons_succ]
            refine wpAnyH_take (i := 17) (v := undef) rfl (by kernel_rfl) (by kernel_rfl) (by kernel_rfl) (fun _ _ _ h => h) (Or.inr ⟨by rfl, rfl⟩) S1 ?_
            simp only [List.getElem_toArray, List.getElem_cons_succ, List.getElem_cons_zero, Act.put, List.setIfInBounds_toArray, List.set_cons_zero, List.set_cons_succ]
            refine wpAnyH_take (i := 18) (v := undef) rfl (by kernel_rfl) (by kernel_rfl) (by kernel_rfl) (fun _ _ _ h => h) (Or.inr ⟨by rfl, rfl⟩) S1 ?_
            simp only [List.getElem_toArray, List.getElem_cons_succ, List.getElem_cons_zero, Act.put, List.setIfInBounds_toArray, List.set_cons_zero, List.set_cons_succ]
            refine wpAnyH_take (i := 19) (v := undef) rfl (by kernel_rfl) (by kernel_rfl) (by kernel_rfl) (fun _ _ _ h => h) (Or.inr ⟨by rfl, rfl⟩) S1 ?_
            simp only [List.getElem_toArray, List.getElem_cons_succ, List.getElem_cons_zero, Act.put, List.setIfInBounds_toArray, List.set_cons_zero, List.set_cons_succ]
            refine wpAnyH_take (i := 20) (v := undef) rfl (by kernel_rfl) (by kernel_rfl) (by kernel_rfl) (fun _ _ _ h => h) (Or.inr ⟨by rfl, rfl⟩) S1 ?_
            simp only [List.getElem_toArray, List.getElem_cons_succ, List.getElem_cons_zero, Act.put, List.setIfInBounds_toArray, List.set_cons_zero, List.set_cons_succ]
            refine wpAnyH_take (i := 21) (v := undef) rfl (by kernel_rfl) (by kernel_rfl) (by kernel_rfl) (fun _ _ _ h => h) (Or.inr ⟨by rfl, rfl⟩) S1 ?_
            simp only [List.getElem_toArray, List.getElem_cons_succ, List.getElem_cons_zero, Act.put, List.setIfInBounds_toArray, List.set_cons_zero, List.set_cons_succ]
            refine wpAnyH_take (i := 22) (v := undef) rfl (by kernel_rfl) (by kernel_rfl) (by kernel_rfl) (fun _ _ _ h => h) (Or.inr ⟨by rfl, rfl⟩) S1 ?_
            simp only [List.getElem_toArray, List.getElem_cons_succ, List.getElem_cons_zero, Act.put, List.setIfInBounds_toArray, List.set_cons_zero, List.set_cons_succ]
            refine wpAnyH_take (i := 23) (v := undef) rfl (by kernel_rfl) (by kernel_rfl) (by kernel_rfl) (fun _ _ _ h => h) (Or.inr ⟨by rfl, rfl⟩) S1 ?_
            simp only [List.getElem_toArray, List.getElem_cons_succ, List.getElem_cons_zero, Act.put, List.setIfInBounds_toArray, List.set_cons_zero, List.set_cons_succ]
            refine wpAnyH_take (i := 24) (v := undef) rfl (by kernel_rfl) (by kernel_rfl) (by kernel_rfl) (fun _ _ _ h => h) (Or.inr ⟨by rfl, rfl⟩) S1 ?_
            simp only [List.getElem_toArray, List.getElem_cons_succ, List.getElem_cons_zero, Act.put, List.setIfInBounds_toArray, List.set_cons_zero, List.set_cons_succ]
            refine wpAnyH_take (i := 25) (v := .bool false) rfl (by kernel_rfl) (by kernel_rfl) (by kernel_rfl) (fun _ _ _ h => h) (Or.inl ⟨by rfl, fun W3 hS => by obtain ⟨s0, s1, s2, s3⟩ := hS; go_simp⟩) S1 ?_
            simp only [List.getElem_toArray, List.getElem_cons_succ, List.getElem_cons_zero, Act.put, List.setIfInBounds_toArray, List.set_cons_zero, List.set_cons_succ]
            refine wpAnyH_take (i := 26) (v := .bool false) rfl (by kernel_rfl) (by kernel_rfl) (by kernel_rfl) (fun _ _ _ h => h) (Or.inl ⟨by rfl, fun W3 hS => by obtain ⟨s0, s1, s2, s3⟩ := hS; go_simp⟩) S1 ?_
            simp only [List.getElem_toArray, List.getElem_cons_succ, List.getElem_cons_zero, Act.put, List.setIfInBounds_toArray, List.set_cons_zero, List.set_cons_succ]
            refine wpAnyH_done (by kernel_rfl) ?_ _
            go_wp2
            go_roundg (K1 - (k + 1))
            case measure => omega
            case rel => exact ⟨k + 1, by omega, by simp, Lib.hid (by first | exact WS1.out | exact ⟨WS1.out.1.on ⟨rfl, rfl, rfl, Nat.le_refl _, fun _ _ _ => rfl⟩, WS1.out.2⟩)⟩
        · obtain rfl : k = K1 := by omega
          have HF1 := Lib.hid HF.out.1
          clear HF
          go_wp2
          go_roundg (N - (i + 1))
          case measure => omega
          case rel => exact ⟨i + 1, by omega, by simp, HF1⟩
    · obtain rfl : i = N := by omega
      go_wp2
      go_ret
      exact ⟨rfl, HK.out⟩
end Go.Proofs.YtkkahghhheameaaDoor
