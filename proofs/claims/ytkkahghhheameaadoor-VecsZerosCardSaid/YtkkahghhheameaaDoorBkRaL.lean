/- A book's rows of fractions are looked at. -/
import Derived.Test.YtkkahghhheameaaDoorBkRaG
namespace Go.Proofs.YtkkahghhheameaaDoor
open Go Go.Proofs Go.RowKit Go.Shelf

attribute [local go_sem] Oper.semAt_some
set_option maxRecDepth 100000
theorem wpOp_introR {P : Program} {ops : Array Oper} {Q : Exit → Act → World → Prop} {i : Nat} {o : Oper} {K : Act → World → Prop} {a : Act} {w : World} (ho : ops[i]? = some o)
    (h : ∀ K' : Act → World → Prop, (∀ a w, K a w → K' a w) → if Region.wanted o (yielded ops a.tmps) then o.wp P a w K' Q else K' (a.put o.dst undef) w) : wpOp P ops Q i K a w := by
  have := h K (fun _ _ h => h)
  unfold wpOp
  simp only [ho]
  split
  · rename_i hw; simp only [hw, if_true] at this; exact .inl this
  · rename_i hw; simp only [hw] at this; exact this
theorem rd_markR {S : Nat} {W : World} {b off n cap m k : Nat} {xs : List Value} (h : RdC W (.slice (some ⟨b, off, none⟩) n cap) n xs) (p : PRat S W m n xs) (hk : k < n) : ∃ d, xs[k * 3 + 2]? = some (.slice (some ⟨d, 0, none⟩) 1 1) ∧ d < W.heap.size ∧ W.cell? ⟨d, 0, none⟩ = some (.int .u32 (1000 + (m : Int))) ∧
    W.cell? ⟨b, off + k * 3, none⟩ = some (.bool false) ∧ W.cell? ⟨b, off + k * 3 + 1, none⟩ = some (.slice none 0 0) ∧ W.cell? ⟨b, off + k * 3 + 2, none⟩ = some (.slice (some ⟨d, 0, none⟩) 1 1) := by
  obtain ⟨a, c, e, _, h⟩ := h
  obtain ⟨b', o', e', _, hc⟩ := h (by omega)
  simp only [Value.slice.injEq] at e
  have e2 := e.1.trans e'
  simp only [Option.some.injEq, Addr.mk.injEq, and_true] at e2
  obtain ⟨rfl, rfl⟩ := e2
  obtain ⟨d, hd, g0, g1, g2, gc⟩ := p.at hk
  exact ⟨d, g2, hd, gc, hc (k * 3) _ g0, by rw [Nat.add_assoc]; exact hc (k * 3 + 1) _ g1, by rw [Nat.add_assoc]; exact hc (k * 3 + 2) _ g2⟩
theorem rd_addrR {W : World} {a : Option Addr} {n cap : Nat} {xs : List Value} (h : RdC W (.slice a n cap) n xs) (h0 : 0 < n) : ∃ b off, a = some ⟨b, off, none⟩ ∧ n ≤ cap := by
  obtain ⟨a', c, e, hc, h⟩ := h
  simp only [Value.slice.injEq] at e
  obtain ⟨rfl, _, rfl⟩ := e
  obtain ⟨b, off, e', _⟩ := h h0
  exact ⟨b, off, e', hc⟩
set_option maxHeartbeats 8000000 in
theorem lookRa_any {W0 w W : World} {base B h n N cap S : Nat} {f : Nat → Value} {A : Nat → Option Addr} {L C M : Nat → Nat} {G : Nat → Value} {X Y : Nat → List Value} (D : WLies W0 base B h N A L C M) (hN : N ≤ cap) (hf : f 8 = .slice (some ⟨h, 0, none⟩) N cap) (F : WLook W0 w (PRat S) base B h n N f A L C M G X Y W) :
    Calls Tryd.prog 45 #[.pointer (some ⟨B, 0, none⟩)] W fun e w' => e = .returned (.bool true) ∧ WLook W0 w (PRat S) base B h n N f A L C M G X Y w' := by
  have hD := Lib.hid D
  have hF := Lib.hid F
  have hfew := D.few
  have Hf := Lib.hid hf
  clear D F hf
  go_enter Tryd.func45, Tryd.ntmps45
  go_wp2
  go_loopg [3] N (fun g s wr => ∃ i : Nat, i + g = N ∧ s = .int .i64 (i : Int) ∧ Hid (WLook W0 w (PRat S) base B h n N f A L C M G X Y wr))
  case atStart => exact ⟨0, by omega, rfl, hF⟩
  case round =>
    clear hF
    obtain ⟨i, hi, rfl, HK⟩ := hrel
    have r1 := HK.out.1.cell 8 (.slice (some ⟨h, 0, none⟩) N cap) (by rw [← Hf.out]; rfl)
    by_cases hlt : i < N
    · obtain ⟨c0, c1, c2⟩ := HK.out.2.1.2 i hlt
      have hbs := HK.out.1.lt
      dsimp only at c0
      have hLi := (hD.out).len i hlt
      have hMi := (hD.out).num i hlt
      obtain ⟨K1, hK1⟩ : ∃ K1, K1 = L i + 40 := ⟨_, rfl⟩
      have hK2 : (L i : Int) + 40 = (K1 : Int) := by omega
      obtain ⟨a1, p1, e1, _⟩ := (HK.out.2.2.2.2.2 i hlt).2.1
      rw [← hK1] at e1
      rw [e1] at c1
      have HK1 := Lib.hid hK1
      have E1 := Lib.hid e1
      have hHB := Lib.hid (QBox.new 62 wr (.slice (A i) (L i) (C i)) (.slice a1 K1 p1) (M i))
      have hFA := Lib.hid (HK.out.alloc (marksRat S) (.cells #[.slice (A i) (L i) (C i), .slice a1 K1 p1, .int .i64 (M i : Int)] 62))
      clear hK1 e1
      go_wp2
      obtain ⟨hb, hhb⟩ : ∃ hb, hb = wr.heap.size := ⟨_, rfl⟩
      rw [← hhb] at hHB hbs ⊢
      obtain ⟨wo, hwo⟩ : ∃ wo, wo = wr.alloc (.cells #[.slice (A i) (L i) (C i), .slice a1 K1 p1, .int .i64 (M i : Int)] 62) := ⟨_, rfl⟩
      rw [← hwo] at hHB hFA ⊢
      have q0 := hHB.out.c0
      have q1 := hHB.out.c1
      clear hwo hhb HK r1 c0 c1 c2
      go_wp2
      clear q0 q1
      go_loopg [5] K1 (fun g s wy => ∃ k : Nat, k + g = K1 ∧ s = .int .i64 (k : Int) ∧ Hid (WLook W0 w (PRat S) base B h n N f A L C M G X Y wy ∧ QBox 62 wy hb (.slice (A i) (L i) (C i)) (.slice a1 K1 p1) (M i)))
      case atStart => exact ⟨0, by omega, rfl, Lib.hid ⟨hFA.out, hHB.out⟩⟩
      case round =>
        clear hFA hHB
        obtain ⟨k, hk, rfl, HF⟩ := hrel
        have q1 := HF.out.2.c1
        by_cases hkl : k < K1
        · have KI := Lib.hid (show ∀ (W : World) (d : Nat), (d < W.heap.size ∧ W.cell? ⟨d, 0, none⟩ = some (.int .u32 (1000 + (M i : Int)))) → Calls Tryd.prog 76 #[.agg #[.bool false, .slice none 0 0, .slice (some ⟨d, 0, none⟩) 1 1], .int .i64 (M i : Int)] W fun e w' => e = .returned (.bool true) ∧ Below W.heap.size W w' from fun W d h => isRa_any (M i) hMi W d h.1 h.2)
          have hp2 := (HF.out.1.2.2.2.2.2 i hlt).2.2
          rw [← HK1.out] at hp2
          have hr2 := (HF.out.1.2.2.2.2.2 i hlt).2.1
          rw [E1.out, ← HK1.out] at hr2
          obtain ⟨b2, o2, ea2, hcp2⟩ := rd_addrR hr2 (by omega)
          subst ea2
          obtain ⟨d2, ed2, _⟩ := rd_markR hr2 hp2 hkl
          have ED2 := Lib.hid ed2
          clear ed2 hp2
          have WS0 := Lib.hid (show WLook W0 w (PRat S) base B h n N f A L C M G X Y wr.drew ∧ QBox 62 wr.drew hb (.slice (A i) (L i) (C i)) (.slice (some ⟨b2, o2, none⟩) K1 p1) (M i) from ⟨HF.out.1.on (marksRat S) ⟨rfl, rfl, rfl, Nat.le_refl _, fun _ _ _ => rfl⟩, HF.out.2⟩)
          by_cases hkL : k < L i
          · obtain ⟨b1, o1, ea1, hcp1⟩ := rd_addrR (HF.out.1.2.2.2.2.2 i hlt).1.1 (by omega)
            have EA1 := Lib.hid ea1
            have hr1 := (HF.out.1.2.2.2.2.2 i hlt).1.1
            rw [ea1] at hr1
            obtain ⟨d1, ed1, _⟩ := rd_markR hr1 (HF.out.1.2.2.2.2.2 i hlt).1.2 hkL
            have ED1 := Lib.hid ed1
            clear ed1 hr1
            have KS := Lib.hid (show ∀ w5 : World, WLook W0 w (PRat S) base B h n N f A L C M G X Y w5 ∧ QBox 62 w5 hb (.slice (A i) (L i) (C i)) (.slice (some ⟨b2, o2, none⟩) K1 p1) (M i) → (fun w' => w'.cell? ⟨hb, 0, none⟩ = some (.slice (some ⟨b1, o1, none⟩) (L i) (C i)) ∧ w'.cell? ⟨hb, 1, none⟩ = some (.slice (some ⟨b2, o2, none⟩) K1 p1) ∧ w'.cell? ⟨hb, 2, none⟩ = some (.int .i64 (M i : Int)) ∧ w'.cell? ⟨b2, o2 + k * 3, none⟩ = some (.bool false) ∧ w'.cell? ⟨b2, o2 + k * 3 + 1, none⟩ = some (.slice none 0 0) ∧ w'.cell? ⟨b2, o2 + k * 3 + 2, none⟩ = some (.slice (some ⟨d2, 0, none⟩) 1 1) ∧ w'.cell? ⟨b1, o1 + k * 3, none⟩ = some (.bool false) ∧ w'.cell? ⟨b1, o1 + k * 3 + 1, none⟩ = some (.slice none 0 0) ∧ w'.cell? ⟨b1, o1 + k * 3 + 2, none⟩ = some (.slice (some ⟨d1, 0, none⟩) 1 1)) w5 from fun w5 h5 => by
              obtain ⟨⟨x1, p1'⟩, x2, p2'⟩ := h5.1.2.2.2.2.2 i hlt
              rw [E1.out, ← HK1.out] at x2
              rw [← HK1.out] at p2'
              rw [ea1] at x1
              obtain ⟨e2, he2, _, _, y2⟩ := rd_markR x2 p2' hkl
              obtain ⟨e1, he1, _, _, y1⟩ := rd_markR x1 p1' hkL
              obtain rfl : e2 = d2 := by have := he2.symm.trans ED2.out; simpa using this
              obtain rfl : e1 = d1 := by have := he1.symm.trans ED1.out; simpa using this
              have z0 := h5.2.c0
              rw [ea1] at z0
              exact ⟨z0, h5.2.c1, h5.2.c2, y2.1, y2.2.1, y2.2.2, y1.1, y1.2.1, y1.2.2⟩)
            have KD2 := Lib.hid (show ∀ w5 : World, WLook W0 w (PRat S) base B h n N f A L C M G X Y w5 ∧ QBox 62 w5 hb (.slice (A i) (L i) (C i)) (.slice (some ⟨b2, o2, none⟩) K1 p1) (M i) → (d2 < w5.heap.size ∧ w5.cell? ⟨d2, 0, none⟩ = some (.int .u32 (1000 + (M i : Int)))) from fun w5 h5 => by
              obtain ⟨_, x2, p2'⟩ := h5.1.2.2.2.2.2 i hlt
              rw [E1.out, ← HK1.out] at x2
              rw [← HK1.out] at p2'
              obtain ⟨e2, he2, c1, c2, _⟩ := rd_markR x2 p2' hkl
              obtain rfl : e2 = d2 := by have := he2.symm.trans ED2.out; simpa using this
              exact ⟨c1, c2⟩)
            have KD1 := Lib.hid (show ∀ w5 : World, WLook W0 w (PRat S) base B h n N f A L C M G X Y w5 ∧ QBox 62 w5 hb (.slice (A i) (L i) (C i)) (.slice (some ⟨b2, o2, none⟩) K1 p1) (M i) → (d1 < w5.heap.size ∧ w5.cell? ⟨d1, 0, none⟩ = some (.int .u32 (1000 + (M i : Int)))) from fun w5 h5 => by
              obtain ⟨⟨x1, p1'⟩, _⟩ := h5.1.2.2.2.2.2 i hlt
              rw [ea1] at x1
              obtain ⟨e1, he1, c1, c2, _⟩ := rd_markR x1 p1' hkL
              obtain rfl : e1 = d1 := by have := he1.symm.trans ED1.out; simpa using this
              exact ⟨c1, c2⟩)
            have hg1 : decide ((k : Int) < (L i : Int)) = true := by simp; omega
            have i1 : (k : Int) < (L i : Int) := by omega
            clear hr2 ea1
            go_wp2
            go_region_held3 (fun w' => w'.cell? ⟨hb, 0, none⟩ = some (.slice (some ⟨b1, o1, none⟩) (L i) (C i)) ∧ w'.cell? ⟨hb, 1, none⟩ = some (.slice (some ⟨b2, o2, none⟩) K1 p1) ∧ w'.cell? ⟨hb, 2, none⟩ = some (.int .i64 (M i : Int)) ∧ w'.cell? ⟨b2, o2 + k * 3, none⟩ = some (.bool false) ∧ w'.cell? ⟨b2, o2 + k * 3 + 1, none⟩ = some (.slice none 0 0) ∧ w'.cell? ⟨b2, o2 + k * 3 + 2, none⟩ = some (.slice (some ⟨d2, 0, none⟩) 1 1) ∧ w'.cell? ⟨b1, o1 + k * 3, none⟩ = some (.bool false) ∧ w'.cell? ⟨b1, o1 + k * 3 + 1, none⟩ = some (.slice none 0 0) ∧ w'.cell? ⟨b1, o1 + k * 3 + 2, none⟩ = some (.slice (some ⟨d1, 0, none⟩) 1 1))
              (first
                | exact (KS.out _ WS2.out)
                | exact (KS.out _ WS1.out)
                | exact (KS.out _ WS0.out)
                | fail)
              (first
                | ((fail_if_success have mm := mk1); go_at_call 76; (with_reducible refine (KI.out _ _ (KD2.out _ WS0.out)).mono ?_); rintro e x1 ⟨rfl, q1⟩; have WS1 := Lib.hid (And.intro (WS0.out.1.on (marksRat S) (q_bg q1)) (WS0.out.2.kept (q_bg q1) (by simp))); have mk1 := True.intro; clear q1)
                | ((fail_if_success have mm := mk2); have mm := mk1; clear mm; go_at_call 76; (with_reducible refine (KI.out _ _ (KD1.out _ WS1.out)).mono ?_); rintro e x2 ⟨rfl, q2⟩; have WS2 := Lib.hid (And.intro (WS1.out.1.on (marksRat S) (q_bg q2)) (WS1.out.2.kept (q_bg q2) (by simp))); have mk2 := True.intro; clear q2)
                | fail)
            go_wp2
            go_roundg (K1 - (k + 1))
            case measure => omega
            case rel => exact ⟨k + 1, by omega, by simp, Lib.hid (by first | exact WS2.out | exact ⟨WS2.out.1.on (marksRat S) ⟨rfl, rfl, rfl, Nat.le_refl _, fun _ _ _ => rfl⟩, WS2.out.2⟩)⟩
          · have KS := Lib.hid (show ∀ w5 : World, WLook W0 w (PRat S) base B h n N f A L C M G X Y w5 ∧ QBox 62 w5 hb (.slice (A i) (L i) (C i)) (.slice (some ⟨b2, o2, none⟩) K1 p1) (M i) → (fun w' => w'.cell? ⟨hb, 0, none⟩ = some (.slice (A i) (L i) (C i)) ∧ w'.cell? ⟨hb, 1, none⟩ = some (.slice (some ⟨b2, o2, none⟩) K1 p1) ∧ w'.cell? ⟨hb, 2, none⟩ = some (.int .i64 (M i : Int)) ∧ w'.cell? ⟨b2, o2 + k * 3, none⟩ = some (.bool false) ∧ w'.cell? ⟨b2, o2 + k * 3 + 1, none⟩ = some (.slice none 0 0) ∧ w'.cell? ⟨b2, o2 + k * 3 + 2, none⟩ = some (.slice (some ⟨d2, 0, none⟩) 1 1)) w5 from fun w5 h5 => by
              obtain ⟨_, x2, p2'⟩ := h5.1.2.2.2.2.2 i hlt
              rw [E1.out, ← HK1.out] at x2
              rw [← HK1.out] at p2'
              obtain ⟨e2, he2, _, _, y2⟩ := rd_markR x2 p2' hkl
              obtain rfl : e2 = d2 := by have := he2.symm.trans ED2.out; simpa using this
              exact ⟨h5.2.c0, h5.2.c1, h5.2.c2, y2.1, y2.2.1, y2.2.2⟩)
            have KD2 := Lib.hid (show ∀ w5 : World, WLook W0 w (PRat S) base B h n N f A L C M G X Y w5 ∧ QBox 62 w5 hb (.slice (A i) (L i) (C i)) (.slice (some ⟨b2, o2, none⟩) K1 p1) (M i) → (d2 < w5.heap.size ∧ w5.cell? ⟨d2, 0, none⟩ = some (.int .u32 (1000 + (M i : Int)))) from fun w5 h5 => by
              obtain ⟨_, x2, p2'⟩ := h5.1.2.2.2.2.2 i hlt
              rw [E1.out, ← HK1.out] at x2
              rw [← HK1.out] at p2'
              obtain ⟨e2, he2, c1, c2, _⟩ := rd_markR x2 p2' hkl
              obtain rfl : e2 = d2 := by have := he2.symm.trans ED2.out; simpa using this
              exact ⟨c1, c2⟩)
            have hg1 : decide ((k : Int) < (L i : Int)) = false := by simp; omega
            have i1 : ¬ (k : Int) < (L i : Int) := by omega
            clear hr2
            go_wp2
            refine wp_region_held_drew (S := (fun w' => w'.cell? ⟨hb, 0, none⟩ = some (.slice (A i) (L i) (C i)) ∧ w'.cell? ⟨hb, 1, none⟩ = some (.slice (some ⟨b2, o2, none⟩) K1 p1) ∧ w'.cell? ⟨hb, 2, none⟩ = some (.int .i64 (M i : Int)) ∧ w'.cell? ⟨b2, o2 + k * 3, none⟩ = some (.bool false) ∧ w'.cell? ⟨b2, o2 + k * 3 + 1, none⟩ = some (.slice none 0 0) ∧ w'.cell? ⟨b2, o2 + k * 3 + 2, none⟩ = some (.slice (some ⟨d2, 0, none⟩) 1 1))) (by kernel_rfl) (KS.out _ WS0.out) (fun hHeld => ?_)
            refine wpAnyH_take (i := 0) (v := .pointer (some ⟨hb, 1, none⟩)) rfl (by kernel_rfl) (by kernel_rfl) (by kernel_rfl) (fun _ _ _ h => h) (Or.inl ⟨by rfl, fun W3 hS => by obtain ⟨s0, s1, s2, s3, s4, s5⟩ := hS; go_simp⟩) hHeld ?_
            simp only [List.getElem_toArray, List.getElem_cons_zero, Act.put, List.setIfInBounds_toArray, List.set_cons_zero, List.set_cons_succ]
            refine wpAnyH_take (i := 1) (v := .slice (some ⟨b2, o2, none⟩) K1 p1) rfl (by kernel_rfl) (by kernel_rfl) (by kernel_rfl) (fun _ _ _ h => h) (Or.inl ⟨by rfl, fun W3 hS => by obtain ⟨s0, s1, s2, s3, s4, s5⟩ := hS; go_simp⟩) hHeld ?_
            simp only [List.getElem_toArray, List.getElem_cons_succ, List.getElem_cons_zero, Act.put, List.setIfInBounds_toArray, List.set_cons_zero, List.set_cons_succ]
            refine wpAnyH_take (i := 2) (v := .int .i64 (k : Int)) rfl (by kernel_rfl) (by kernel_rfl) (by kernel_rfl) (fun _ _ _ h => h) (Or.inl ⟨by rfl, fun W3 hS => by obtain ⟨s0, s1, s2, s3, s4, s5⟩ := hS; go_simp⟩) hHeld ?_
            simp only [List.getElem_toArray, List.getElem_cons_succ, List.getElem_cons_zero, Act.put, List.setIfInBounds_toArray, List.set_cons_zero, List.set_cons_succ]
            refine wpAnyH_take (i := 3) (v := .pointer (some ⟨b2, o2 + k * 3, none⟩)) rfl (by kernel_rfl) (by kernel_rfl) (by kernel_rfl) (fun _ _ _ h => h) (Or.inl ⟨by rfl, fun W3 hS => by obtain ⟨s0, s1, s2, s3, s4, s5⟩ := hS; go_simp⟩) hHeld ?_
            simp only [List.getElem_toArray, List.getElem_cons_succ, List.getElem_cons_zero, Act.put, List.setIfInBounds_toArray, List.set_cons_zero, List.set_cons_succ]
            refine wpAnyH_take (i := 4) (v := .agg #[.bool false, .slice none 0 0, .slice (some ⟨d2, 0, none⟩) 1 1]) rfl (by kernel_rfl) (by kernel_rfl) (by kernel_rfl) (fun _ _ _ h => h) (Or.inl ⟨by rfl, fun W3 hS => by obtain ⟨s0, s1, s2, s3, s4, s5⟩ := hS; go_simp⟩) hHeld ?_
            simp only [List.getElem_toArray, List.getElem_cons_succ, List.getElem_cons_zero, Act.put, List.setIfInBounds_toArray, List.set_cons_zero, List.set_cons_succ]
            refine wpAnyH_take (i := 5) (v := .pointer (some ⟨hb, 2, none⟩)) rfl (by kernel_rfl) (by kernel_rfl) (by kernel_rfl) (fun _ _ _ h => h) (Or.inl ⟨by rfl, fun W3 hS => by obtain ⟨s0, s1, s2, s3, s4, s5⟩ := hS; go_simp⟩) hHeld ?_
            simp only [List.getElem_toArray, List.getElem_cons_succ, List.getElem_cons_zero, Act.put, List.setIfInBounds_toArray, List.set_cons_zero, List.set_cons_succ]
            refine wpAnyH_take (i := 6) (v := .int .i64 (M i : Int)) rfl (by kernel_rfl) (by kernel_rfl) (by kernel_rfl) (fun _ _ _ h => h) (Or.inl ⟨by rfl, fun W3 hS => by obtain ⟨s0, s1, s2, s3, s4, s5⟩ := hS; go_simp⟩) hHeld ?_
            simp only [List.getElem_toArray, List.getElem_cons_succ, List.getElem_cons_zero, Act.put, List.setIfInBounds_toArray, List.set_cons_zero, List.set_cons_succ]
            refine wpAnyH_all (rs := [7]) (by kernel_rfl) (by simp) ?_
            intro ii hii
            obtain rfl : ii = 7 := by simpa using hii
            refine wpOp_introR rfl (fun K hK => ?_)
            clear hii
            go_simp
            refine (KI.out _ _ (KD2.out _ WS0.out)).mono ?_
            rintro e x1 ⟨rfl, q1⟩
            have WS1 := Lib.hid (And.intro (WS0.out.1.on (marksRat S) (q_bg q1)) (WS0.out.2.kept (q_bg q1) (by simp)))
            have S1 := KS.out _ WS1.out
            refine hK _ _ ⟨S1, ?_⟩
            clear hK K q1 hHeld
            refine wpAnyH_take (i := 8) (v := .bool false) rfl (by kernel_rfl) (by kernel_rfl) (by kernel_rfl) (fun _ _ _ h => h) (Or.inl ⟨by rfl, fun W3 hS => by obtain ⟨s0, s1, s2, s3, s4, s5⟩ := hS; go_simp⟩) S1 ?_
            simp only [List.getElem_toArray, List.getElem_cons_succ, List.getElem_cons_zero, Act.put, List.setIfInBounds_toArray, List.set_cons_zero, List.set_cons_succ]
            refine wpAnyH_take (i := 9) (v := .bool false) rfl (by kernel_rfl) (by kernel_rfl) (by kernel_rfl) (fun _ _ _ h => h) (Or.inl ⟨by rfl, fun W3 hS => by obtain ⟨s0, s1, s2, s3, s4, s5⟩ := hS; go_simp⟩) S1 ?_
            simp only [List.getElem_toArray, List.getElem_cons_succ, List.getElem_cons_zero, Act.put, List.setIfInBounds_toArray, List.set_cons_zero, List.set_cons_succ]
            refine wpAnyH_take (i := 10) (v := .int .i64 (k : Int)) rfl (by kernel_rfl) (by kernel_rfl) (by kernel_rfl) (fun _ _ _ h => h) (Or.inl ⟨by rfl, fun W3 hS => by obtain ⟨s0, s1, s2, s3, s4, s5⟩ := hS; go_simp⟩) S1 ?_
            simp only [List.getElem_toArray, List.getElem_cons_succ, List.getElem_cons_zero, Act.put, List.setIfInBounds_toArray, List.set_cons_zero, List.set_cons_succ]
            refine wpAnyH_take (i := 11) (v := .pointer (some ⟨hb, 0, none⟩)) rfl (by kernel_rfl) (by kernel_rfl) (by kernel_rfl) (fun _ _ _ h => h) (Or.inl ⟨by rfl, fun W3 hS => by obtain ⟨s0, s1, s2, s3, s4, s5⟩ := hS; go_simp⟩) S1 ?_
            simp only [List.getElem_toArray, List.getElem_cons_succ, List.getElem_cons_zero, Act.put, List.setIfInBounds_toArray, List.set_cons_zero, List.set_cons_succ]
            refine wpAnyH_take (i := 12) (v := .slice (A i) (L i) (C i)) rfl (by kernel_rfl) (by kernel_rfl) (by kernel_rfl) (fun _ _ _ h => h) (Or.inl ⟨by rfl, fun W3 hS => by obtain ⟨s0, s1, s2, s3, s4, s5⟩ := hS; go_simp⟩) S1 ?_
            simp only [List.getElem_toArray, List.getElem_cons_succ, List.getElem_cons_zero, Act.put, List.setIfInBounds_toArray, List.set_cons_zero, List.set_cons_succ]
            refine wpAnyH_take (i := 13) (v := .int .i64 (L i : Int)) rfl (by kernel_rfl) (by kernel_rfl) (by kernel_rfl) (fun _ _ _ h => h) (Or.inl ⟨by rfl, fun W3 hS => by obtain ⟨s0, s1, s2, s3, s4, s5⟩ := hS; go_simp⟩) S1 ?_
            simp only [List.getElem_toArray, List.getElem_cons_succ, List.getElem_cons_zero, Act.put, List.setIfInBounds_toArray, List.set_cons_zero, List.set_cons_succ]
            refine wpAnyH_take (i := 14) (v := .bool false) rfl (by kernel_rfl) (by kernel_rfl) (by kernel_rfl) (fun _ _ _ h => h) (Or.inl ⟨by rfl, fun W3 hS => by obtain ⟨s0, s1, s2, s3, s4, s5⟩ := hS; go_simp⟩) S1 ?_
            simp only [List.getElem_toArray, List.getElem_cons_succ, List.getElem_cons_zero, Act.put, List.setIfInBounds_toArray, List.set_cons_zero, List.set_cons_succ]
            refine wpAnyH_take (i := 15) (v := .bool false) rfl (by kernel_rfl) (by kernel_rfl) (by kernel_rfl) (fun _ _ _ h => h) (Or.inl ⟨by rfl, fun W3 hS => by obtain ⟨s0, s1, s2, s3, s4, s5⟩ := hS; go_simp⟩) S1 ?_
            simp only [List.getElem_toArray, List.getElem_cons_succ, List.getElem_cons_zero, Act.put, List.setIfInBounds_toArray, List.set_cons_zero, List.set_cons_succ]
            refine wpAnyH_take (i := 16) (v := undef) rfl (by kernel_rfl) (by kernel_rfl) (by kernel_rfl) (fun _ _ _ h => h) (Or.inr ⟨by rfl, rfl⟩) S1 ?_
            simp only [List.getElem_toArray, List.getElem_cons_succ, List.getElem_cons_zero, Act.put, List.setIfInBounds_toArray, List.set_cons_zero, List.set_cons_succ]
            refine wpAnyH_take (i := 17) (v := undef) rfl (by kernel_rfl) (by kernel_rfl) (by kernel_rfl) (fun _ _ _ h => h) (Or.inr ⟨by rfl, rfl⟩) S1 ?_
            simp only [List.getElem_toArray, List.getElem_cons_succ, List.getElem_cons_zero, Act.put, List.setIfInBounds_toArray, List.set_cons_zero, List.set_cons_succ]
            refine wpAnyH_take (i := 18) (v := undef) rfl (by kernel_rfl) (by kernel_rfl) (by kernel_rfl) (fun _ _ _ h => h) (Or.inr ⟨by rfl, rfl⟩) S1 ?_
            simp only [List.getElem_toArray, List.getElem_cons_succ, List.getElem_cons_zero, Act.put, List.setIfInBounds_toArray, List.set_cons_zero, List.set_cons_succ]
            refine wpAnyH_take (i := 19) (v := undef) rfl (by kernel_rfl) (by kernel_rfl) (by kernel_rfl) (fun _ _ _ h => h) (Or.inr ⟨by rfl, rfl⟩) S1 ?_
            simp only [List.getElem_toArray, List.getElem_cons_succ, List.getElem_cons_zero, Act.put, List.setIfInBounds_toArray, List.set_cons_zero, List.set_cons_succ]
            refine wpAnyH_take (i := 20) (v := undef) rfl (by kernel_rfl) (by kernel_rfl) (by kernel_rfl) (fun _ _ _ h => h) (Or.inr ⟨by rfl, rfl⟩) S1 ?_
            simp only [List.getElem_toArray, List.getElem_cons_succ, List.getElem_cons_zero, Act.put, List.setIfInBounds_toArray, List.set_cons_zero, List.set_cons_succ]
            refine wpAnyH_take (i := 21) (v := undef) rfl (by kernel_rfl) (by kernel_rfl) (by kernel_rfl) (fun _ _ _ h => h) (Or.inr ⟨by rfl, rfl⟩) S1 ?_
            simp only [List.getElem_toArray, List.getElem_cons_succ, List.getElem_cons_zero, Act.put, List.setIfInBounds_toArray, List.set_cons_zero, List.set_cons_succ]
            refine wpAnyH_take (i := 22) (v := undef) rfl (by kernel_rfl) (by kernel_rfl) (by kernel_rfl) (fun _ _ _ h => h) (Or.inr ⟨by rfl, rfl⟩) S1 ?_
            simp only [List.getElem_toArray, List.getElem_cons_succ, List.getElem_cons_zero, Act.put, List.setIfInBounds_toArray, List.set_cons_zero, List.set_cons_succ]
            refine wpAnyH_take (i := 23) (v := undef) rfl (by kernel_rfl) (by kernel_rfl) (by kernel_rfl) (fun _ _ _ h => h) (Or.inr ⟨by rfl, rfl⟩) S1 ?_
            simp only [List.getElem_toArray, List.getElem_cons_succ, List.getElem_cons_zero, Act.put, List.setIfInBounds_toArray, List.set_cons_zero, List.set_cons_succ]
            refine wpAnyH_take (i := 24) (v := undef) rfl (by kernel_rfl) (by kernel_rfl) (by kernel_rfl) (fun _ _ _ h => h) (Or.inr ⟨by rfl, rfl⟩) S1 ?_
            simp only [List.getElem_toArray, List.getElem_cons_succ, List.getElem_cons_zero, Act.put, List.setIfInBounds_toArray, List.set_cons_zero, List.set_cons_succ]
            refine wpAnyH_take (i := 25) (v := .bool false) rfl (by kernel_rfl) (by kernel_rfl) (by kernel_rfl) (fun _ _ _ h => h) (Or.inl ⟨by rfl, fun W3 hS => by obtain ⟨s0, s1, s2, s3, s4, s5⟩ := hS; go_simp⟩) S1 ?_
            simp only [List.getElem_toArray, List.getElem_cons_succ, List.getElem_cons_zero, Act.put, List.setIfInBounds_toArray, List.set_cons_zero, List.set_cons_succ]
            refine wpAnyH_take (i := 26) (v := .bool false) rfl (by kernel_rfl) (by kernel_rfl) (by kernel_rfl) (fun _ _ _ h => h) (Or.inl ⟨by rfl, fun W3 hS => by obtain ⟨s0, s1, s2, s3, s4, s5⟩ := hS; go_simp⟩) S1 ?_
            simp only [List.getElem_toArray, List.getElem_cons_succ, List.getElem_cons_zero, Act.put, List.setIfInBounds_toArray, List.set_cons_zero, List.set_cons_succ]
            refine wpAnyH_done (by kernel_rfl) ?_ _
            go_wp2
            go_roundg (K1 - (k + 1))
            case measure => omega
            case rel => exact ⟨k + 1, by omega, by simp, Lib.hid (by first | exact WS1.out | exact ⟨WS1.out.1.on (marksRat S) ⟨rfl, rfl, rfl, Nat.le_refl _, fun _ _ _ => rfl⟩, WS1.out.2⟩)⟩
        · obtain rfl : k = K1 := by omega
          have HF1 := Lib.hid HF.out.1
          clear HF
          go_wp2
          go_roundg (N - (i + 1))
          case measure => omega
          case rel => exact ⟨i + 1, by omega, by simp, HF1⟩
    · obtain rfl : i = N := by omega
      go_wp2
      go_ret
      exact ⟨rfl, HK.out⟩
end Go.Proofs.YtkkahghhheameaaDoor
