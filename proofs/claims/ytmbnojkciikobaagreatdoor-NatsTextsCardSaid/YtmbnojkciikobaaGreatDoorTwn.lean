/- A number copied, with room behind, as memory of its own; and looked at again. -/
import Derived.Test.YtmbnojkciikobaaGreatDoorRefB
import Derived.Test.YtmbnojkciikobaaGreatDoorBook
import Derived.Deep.QuietTactic
namespace Go.Proofs.YtmbnojkciikobaaGreatDoor
open Go Go.Proofs Go.RowKit Go.Shelf Nu

attribute [local go_sem] Oper.semAt_some

/-- a copy of l, with a mark behind -/
def Tw (W : World) (base g cap : Nat) (l : List Nat) : Prop := Fresh W base (.slice (some ⟨g, 0, none⟩) (l.length + 1) cap) (l ++ [77])
theorem Fresh.front {W : World} {base g cap n : Nat} {l m : List Nat} (h : Fresh W base (.slice (some ⟨g, 0, none⟩) n cap) (l ++ m)) : Fresh W base (.slice (some ⟨g, 0, none⟩) l.length cap) l := by
  refine ⟨by simp, .inr ?_⟩
  rcases h.2 with ⟨h1, _⟩ | ⟨g', cap', cur, e1, hb, hg, hn, hc, hs, ht⟩
  · cases h1
  · simp only [Value.slice.injEq, Option.some.injEq, Addr.mk.injEq, and_true] at e1
    obtain ⟨rfl, _, rfl⟩ := e1
    refine ⟨g, cap, cur, rfl, hb, hg, by simp at hn; omega, hc, hs, ?_⟩
    rw [Nat.mul_one] at ht ⊢
    have := congrArg (List.take l.length) ht
    rw [List.take_take, List.length_append, Nat.min_eq_left (by omega), List.map_append, List.take_append_of_le_length (by simp)] at this
    exact this.trans (List.take_of_length_le (by simp))
section
variable {W W' : World} {base g cp : Nat} {l : List Nat}
theorem Tw.fresh (h : Tw W base g cp l) : Fresh W base (.slice (some ⟨g, 0, none⟩) l.length cp) l := Fresh.front h
theorem Tw.below (h : Tw W base g cp l) (hb : Below W.heap.size W W') : Tw W' base g cp l := Fresh.below h hb
theorem Tw.mono {b' : Nat} (h : Tw W base g cp l) (hb : b' ≤ base) : Tw W b' g cp l := Fresh.mono h hb
theorem Tw.cap (h : Tw W base g cp l) : l.length + 1 ≤ cp := by
  rcases h.form with ⟨e, _⟩ | ⟨g', c, e, _, _, hn, _⟩
  · cases e
  · simp only [Value.slice.injEq] at e
    rw [List.length_append] at hn
    simp at hn
    omega
theorem Tw.lt (h : Tw W base g cp l) : base ≤ g ∧ g < W.heap.size := Fresh.lt' (g := g) h rfl
theorem Tw.cell (h : Tw W base g cp l) (j : Nat) (hj : j < l.length + 1) : W.cell? ⟨g, j, none⟩ = some (.int .u32 ((l ++ [77]).getD j 0 : Nat)) := by
  rcases h.form with ⟨e, _⟩ | ⟨g', c, e, _, _, _, hcc⟩
  · cases e
  · simp only [Value.slice.injEq, Option.some.injEq, Addr.mk.injEq, and_true] at e
    obtain ⟨rfl, _⟩ := e
    have := hcc j (by simp; omega)
    rwa [Nat.zero_add] at this
theorem tw_of {k : Nat} (hF : Fresh W base (.slice (some ⟨g, 0, none⟩) (k + 1) cp) (l ++ [77])) (e : k = l.length) : Tw W base g cp l := by
  subst e; exact hF
end

set_option maxRecDepth 100000 in
set_option maxHeartbeats 4000000 in
theorem twin_own {w : World} {v : Value} {l : List Nat} (h : Reads w v l) (hl : l.length ≤ 100000) :
    Calls Tryz.prog 9 #[v] w fun e w' => ∃ g cap, e = .returned (.slice (some ⟨g, 0, none⟩) l.length cap) ∧ Tw w' w.heap.size g cap l ∧ Below w.heap.size w w' := by
  obtain ⟨i0, hi, hz0, hz1, hz2⟩ := info_parts info_u32
  have h0 := Lib.hid h
  obtain ⟨a, c, rfl⟩ := h.form
  obtain ⟨n, hn⟩ : ∃ n, n = l.length := ⟨_, rfl⟩
  obtain ⟨N1, hN1⟩ : ∃ N1, N1 = n + 1 := ⟨_, rfl⟩
  have hnn : ((n : Int) + 1) = (N1 : Int) := by omega
  have HN := Lib.hid hn
  have HN1 := Lib.hid hN1
  have hn1 : n ≤ 100000 := by omega
  have hN1l : N1 ≤ 100001 := by omega
  rw [← hn]
  clear h hn hN1 hl
  go_enter Tryz.func9, Tryz.ntmps9
  go_wp2_with (at_make; go_loud (refine wpList_make_own _ rfl _ _ 22 rfl w.heap.size 78 i0 (.int .u32 0) 1 Tryz.underlying22 hi hz0 hz1 .i64 .i64 _ N1 rfl rfl (by have := HN1.out; omega) (by rw [hz2]; omega) (by unfold maxLen; omega) (by simp) ?_); intro w1 hown1 hgrow1)
  have hbel1 : Below w.heap.size w w1 := (Below.refl _ _).grown hgrow1 (Nat.le_refl _) (fun _ e => by cases e)
  have hF0 : Fresh w1 w.heap.size (.slice (some ⟨w.heap.size, 0, none⟩) 0 N1) [] := by unfold Fresh; simpa using hown1
  clear hown1 hgrow1
  go_loopw [3, 4] (fun v i wr => ∃ k : Nat, k ≤ n ∧ i = .int .i64 k ∧ Fresh wr w.heap.size v (l.take k) ∧ Below w.heap.size w wr) (fun _ i _ => n - (intOf i).toNat)
  case atStart => exact ⟨0, Nat.zero_le _, rfl, by simpa using hF0, hbel1⟩
  case round =>
    obtain ⟨k, hk, rfl, hrow, hbel⟩ := hrel
    have hbS : w.heap.size ≤ wr.heap.size := hbel.size
    have hlt1 : (l.take k).length = k := by rw [List.length_take]; have := HN.out; omega
    have HL := Lib.hid hlt1
    by_cases hlt : k < n
    · have hR := h0.out.below hbel
      obtain ⟨ba, oa, hba, hca⟩ := hR.addr
      have hkl : k < l.length := by have := HN.out; omega
      have r1 := hca k hkl
      obtain ⟨rfl, _⟩ := hba (by omega)
      obtain ⟨x, hx⟩ : ∃ x, x = l.getD k 0 := ⟨_, rfl⟩
      rw [← hx] at r1
      have HX := Lib.hid hx
      clear hba hca hR hx hlt1 hkl
      go_wp2_with (at_builtin; go_loud (refine wpList_append_own _ rfl _ _ 22 rfl w.heap.size 78 i0 (.int .u32 0) 1 4 Tryz.underlying22 hi hz0 hz1 hz2 rfl (by decide) _ _ _ rfl (World.ownsRow.alloc hrow _) ⟨wr.heap.size, 0, none⟩ 1 1 [_] rfl rfl (one_new _ _ _ _ (by simp)) (by simp [Value.oneCell']) (small_max (by have := HL.out; omega)) (by have := HL.out; omega) (by simp; omega) ?_); intro v' w3 hown' hgrow _; obtain ⟨hF, hKO, hBl, hBx, hNo⟩ := fresh_append x hrow hbS hown' hgrow rfl)
      go_roundw
      case rel =>
        refine ⟨k + 1, by omega, by simp, ?_, hbel.trans hBl⟩
        have hkl : k < l.length := by have := HN.out; omega
        have e : l.take (k + 1) = l.take k ++ [x] := by
          rw [List.take_succ_eq_append_getElem hkl, HX.out, List.getD_eq_getElem?_getD, List.getElem?_eq_getElem hkl]; rfl
        rw [e]; exact hF
      case measure => simp [intOf]; omega
    · obtain rfl : k = n := by omega
      have hl : l.take k = l := List.take_of_length_le (by have := HN.out; omega)
      rw [hl] at hrow
      clear hlt1
      go_wp2_with (at_builtin; go_loud (refine wpList_append_own _ rfl _ _ 22 rfl w.heap.size 78 i0 (.int .u32 0) 1 4 Tryz.underlying22 hi hz0 hz1 hz2 rfl (by decide) _ _ _ rfl (World.ownsRow.alloc hrow _) ⟨wr.heap.size, 0, none⟩ 1 1 [_] rfl rfl (one_new _ _ _ _ (by simp)) (by simp [Value.oneCell']) (small_max (by have := HN.out; omega)) (by have := HN.out; omega) (by simp; omega) ?_); intro v' w3 hown' hgrow _; obtain ⟨hF, hKO, hBl, hBx, hNo⟩ := fresh_append 77 hrow hbS hown' hgrow rfl; obtain ⟨g, cap, rfl⟩ := ownsRow_succ hown'; have hTw := tw_of hF rfl; have hkc : k ≤ cap := (by have := hTw.cap; have := HN.out; omega); have hkc2 : ¬ (cap : Int) < (k : Int) := (by omega))
      go_ret
      exact ⟨g, cap, rfl, hTw, hbel.trans hBl⟩

set_option maxRecDepth 100000 in
set_option maxHeartbeats 2000000 in
theorem left_any {w : World} {base g cap : Nat} {v : Value} {l : List Nat} (hT : Tw w base g cap l) (hR : Reads w v l) (hl : l.length ≤ 100000) :
    Calls Tryz.prog 19 #[.slice (some ⟨g, 0, none⟩) l.length cap, v] w fun e w' => e = .returned (.bool true) ∧ Below w.heap.size w w' := by
  obtain ⟨a, c, rfl⟩ := hR.form
  have HT := Lib.hid hT
  have HR := Lib.hid hR
  obtain ⟨n, hn⟩ : ∃ n, n = l.length := ⟨_, rfl⟩
  have HN := Lib.hid hn
  have hcap : n + 1 ≤ cap := by have := hT.cap; omega
  have hn1 : n ≤ 100000 := by omega
  obtain ⟨N1, hN1⟩ : ∃ N1, N1 = n + 1 := ⟨_, rfl⟩
  have hnn : (n : Int) + 1 = (N1 : Int) := by omega
  have hc1 : ¬ ((cap : Int) ≤ (n : Int)) := by omega
  have hc2 : (N1 : Int) ≤ (cap : Int) := by omega
  have hc3 : (n : Int) < (N1 : Int) := by omega
  have r77 := hT.cell n (by omega)
  have e77 : (l ++ [77] : List Nat).getD n 0 = 77 := by rw [hn, List.getD_eq_getElem?_getD, List.getElem?_append_right (Nat.le_refl _), Nat.sub_self]; rfl
  rw [e77] at r77
  have R77 := Lib.hid r77
  have hb0 := Lib.hid (Below.refl w.heap.size w)
  rw [← hn]
  clear hT hR hn hN1 hl r77
  go_enter Tryz.func19, Tryz.ntmps19
  go_wp2
  go_loopg [5] n (fun gk s wr => ∃ k : Nat, k + gk = n ∧ s = .int .i64 (k : Int) ∧ ∃ q, wr = w.drewN q)
  case atStart => exact ⟨0, by omega, rfl, 0, by rw [World.drewN_zero]⟩
  case round =>
    obtain ⟨k, hk, rfl, q, rfl⟩ := hrel
    by_cases hkn : k < n
    · obtain ⟨b1, o1, ha, hc⟩ := HR.out.addr
      rw [← HN.out] at ha hc
      have r1 := hc k hkn
      have ea := (ha (by omega)).1
      subst ea
      have r2 := HT.out.cell k (by have := HN.out; omega)
      rw [show (l ++ [77] : List Nat).getD k 0 = l.getD k 0 by rw [List.getD_eq_getElem?_getD, List.getD_eq_getElem?_getD, List.getElem?_append_left (by have := HN.out; omega)]] at r2
      obtain ⟨x, hx⟩ : ∃ x, x = l.getD k 0 := ⟨_, rfl⟩
      rw [← hx] at r1 r2
      clear ha hc hx
      go_wp2
      go_quiet (fail)
      go_wp2
      go_roundg (n - (k + 1))
      case measure => omega
      case rel => exact ⟨k + 1, by omega, by simp, _, rfl⟩
    · obtain rfl : k = n := by omega
      have r77 : (w.drewN q).cell? ⟨g, k, none⟩ = some (.int .u32 77) := R77.out
      go_wp2
      go_ret
      exact ⟨rfl, hb0.out.os, hb0.out.tape, hb0.out.output, hb0.out.size, hb0.out.block⟩

end Go.Proofs.YtmbnojkciikobaaGreatDoor
