/- Numbers of 64 bits and great ones: word, Of, Back; the greatest that divides two of 64 bits; whether two are the same. -/
import Derived.Test.YtmbnojkciikobaaGreatDoorKeep
import Derived.Test.YtmbnojkciikobaaGreatDoorBits
import Derived.Deep.QuietTactic
import Derived.BigQuiet
namespace Go.Proofs.YtmbnojkciikobaaGreatDoor
open Go Go.Proofs Go.RowKit Go.Shelf Nu

attribute [local go_sem] Oper.semAt_some

def WordInv (w : World) (l : List Nat) (va : Value) (k : Nat) (W : World) : Prop :=
  (∃ n : Nat, n = val (l.drop (l.length - k)) ∧ n < 4294967296 ^ k ∧ Boxed W w.heap.size 51 (.int .u64 n)) ∧ Boxed W (w.heap.size + 1) 23 va ∧ Below w.heap.size w W

set_option maxRecDepth 100000 in
set_option maxHeartbeats 2000000 in
theorem word_any {w : World} {v : Value} {l : List Nat} (h : Reads w v l) (hl : l.length ≤ 2) (hs : Sm l) :
    Calls Tryz.prog 117 #[v] w fun e w' => e = .returned (.int .u64 (val l : Nat)) ∧ Below w.heap.size w w' := by
  obtain ⟨a1, c1, rfl⟩ := h.form
  obtain ⟨ba, oa, hba, hca⟩ := h.addr
  refine (callsIn_wide (n := 0)).1 ?_
  refine callsIn_of_wp_marks Tryz.func117 rfl trivial ?_ rfl
  simp only [Tryz.ntmps117, List.size_toArray, List.length_cons, List.length_nil, Nat.reduceAdd, Nat.reduceSub, Array.replicate_succ, Array.replicate_zero, List.push_toArray, List.append_toArray, List.nil_append, List.cons_append]
  refine wpIn_wide.2 ?_
  go_wp2_with (go_at_call 72; refine (back_any _ _ _ _).mono ?_; rintro e w' ⟨rfl, rfl⟩)
  refine (wpIn_wide (n := 0)).1 ?_
  refine wp_rangeAt (gf := 141) rfl (enters_of Tryz.func141 (by kernel_rfl) rfl)
    (back_iter l.length ba oa c1 (w.heap.size + 1) a1 (fun j => l.getD j 0) (by omega) (fun h => (hba h).1)) (fun _ => rfl)
    (WordInv w l (.slice a1 l.length c1)) (fun _ _ => False) ?own (fun _ _ _ _ h _ _ => h) ?reads ?start ?round ?done ?stop
  case own =>
    rintro k W W' row ⟨⟨n, h1, h2, h3⟩, h4, h5⟩ hg hr
    exact ⟨⟨n, h1, h2, keepBox h3 hg hr⟩, keepBox h4 hg hr, keepBelow h5 (Nat.le_refl _) (by simp; omega) hg hr⟩
  case reads =>
    rintro k W ⟨_, h4, h5⟩
    exact ⟨h4.cell, fun hk => (h5.cell (p := ⟨ba, oa + (l.length - 1 - k), none⟩) (hba (by omega)).2).trans (hca _ (by omega))⟩
  case start =>
    exact ⟨⟨0, by simp [val], by simp, (Boxed.new w _ _).alloc _⟩, boxed_new1 w _ _ _, ((Below.refl _ w).alloc (Nat.le_refl _) _).alloc (by simp) _⟩
  case round =>
    intro lp k W hk
    obtain ⟨j, hj⟩ : ∃ j, j = l.length - 1 - k := ⟨_, rfl⟩
    have hx := hs.getD j
    obtain ⟨x, hxe⟩ : ∃ x, x = l.getD j 0 := ⟨_, rfl⟩
    dsimp only
    rw [← hj, ← hxe]
    rw [← hxe] at hx
    have HX := Lib.hid hxe
    have HJ := Lib.hid hj
    have hk2 : k ≤ 1 := by omega
    clear hxe h hs hba hca hj
    gi_wp2
    refine NextRound.mk ?_
    rintro W2 ⟨⟨n, h1, h2, h3⟩, h4, h5⟩
    have hn : n < 4294967296 := Nat.lt_of_lt_of_le h2 (Nat.le_trans (Nat.pow_le_pow_right (by decide) hk2) (by decide))
    have H1 := Lib.hid h1
    have H2 := Lib.hid h2
    have r1 := h3.cell
    have r2 := h3.frozen
    clear h1 h2
    gi_wp2
    refine ⟨(KeepsOthers.setCell _ _ _).from _, ⟨n * 4294967296 + x, ?_, ?_, ?_⟩, h4.other (by omega) _, h5.setCell (p := ⟨w.heap.size, 0, none⟩) (Nat.le_refl _) _⟩
    · have hj := HJ.out
      have e : l.drop j = x :: l.drop (l.length - k) := by
        rw [show l.length - k = j + 1 by omega, List.drop_eq_getElem_cons (by omega), HX.out, List.getD_eq_getElem?_getD, List.getElem?_eq_getElem (by omega)]; rfl
      rw [show l.length - (k + 1) = j by omega, e, val, H1.out]
      omega
    · rw [Nat.pow_succ]; have := H2.out; omega
    · rw [← or_shl n x hn hx]
      exact h3.set _
  case done =>
    rintro D W hD ⟨⟨n, h1, h2, h3⟩, h4, h5⟩ hK
    have r1 := h3.cell
    rw [Nat.sub_self, List.drop_zero] at h1
    have H1 := Lib.hid h1
    clear h1 h hba hca
    go_wp2
    refine ⟨by simp, .inl ⟨_, _, rfl, run_takeDeferred hK, ?_⟩⟩
    exact ⟨_, results_tmp rfl _ _ _, by rw [← H1.out]; rfl, below_left _ h5 (by simp at hD; omega) hK rfl⟩
  case stop =>
    rintro D c W _ h _
    exact h.elim

theorem bounds64 (l : List Nat) (hl : l.length ≤ 2) (hs : Sm l) : val l < 18446744073709551616 :=
  Nat.lt_of_lt_of_le (val_lt hs) (Nat.le_trans (Nat.pow_le_pow_right (by decide) hl) (by decide))

set_option maxHeartbeats 400000 in
/-- Of -/
theorem of_any (n : Nat) (hn : n < 18446744073709551616) (w : World) :
    Calls Tryz.prog 31 #[.int .u64 n] w fun e w' => ∃ v, e = .returned v ∧ Fresh w' w.heap.size v (digs n) ∧ Below w.heap.size w w' := by
  have hF : Fresh (w.alloc (.cells #[.int .u32 (n % 4294967296 : Nat), .int .u32 (n / 4294967296 : Nat)] 78)) w.heap.size (.slice (some ⟨w.heap.size, 0, none⟩) 2 2) [n % 4294967296, n / 4294967296] :=
    ⟨rfl, .inr ⟨w.heap.size, 2, _, rfl, Nat.le_refl _, World.alloc_heap_new w _, Nat.le_refl _, small_max (by omega), rfl, rfl⟩⟩
  have hsm : Sm [n % 4294967296, n / 4294967296] := Sm.cons (by omega) (Sm.cons (by omega) Sm.nil)
  have hR := hF.trim' rfl hsm
  have ev : val [n % 4294967296, n / 4294967296] = n := by simp [val]; omega
  rw [ev] at hR
  have kt := trim_fresh hF rfl (by simp)
  go_enter Tryz.func31, Tryz.ntmps31
  rw [show ((n % 4294967296 : Nat) : Int) = (n : Int) % 4294967296 by omega, show ((n / 4294967296 : Nat) : Int) = (n : Int) / 4294967296 by omega] at kt hR
  go_wp2_with (go_at_call 66; refine kt.mono ?_; rintro e w' ⟨rfl, rfl⟩)
  go_ret
  exact ⟨_, rfl, hR, (Below.refl _ _).alloc (Nat.le_refl _) _⟩

/-- what Back answers -/
def backV (l : List Nat) : Value := if chk l then (if l.length > 2 then .tuple #[.int .u64 0, .int .i64 3] else .tuple #[.int .u64 (val l : Nat), .int .i64 0]) else .tuple #[.int .u64 0, .int .i64 1]
set_option maxHeartbeats 1000000 in
/-- Back -/
theorem back_any' {w : World} {v : Value} {l : List Nat} (h : Reads w v l) (hl : l.length ≤ 1000000) (hs : Sm l) :
    Calls Tryz.prog 27 #[v] w fun e w' => e = .returned (backV l) ∧ Below w.heap.size w w' := by
  have h0 := h
  have kc := check_any h hl
  obtain ⟨a1, c1, rfl⟩ := h.form
  cases hc : chk l with
  | false =>
    have ev : backV l = .tuple #[.int .u64 0, .int .i64 1] := by simp [backV, hc]
    rw [ev]
    rw [hc] at kc
    go_enter Tryz.func27, Tryz.ntmps27
    go_wp2_with (go_at_call 32; refine kc.mono ?_; rintro e w' ⟨rfl, rfl⟩)
    go_ret2
    exact ⟨rfl, Below.refl _ _⟩
  | true =>
    rw [hc] at kc
    by_cases h2 : 2 < l.length
    · have ev : backV l = .tuple #[.int .u64 0, .int .i64 3] := by simp [backV, hc, h2]
      rw [ev]
      go_enter Tryz.func27, Tryz.ntmps27
      go_wp2_with (go_at_call 32; refine kc.mono ?_; rintro e w' ⟨rfl, rfl⟩)
      go_ret2
      exact ⟨rfl, Below.refl _ _⟩
    · have ev : backV l = .tuple #[.int .u64 (val l : Nat), .int .i64 0] := by simp [backV, hc, h2]
      rw [ev]
      have kw := word_any h0 (by omega) hs
      go_enter Tryz.func27, Tryz.ntmps27
      go_wp2_with (first
        | (go_at_call 32; refine kc.mono ?_; rintro e w' ⟨rfl, rfl⟩)
        | (go_at_call 117; refine kw.mono ?_; rintro e w' ⟨rfl, hbw⟩))
      go_ret2
      exact ⟨rfl, hbw⟩

theorem ext_getD {la lb : List Nat} (hl : la.length = lb.length) (h : ∀ i, i < la.length → la.getD i 0 = lb.getD i 0) : la = lb := by
  apply List.ext_getElem hl
  intro i h1 h2
  have := h i h1
  rw [List.getD_eq_getElem?_getD, List.getD_eq_getElem?_getD, List.getElem?_eq_getElem h1, List.getElem?_eq_getElem h2] at this
  simpa using this

set_option maxHeartbeats 1000000 in
/-- SameNat -/
theorem sameNat_any {w : World} {va vb : Value} {la lb : List Nat} (ha : Reads w va la) (hb : Reads w vb lb) (hla : la.length ≤ 1000000) (_hlb : lb.length ≤ 1000000) :
    Calls Tryz.prog 16 #[va, vb] w fun e w' => e = .returned (.bool (decide (la = lb))) ∧ ∃ n, w' = w.drewN n := by
  obtain ⟨R, hR⟩ : ∃ R : Bool, R = decide (la = lb) := ⟨_, rfl⟩
  rw [← hR]
  have HR := Lib.hid hR
  clear hR
  obtain ⟨a1, c1, rfl⟩ := ha.form
  obtain ⟨b1, d1, rfl⟩ := hb.form
  obtain ⟨ba, oa, hba, hca⟩ := ha.addr
  obtain ⟨bb, ob, hbb, hcb⟩ := hb.addr
  by_cases hl : la.length = lb.length
  rotate_left
  · have h0 : R = false := by rw [HR.out]; simp; intro e; exact hl (by rw [e])
    have hq : ((la.length : Int) != (lb.length : Int)) = true := by simp; omega
    clear ha hb hba hca hbb hcb
    rw [h0]
    clear h0
    go_enter Tryz.func16, Tryz.ntmps16
    go_wp2
    go_ret
    exact ⟨rfl, 0, rfl⟩
  · have HL := Lib.hid hl
    obtain ⟨N, hN⟩ : ∃ N, N = la.length := ⟨_, rfl⟩
    have HN := Lib.hid hN
    have hN1 : N ≤ 1000000 := by omega
    rw [← hl, ← hN] at hbb hcb ⊢
    rw [← hN] at hba hca
    clear ha hb hl hN
    go_enter Tryz.func16, Tryz.ntmps16
    go_wp2
    go_loopw [5] (fun x wr => ∃ k n : Nat, k ≤ N ∧ x = .int .i64 k ∧ Hid (∀ i, i < k → la.getD i 0 = lb.getD i 0) ∧ wr = w.drewN n) (fun x _ => N - (intOf x).toNat)
    case atStart => exact ⟨0, 0, Nat.zero_le _, rfl, Lib.hid (fun i hi => by omega), rfl⟩
    case round =>
      obtain ⟨k, n, hk, rfl, hs, rfl⟩ := hrel
      by_cases hlt : k < N
      · have r1 := hca k hlt
        have r2 := hcb k hlt
        have e1 := (hba (by omega)).1
        have e2 := (hbb (by omega)).1
        obtain ⟨x, hxe⟩ : ∃ x, x = la.getD k 0 := ⟨_, rfl⟩
        obtain ⟨y, hye⟩ : ∃ y, y = lb.getD k 0 := ⟨_, rfl⟩
        rw [← hxe] at r1
        rw [← hye] at r2
        have HX := Lib.hid hxe
        have HY := Lib.hid hye
        clear hxe hye hca hcb hba hbb
        subst e1 e2
        by_cases hxy : x = y
        · have hq : ((x : Int) != (y : Int)) = false := by simp [hxy]
          have HXY := Lib.hid hxy
          clear hxy
          go_wp2
          go_quiet (fail)
          go_wp2
          go_roundw
          case rel =>
            refine ⟨k + 1, _, by omega, by simp, Lib.hid fun i hi => ?_, rfl⟩
            by_cases e : i = k
            · subst e; rw [← HX.out, ← HY.out]; exact HXY.out
            · exact hs.out i (by omega)
          case measure => simp [intOf]; omega
        · have hq : ((x : Int) != (y : Int)) = true := by simp; omega
          have h0 : R = false := by
            rw [HR.out]; simp; intro e; exact hxy (by rw [HX.out, HY.out, e])
          clear hxy
          go_wp2
          go_quiet (fail)
          go_wp2
          go_ret
          exact ⟨by rw [h0]; rfl, _, World.drewN_drewN ..⟩
      · have h0 : R = true := by
          rw [HR.out]; simp; exact ext_getD HL.out (fun i hi => hs.out i (by have := HN.out; omega))
        clear hca hcb hba hbb
        go_wp2
        go_ret
        exact ⟨by rw [h0]; rfl, n, rfl⟩

end Go.Proofs.YtmbnojkciikobaaGreatDoor
