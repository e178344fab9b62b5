/- The document's answer: the product of two great numbers, by hand. -/
import Derived.Test.YtmbnojkciikobaaGreatDoorRefE
import Derived.Test.YtmbnojkciikobaaGreatDoorMul
namespace Go.Proofs.YtmbnojkciikobaaGreatDoor
open Go Go.Proofs Go.RowKit Go.Shelf Nu

attribute [local go_sem] Oper.semAt_some

/-- what holds in the inner loop: row p was there when it began -/
def RowInv (B p : List Nat) (N i k c x : Nat) (l : List Nat) : Prop :=
  Sm l ∧ l.length = N ∧ c < 4294967296 ∧ l.take i = p.take i ∧ l.drop (i + k) = p.drop (i + k) ∧
    val ((l.drop i).take k) + 4294967296 ^ k * c = val ((p.drop i).take k) + x * val (B.take k)
def ColInv (A B : List Nat) (N i : Nat) (p : List Nat) : Prop :=
  Sm p ∧ p.length = N ∧ val p = val (A.take i) * val B ∧ ∀ j, i + B.length ≤ j → p.getD j 0 = 0

theorem RowInv.start {A B p : List Nat} {N i x : Nat} (h : ColInv A B N i p) : RowInv B p N i 0 0 x p :=
  ⟨h.1, h.2.1, by omega, rfl, rfl, by simp [val]⟩
theorem RowInv.step {B p l : List Nat} {N i k c x y r d : Nat} (hN : i + k < N) (hx : x < 4294967296) (hS : Sm B) (H : RowInv B p N i k c x l) (hy : y = B.getD k 0) (hr : r = l.getD (i + k) 0) (hd : d = c + x * y + r) :
    RowInv B p N i (k + 1) (d / 4294967296) x (l.set (i + k) (d % 4294967296)) := by
  obtain ⟨h1, h2, h3, h4, h5, h6⟩ := H
  have hyb : y < 4294967296 := by rw [hy]; exact hS.getD k
  have hrb : r < 4294967296 := by rw [hr]; exact h1.getD _
  have hb := times_bound (c := c) (p := y) (t := x) (r := r) h3 hyb hx hrb
  have e1 : (l.drop i).length = N - i := by rw [List.length_drop, h2]
  have hrd : r = (l.drop i).getD k 0 := by
    rw [hr, List.getD_eq_getElem?_getD, List.getD_eq_getElem?_getD, List.getElem?_drop]
  refine ⟨h1.set _ _ (Nat.mod_lt _ (by decide)), by rw [List.length_set, h2], ?_, ?_, ?_, ?_⟩
  · rw [hd, show c + x * y + r = c + (y * x + r) by rw [Nat.mul_comm x y]; omega]
    omega
  · rw [← h4, List.take_set]
    rw [List.set_eq_of_length_le (by rw [List.length_take]; omega)]
  · rw [show i + (k + 1) = (i + k) + 1 by omega, set_drop]
    exact drop_succ_of_drop h5
  · have e2 : (l.set (i + k) (d % 4294967296)).drop i = (l.drop i).set k (d % 4294967296) := by
      rw [List.drop_set, if_neg (by omega), Nat.add_sub_cancel_left]
    rw [e2]
    have hk : k < (l.drop i).length := by omega
    have hdd : (l.drop i).drop k = (p.drop i).drop k := by rw [List.drop_drop, List.drop_drop]; exact h5
    have := times_step (row := p.drop i) (b := B) (cur := l.drop i) (k := k) (c := c) (t := x) hk hdd h6
    rw [← hrd, ← hy] at this
    rw [hd, show c + x * y + r = c + (y * x + r) by rw [Nat.mul_comm x y]; omega]
    exact this
theorem ColInv.next {A B p l : List Nat} {N i c x : Nat} (hN : i + B.length < N) (hA : x = A.getD i 0) (h : ColInv A B N i p) (H : RowInv B p N i B.length c x l) : ColInv A B N (i + 1) (l.set (i + B.length) c) := by
  obtain ⟨h1, h2, h3, h4⟩ := h
  obtain ⟨g1, g2, g3, g4, g5, g6⟩ := H
  rw [List.take_length] at g6
  have e0 : l = p.take i ++ (l.drop i).take B.length ++ p.drop (i + B.length) := by
    rw [← g4, ← g5, ← List.drop_drop, List.append_assoc, List.take_append_drop, List.take_append_drop]
  have hl1 : (p.take i).length = i := by rw [List.length_take]; omega
  have hl2 : ((l.drop i).take B.length).length = B.length := by rw [List.length_take, List.length_drop]; omega
  have hdr : p.drop (i + B.length) = p.getD (i + B.length) 0 :: p.drop (i + B.length + 1) := by
    rw [List.drop_eq_getElem_cons (by omega), List.getD_eq_getElem?_getD, List.getElem?_eq_getElem (by omega)]; rfl
  have hset : l.set (i + B.length) c = p.take i ++ (l.drop i).take B.length ++ [c] ++ p.drop (i + B.length + 1) := by
    have e1 : l.set (i + B.length) c = (p.take i ++ (l.drop i).take B.length ++ p.drop (i + B.length)).set (i + B.length) c := by rw [← e0]
    rw [e1, hdr, List.set_append_right _ _ (by simp; omega)]
    have e : i + B.length - (p.take i ++ (l.drop i).take B.length).length = 0 := by simp; omega
    rw [e]; simp
  have ev := val_row p i B.length ((l.drop i).take B.length) c x (val B) (by omega) (h4 _ (Nat.le_refl _)) hl2 g6
  refine ⟨g1.set _ _ g3, by rw [List.length_set, g2], ?_, ?_⟩
  · rw [hset, ev, h3, val_take_succ, Nat.add_mul, ← hA, Nat.mul_assoc]
  · intro j hj
    rw [List.getD_eq_getElem?_getD, List.getElem?_set_ne (by omega)]
    have : l.drop (i + B.length) = p.drop (i + B.length) := g5
    have h7 := getD_of_drop this j (by omega)
    rw [← List.getD_eq_getElem?_getD, h7]
    exact h4 j (by omega)
theorem ColInv.first (A B : List Nat) : ColInv A B (A.length + B.length) 0 (List.replicate (A.length + B.length) 0) :=
  ⟨Sm.replicate _, by rw [List.length_replicate], by simp [val_replicate, val], fun j _ => by
    rw [List.getD_eq_getElem?_getD, List.getElem?_replicate]; split <;> rfl⟩

set_option maxRecDepth 100000 in
set_option maxHeartbeats 4000000 in
theorem rmul_any {w : World} {va vb : Value} {la lb : List Nat} (ha : Reads w va la) (hb : Reads w vb lb) (hla : la.length ≤ 100000) (hlb : lb.length ≤ 100000) (hsa : Sm la) (hsb : Sm lb) :
    Calls Tryz.prog 18 #[va, vb] w fun e w' => ∃ v, e = .returned v ∧ Reads w' v (digs (nv la * nv lb)) ∧ Below w.heap.size w w' := by
  obtain ⟨i0, hi, hz0, hz1, hz2⟩ := info_parts info_u32
  have k1 := flip (rfit_any ha (by omega))
  have k2 := flip (rfit_any hb (by omega))
  have hA := orzV_reads ha
  have hB := orzV_reads hb
  obtain ⟨a1, c1, e1⟩ := hA.form
  obtain ⟨b1, d1, e2⟩ := hB.form
  rw [e1] at k1 hA
  rw [e2] at k2 hB
  have hlA : (orz la).length ≤ 100000 := Nat.le_trans (orz_length la) hla
  have hlB : (orz lb).length ≤ 100000 := Nat.le_trans (orz_length lb) hlb
  have hSA := Lib.hid (sm_orz hsa)
  have hSB := Lib.hid (sm_orz hsb)
  rw [← val_orz la, ← val_orz lb]
  generalize orz la = A at *
  generalize orz lb = B at *
  obtain ⟨x1, x2, rfl⟩ := ha.form
  obtain ⟨y1, y2, rfl⟩ := hb.form
  have RA := Lib.hid hA
  have RB := Lib.hid hB
  clear ha hb e1 e2 hla hlb hsa hsb hA hB
  obtain ⟨m, hm⟩ : ∃ m, m = A.length := ⟨_, rfl⟩
  obtain ⟨n, hn⟩ : ∃ n, n = B.length := ⟨_, rfl⟩
  obtain ⟨N, hN⟩ : ∃ N, N = m + n := ⟨_, rfl⟩
  have HM := Lib.hid hm
  have HN := Lib.hid hn
  have hNN : (m : Int) + (n : Int) = (N : Int) := by omega
  rw [← hm] at hlA k1
  rw [← hn] at hlB k2
  have hN1 : N ≤ 200000 := by omega
  have HNN := Lib.hid hN
  have hfirst := Lib.hid (ColInv.first A B)
  rw [← hm, ← hn, ← hN] at hfirst
  clear hm hn hN
  have hb0 : Below w.heap.size w w := Below.refl _ w
  go_enter Tryz.func18, Tryz.ntmps18
  go_wp2_with (first
    | (go_at_call 74; refine k1.mono ?_; clear k1; rintro e w' ⟨rfl, rfl⟩)
    | (go_at_call 74; refine k2.mono ?_; clear k2; rintro e w' ⟨rfl, rfl⟩)
    | (at_make; go_loud (refine wpList_make_full _ rfl _ _ 23 rfl w.heap.size 78 i0 (.int .u32 0) 1 Tryz.underlying23 hi hz0 hz1 .i64 .i64 _ _ N rfl rfl (by omega) (by omega) (by rw [hz2]; omega) (by unfold maxLen; omega) (by simp) ?_); intro w1 hown1 hgrow1))
  have hbel1 : Below w.heap.size w w1 := hb0.grown hgrow1 (Nat.le_refl _) (fun _ e => by cases e)
  have hF : Fresh w1 w.heap.size (.slice (some ⟨w.heap.size, 0, none⟩) N N) (List.replicate N 0) := by unfold Fresh; rw [List.length_replicate, ← replicate_zero_u32]; exact hown1
  obtain ⟨g, hg⟩ : ∃ g, g = w.heap.size := ⟨_, rfl⟩
  rw [← hg] at hF ⊢
  have hwg : w.heap.size ≤ g := by omega
  have HF1 := Lib.hid hF
  have HB1 := Lib.hid hbel1
  clear hown1 hgrow1 hF hbel1 hg
  have cellg : ∀ (W : World) (l : List Nat) (j : Nat), Fresh W g (.slice (some ⟨g, 0, none⟩) N N) l → l.length = N → j < N → W.cell? ⟨g, j, none⟩ = some (.int .u32 (l.getD j 0 : Nat)) ∧ W.frozen? ⟨g, j, none⟩ = false := by
    intro W l j hf hl hj
    have hf0 := hf
    unfold Fresh at hf0
    rw [hl] at hf0
    refine ⟨?_, World.ownsRow.frozenAt hf0 j⟩
    rcases hf.form with ⟨e, _⟩ | ⟨g', c, e, _, _, _, hcc⟩
    · cases e
    · simp only [Value.slice.injEq, Option.some.injEq, Addr.mk.injEq, and_true] at e
      obtain ⟨rfl, _⟩ := e
      have := hcc j (by omega)
      rwa [Nat.zero_add] at this
  have CG := Lib.hid cellg
  clear cellg
  go_loopg [6] m (fun gk s wr => ∃ (i : Nat) (p : List Nat), i + gk = m ∧ s = .int .i64 (i : Int) ∧ Hid (Fresh wr g (.slice (some ⟨g, 0, none⟩) N N) p) ∧ Hid (ColInv A B N i p) ∧ Hid (Below w.heap.size w wr))
  case atStart => exact ⟨0, _, by omega, rfl, HF1, hfirst, HB1⟩
  case round =>
    obtain ⟨i, p, hi, rfl, HF, HC, HB⟩ := hrel
    by_cases him : i < m
    · obtain ⟨x, hx⟩ : ∃ x, x = A.getD i 0 := ⟨_, rfl⟩
      have hxb : x < 4294967296 := by rw [hx]; exact hSA.out.getD i
      have HX := Lib.hid hx
      have hR0 := Lib.hid (RowInv.start (x := x) HC.out)
      clear hx
      go_wp2
      go_loopg [7, 8] n (fun g2 sc sk wy => ∃ (k c : Nat) (l : List Nat), k + g2 = n ∧ sk = .int .i64 (k : Int) ∧ sc = .int .u64 (c : Int) ∧ Hid (Fresh wy g (.slice (some ⟨g, 0, none⟩) N N) l) ∧ Hid (RowInv B p N i k c x l) ∧ Hid (Below w.heap.size w wy))
      case atStart => exact ⟨0, 0, p, by omega, rfl, rfl, HF, hR0, HB⟩
      case round =>
        obtain ⟨k, c, l, hk, rfl, rfl, HL, HR, HW⟩ := hrel
        have hc := HR.out.2.2.1
        by_cases hkn : k < n
        · obtain ⟨s, hs⟩ : ∃ s, s = i + k := ⟨_, rfl⟩
          have hss : (i : Int) + (k : Int) = (s : Int) := by omega
          have hsN : s < N := by have := HNN.out; omega
          obtain ⟨y, hy⟩ : ∃ y, y = B.getD k 0 := ⟨_, rfl⟩
          have hyb : y < 4294967296 := by rw [hy]; exact hSB.out.getD k
          obtain ⟨r, hr⟩ : ∃ r, r = l.getD s 0 := ⟨_, rfl⟩
          have hrb : r < 4294967296 := by rw [hr]; exact HR.out.1.getD s
          obtain ⟨P, hP, HP, hPb⟩ := mul_bound hxb hyb
          have hcell := CG.out _ _ _ HL.out HR.out.2.1 hsN
          rw [← hr] at hcell
          obtain ⟨q1, q2⟩ := hcell
          obtain ⟨ba, oa, hba, hca⟩ := (RA.out.below HW.out).addr
          obtain ⟨bb, ob, hbb, hcb⟩ := (RB.out.below HW.out).addr
          rw [← HM.out] at hba hca
          rw [← HN.out] at hbb hcb
          have r1 := hca i him
          have r2 := hcb k hkn
          have ea := (hba (by omega)).1
          subst ea
          have eb := (hbb (by omega)).1
          subst eb
          rw [← HX.out] at r1
          rw [← hy] at r2
          obtain ⟨d, hd⟩ : ∃ d, d = c + P + r := ⟨_, rfl⟩
          have hdd : (c : Int) + (P : Int) + (r : Int) = (d : Int) := by omega
          have hst := HR.out.step (d := d) (y := y) (r := r) (by omega) hxb hSB.out hy (by rw [← hs]; exact hr) (by rw [hd, HP])
          rw [← hs] at hst
          have hcp : c + P < 18446744073709551616 := by omega
          have hdb : d < 18446744073709551616 := by omega
          have hpt := (HL.out.put HR.out.2.1.symm s (d % 4294967296)).1
          rw [show ((d % 4294967296 : Nat) : Int) = (d : Int) % 4294967296 by omega] at hpt
          have fin : ∃ (k' c' : Nat) (l' : List Nat), k' + (n - (k + 1)) = n ∧ Value.int .i64 ((k : Int) + 1) = .int .i64 (k' : Int) ∧ Value.int .u64 ((d : Int) / 4294967296) = .int .u64 (c' : Int) ∧ Hid (Fresh (wr.setCell ⟨g, s, none⟩ (.int .u32 ((d : Int) % 4294967296))) g (.slice (some ⟨g, 0, none⟩) N N) l') ∧ Hid (RowInv B p N i k' c' x l') ∧ Hid (Below w.heap.size w (wr.setCell ⟨g, s, none⟩ (.int .u32 ((d : Int) % 4294967296)))) :=
            ⟨k + 1, d / 4294967296, _, by omega, by simp, by congr 1, Lib.hid hpt, Lib.hid hst, Lib.hid (HW.out.setCell (p := ⟨g, s, none⟩) hwg _)⟩
          have FIN := Lib.hid fin
          clear hs hy hr HP hd hst hpt fin hba hca hbb hcb HL HR HW
          go_wp2
          go_quiet (fail)
          go_wp2
          go_roundg (n - (k + 1))
          case measure => omega
          case rel =>
            obtain ⟨k', c', l', f1, f2, f3, f4, f5, f6⟩ := FIN.out
            exact ⟨k', c', l', f1, f2, f3, f4, f5, Lib.hid ⟨f6.out.os, f6.out.tape, f6.out.output, f6.out.size, f6.out.block⟩⟩
        · obtain rfl : k = n := by omega
          obtain ⟨s, hs⟩ : ∃ s, s = i + k := ⟨_, rfl⟩
          have hss : (i : Int) + (k : Int) = (s : Int) := by omega
          have hsN : s < N := by have := HNN.out; omega
          obtain ⟨q1, q2⟩ := CG.out _ _ _ HL.out HR.out.2.1 hsN
          have hcm : (c : Int) % 4294967296 = (c : Int) := by omega
          have hR := HR.out
          rw [HN.out] at hR
          have hnx := HC.out.next (by have := HN.out; omega) HX.out hR
          rw [← HN.out, ← hs] at hnx
          have hpt := (HL.out.put HR.out.2.1.symm s c).1
          have HNX := Lib.hid hnx
          have HPT := Lib.hid hpt
          have HBN := Lib.hid (HW.out.setCell (p := ⟨g, s, none⟩) hwg (.int .u32 (c : Int)))
          obtain ⟨z, hz⟩ : ∃ z, z = l.getD s 0 := ⟨_, rfl⟩
          rw [← hz] at q1
          clear hz hs hR hnx hpt HL HR HW
          go_wp2
          go_roundg (m - (i + 1))
          case measure => omega
          case rel => exact ⟨i + 1, _, by omega, by simp, HPT, HNX, HBN⟩
    · obtain rfl : i = m := by omega
      have hv : val p = val A * val B := by rw [HC.out.2.2.1, HM.out, List.take_length]
      have HVL := Lib.hid hv
      have kt := rtrim_any HF.out.reads (by have := HC.out.2.1; omega)
      clear hv
      go_wp2_with (go_at_call 75; refine kt.mono ?_; clear kt; rintro e w' ⟨⟨u, rfl, hu⟩, rfl⟩)
      go_ret
      refine ⟨u, rfl, ?_, HB.out⟩
      rw [← HVL.out, ← cut_eq HC.out.1]
      exact hu

end Go.Proofs.YtmbnojkciikobaaGreatDoor
