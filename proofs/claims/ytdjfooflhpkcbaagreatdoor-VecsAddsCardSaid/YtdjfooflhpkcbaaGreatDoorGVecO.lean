/- Rows of fractions in memory: what a slice of fractions reads as, and one of the call's own. Rows of fractions: may all be, are they as many. Rows .. -/
import Derived.Deep.LoopGhost
import Derived.Maps.AppendAt
import Derived.BigQuiet
import Derived.Deep.QuietTactic
import Derived.Test.YtdjfooflhpkcbaaGreatDoorGRatCmp
import Derived.Test.YtdjfooflhpkcbaaGreatDoorGVecM
import Derived.Test.YtdjfooflhpkcbaaGreatDoorGIter
import Derived.Test.YtdjfooflhpkcbaaGreatDoorGRatOpO
import Derived.Test.YtdjfooflhpkcbaaGreatDoorGRTv
import Derived.Test.YtdjfooflhpkcbaaGreatDoorGLoop
set_option maxRecDepth 100000
set_option maxHeartbeats 4000000
set_option linter.unusedSimpArgs false
set_option linter.unusedVariables false
namespace Go.Proofs.YtdjfooflhpkcbaaGreatDoor
section
open Go Go.Proofs Go.RowKit Go.Shelf Nu
abbrev Sl : Type := Option Addr × Nat
abbrev Zr : Type := Qr × Sl × Sl
def zcell (z : Zr) : List Value := [.bool z.1.1, .slice z.2.1.1 z.1.2.1.length z.2.1.2, .slice z.2.2.1 z.1.2.2.length z.2.2.2]
def zcells (zs : List Zr) : List Value := zs.flatMap zcell
theorem zcells_snoc (zs : List Zr) (z : Zr) : zcells (zs ++ [z]) = zcells zs ++ zcell z := by simp [zcells]
theorem zcells_len : ∀ zs : List Zr, (zcells zs).length = zs.length * 3
 | [] => rfl
 | z :: zs => by
  have := zcells_len zs
  simp [zcells, zcell] at *
  omega
theorem zcells_at : ∀ (zs : List Zr) (j : Nat) (z : Zr), zs[j]? = some z → ∀ i, i < 3 → (zcells zs)[j * 3 + i]? = (zcell z)[i]?
 | [], j, z, h, i, hi => by simp at h
 | u :: zs, 0, z, h, i, hi => by
  simp at h; subst h
  simp only [zcells, List.flatMap_cons]
  rw [List.getElem?_append_left (by simp [zcell]; omega)]
  simp
 | u :: zs, j + 1, z, h, i, hi => by
  simp only [zcells, List.flatMap_cons]
  rw [List.getElem?_append_right (by simp [zcell]; omega)]
  have e : (j + 1) * 3 + i - (zcell u).length = j * 3 + i := by simp [zcell]; omega
  rw [e]
  exact zcells_at zs j z (by simpa using h) i hi
def ZIn (W : World) (z : Zr) : Prop := Reads W (.slice z.2.1.1 z.1.2.1.length z.2.1.2) z.1.2.1 ∧ Reads W (.slice z.2.2.1 z.1.2.2.length z.2.2.2) z.1.2.2
theorem ZIn.below {W W' : World} {z : Zr} (h : ZIn W z) (hb : Below W.heap.size W W') : ZIn W' z := ⟨h.1.below hb, h.2.below hb⟩
def QrAt (W : World) (b o : Nat) (q : Qr) : Prop :=
 ∃ (p : Option Addr) (c : Nat) (p' : Option Addr) (c' : Nat), W.cell? ⟨b, o, none⟩ = some (.bool q.1) ∧ W.cell? ⟨b, o + 1, none⟩ = some (.slice p q.2.1.length c) ∧ W.cell? ⟨b, o + 2, none⟩ = some (.slice p' q.2.2.length c') ∧
  Reads W (.slice p q.2.1.length c) q.2.1 ∧ Reads W (.slice p' q.2.2.length c') q.2.2
theorem QrAt.below {W W' : World} {b o : Nat} {q : Qr} (h : QrAt W b o q) (hlt : b < W.heap.size) (hb : Below W.heap.size W W') : QrAt W' b o q := by
 obtain ⟨p, c, p', c', h0, h1, h2, h3, h4⟩ := h
 exact ⟨p, c, p', c', (hb.cell (p := ⟨b, o, none⟩) hlt).trans h0, (hb.cell (p := ⟨b, o + 1, none⟩) hlt).trans h1, (hb.cell (p := ⟨b, o + 2, none⟩) hlt).trans h2, h3.below hb, h4.below hb⟩
def VReads (W : World) (v : Value) (qs : List Qr) : Prop :=
 (v = .slice none 0 0 ∧ qs = []) ∨ (∃ b off cap, v = .slice (some ⟨b, off, none⟩) qs.length cap ∧ b < W.heap.size ∧ qs.length ≤ cap ∧ ∀ j q, qs[j]? = some q → QrAt W b (off + j * 3) q) ∨ ∃ x, v = .slice (some x) 0 0 ∧ qs = []
theorem VReads.nil (W : World) : VReads W (.slice none 0 0) [] := .inl ⟨rfl, rfl⟩
theorem VReads.below {W W' : World} {v : Value} {qs : List Qr} (h : VReads W v qs) (hb : Below W.heap.size W W') : VReads W' v qs := by
 rcases h with h | ⟨b, off, cap, e, hb', hc, hl⟩ | h
 · exact .inl h
 · exact .inr (.inl ⟨b, off, cap, e, Nat.lt_of_lt_of_le hb' hb.size, hc, fun j q hq => (hl j q hq).below hb' hb⟩)
 · exact .inr (.inr h)
theorem VReads.form {W : World} {v : Value} {qs : List Qr} (h : VReads W v qs) : ∃ a cap, v = .slice a qs.length cap := by
 rcases h with ⟨rfl, rfl⟩ | ⟨b, off, cap, rfl, _⟩ | ⟨x, rfl, rfl⟩
 · exact ⟨none, 0, rfl⟩
 · exact ⟨_, cap, rfl⟩
 · exact ⟨some x, 0, rfl⟩
theorem VReads.addr {W : World} {a : Option Addr} {n cap : Nat} {qs : List Qr} (h : VReads W (.slice a n cap) qs) : n = qs.length ∧ n ≤ cap ∧ ∃ b off, (0 < n → a = some ⟨b, off, none⟩ ∧ b < W.heap.size) ∧ ∀ j q, qs[j]? = some q → QrAt W b (off + j * 3) q := by
 rcases h with ⟨e, rfl⟩ | ⟨b, off, cap', e, hb, hc, hl⟩ | ⟨x, e, rfl⟩
 rotate_right
 · cases e; exact ⟨rfl, Nat.le_refl _, 0, 0, by simp, by simp⟩
 · cases e; exact ⟨rfl, Nat.le_refl _, 0, 0, by simp, by simp⟩
 · cases e; exact ⟨rfl, hc, b, off, fun _ => ⟨rfl, hb⟩, hl⟩
theorem qs_at {qs : List Qr} {j : Nat} (h : j < qs.length) : qs[j]? = some (qs.getD j default) := by
 rw [List.getD_eq_getElem?_getD, List.getElem?_eq_getElem h]; rfl
theorem qs_mem {qs : List Qr} {j : Nat} (h : j < qs.length) : qs.getD j default ∈ qs := List.mem_of_getElem? (qs_at h)
def VFresh (W : World) (base : Nat) (v : Value) (qs : List Qr) : Prop := ∃ zs : List Zr, zs.map (·.1) = qs ∧ W.ownsRow base 30 3 v zs.length (zcells zs) ∧ ∀ z ∈ zs, ZIn W z
theorem VFresh.nil (W : World) (base : Nat) : VFresh W base (.slice none 0 0) [] := ⟨[], rfl, World.ownsRow_nil W base _ 3, by simp⟩
theorem VFresh.reads {W : World} {base : Nat} {v : Value} {qs : List Qr} (h : VFresh W base v qs) : VReads W v qs := by
 obtain ⟨zs, rfl, ho, hz⟩ := h
 have hc := fun (g : Nat) (hg : v.ownBlock = some g) => World.ownsRow.cells ho hg
 rcases ho.2 with ⟨rfl, h0⟩ | ⟨g, cap, cur, rfl, hb, hg, hn, _⟩
 · obtain rfl : zs = [] := List.eq_nil_of_length_eq_zero h0
   exact .inl ⟨rfl, rfl⟩
 · refine .inr (.inl ⟨g, 0, cap, by simp, (Array.getElem?_eq_some_iff.1 hg).1, by simpa using hn, fun j q hq => ?_⟩)
   obtain ⟨z, hz1, rfl⟩ : ∃ z, zs[j]? = some z ∧ z.1 = q := by simpa [List.getElem?_map] using hq
   have hm := hz z (List.mem_of_getElem? hz1)
   have k := fun i (hi : i < 3) u (hu : (zcell z)[i]? = some u) => hc g rfl (j * 3 + i) u ((zcells_at zs j z hz1 i hi).trans hu)
   have k0 := k 0 (by omega) _ rfl
   have k1 := k 1 (by omega) _ rfl
   have k2 := k 2 (by omega) _ rfl
   simp only [Addr.add_lit] at k0 k1 k2
   refine ⟨z.2.1.1, z.2.1.2, z.2.2.1, z.2.2.2, ?_, ?_, ?_, hm.1, hm.2⟩
   · simpa [Nat.add_assoc] using k0
   · simpa [Nat.add_assoc] using k1
   · simpa [Nat.add_assoc] using k2
theorem VFresh.mono {W : World} {base base' : Nat} {v : Value} {qs : List Qr} (h : VFresh W base v qs) (hb : base' ≤ base) : VFresh W base' v qs := by
 obtain ⟨zs, e, ho, hz⟩ := h
 refine ⟨zs, e, ⟨ho.1, ?_⟩, hz⟩
 rcases ho.2 with h | ⟨g, cap, cur, e, hg, r⟩
 · exact .inl h
 · exact .inr ⟨g, cap, cur, e, Nat.le_trans hb hg, r⟩
theorem own_below {W W' : World} {base n k : Nat} {t : TypeId} {v : Value} {l : List Value} (h : W.ownsRow base t k v n l) (hb : Below W.heap.size W W') : W'.ownsRow base t k v n l := by
 refine ⟨h.1, ?_⟩
 rcases h.2 with h | ⟨g, cap, cur, e, hg, hgb, r⟩
 · exact .inl h
 · exact .inr ⟨g, cap, cur, e, hg, (hb.block g (Array.getElem?_eq_some_iff.1 hgb).1).trans hgb, r⟩
theorem VFresh.below {W W' : World} {base : Nat} {v : Value} {qs : List Qr} (h : VFresh W base v qs) (hb : Below W.heap.size W W') : VFresh W' base v qs := by
 obtain ⟨zs, e, ho, hz⟩ := h
 exact ⟨zs, e, own_below ho hb, fun z hz' => (hz z hz').below hb⟩
theorem VFresh.alloc {W : World} {base : Nat} {v : Value} {qs : List Qr} (h : VFresh W base v qs) (o : Obj) : VFresh (W.alloc o) base v qs := h.below ((Below.refl _ _).alloc (Nat.le_refl _) o)
theorem VFresh.form {W : World} {base : Nat} {v : Value} {qs : List Qr} (h : VFresh W base v qs) : ∃ a cap, v = .slice a qs.length cap := h.reads.form
theorem info_rat : (Tryz.prog.info? 30).map (fun i => (i.zero, i.size, i.bytes)) = some (some (.agg #[.bool false, .slice none 0 0, .slice none 0 0]), 3, 56) := by kernel_rfl
/-! ### parts of a row -/
theorem VReads.take {W : World} {a : Option Addr} {n cap : Nat} {qs : List Qr} (h : VReads W (.slice a n cap) qs) (k : Nat) (hk : k ≤ n) : VReads W (.slice a k cap) (qs.take k) := by
 rcases h with ⟨e, rfl⟩ | ⟨b, off, cap', e, hb, hc, hl⟩ | ⟨x, e, rfl⟩
 rotate_right
 · cases e; obtain rfl : k = 0 := by omega
   exact .inr (.inr ⟨x, rfl, rfl⟩)
 · cases e; obtain rfl : k = 0 := by omega
   exact .inl ⟨rfl, rfl⟩
 · cases e
   refine .inr (.inl ⟨b, off, cap, by rw [List.length_take, Nat.min_eq_left hk], hb, by rw [List.length_take]; omega, fun j q hq => ?_⟩)
   rw [List.getElem?_take] at hq
   split at hq
   · exact hl j q hq
   · cases hq
theorem VReads.drop {W : World} {b off n cap : Nat} {qs : List Qr} (h : VReads W (.slice (some ⟨b, off, none⟩) n cap) qs) (k m c o : Nat) (hm : m = n - k) (hc : c = cap - k) (ho : o = off + k * 3) (hk : k ≤ n) (hn : 0 < n) : VReads W (.slice (some ⟨b, o, none⟩) m c) (qs.drop k) := by
 rcases h with ⟨e, rfl⟩ | ⟨b', off', cap', e, hb, hc', hl⟩ | ⟨x, e, rfl⟩
 rotate_right
 · cases e; omega
 · cases e
 · cases e
   subst hm hc ho
   refine .inr (.inl ⟨b, off + k * 3, cap - k, by rw [List.length_drop], hb, by rw [List.length_drop]; omega, fun j q hq => ?_⟩)
   rw [List.getElem?_drop] at hq
   have := hl _ q hq
   rwa [show off + (k + j) * 3 = off + k * 3 + j * 3 by omega] at this
end
section
open Go Go.Proofs Go.RowKit Go.Shelf Nu
attribute [local go_sem] Oper.semAt_some
def qrows (qs : List Qr) : Prop := (∀ q ∈ qs, Fit q) ∧ qs.length ≤ 65536
theorem all_take_succ {qs : List Qr} {k : Nat} (hk : k < qs.length) (h : (qs.take k).all qok = true) (hq : qok (qs.getD k default) = true) : (qs.take (k + 1)).all qok = true := by
 have e : qs.take (k + 1) = qs.take k ++ [qs.getD k default] := by
  rw [List.take_add_one, qs_at hk]; rfl
 rw [e, List.all_append, h]
 show (true && (qok (qs.getD k default) && true)) = true
 rw [hq]; rfl
theorem v_check {w : World} {a : Option Addr} {n cap : Nat} {qs : List Qr} (R : Bool) (hR : R = qs.all qok) (h : VReads w (.slice a n cap) qs) (hq : qrows qs) :
  Calls Tryz.prog 12 #[.slice a n cap] w fun e w' => e = .returned (.bool R) ∧ Below w.heap.size w w' := by
 obtain ⟨hn, hcap, b, off, ha, hc⟩ := h.addr
 have HN := Lib.hid hn
 have HR := Lib.hid hR
 have HQ := Lib.hid hq
 have HC := Lib.hid hc
 have HA := Lib.hid ha
 have hn1 : n ≤ 65536 := hn ▸ hq.2
 clear hn hR hq hc h hcap ha
 go_enter Tryz.func12, Tryz.ntmps12
 go_wp2
 go_loopw [7] (fun i wr => ∃ k : Nat, k ≤ n ∧ i = .int .i64 k ∧ Below w.heap.size w wr ∧ Hid ((qs.take k).all qok = true)) (fun i _ => n - (intOf i).toNat)
 case atStart => exact ⟨0, Nat.zero_le _, rfl, Below.refl _ _, Lib.hid (by simp)⟩
 case round =>
  obtain ⟨k, hk, rfl, hb, hs⟩ := hrel
  have HB := Lib.hid hb
  clear hb
  by_cases hlt : k < n
  · obtain ⟨rfl, hbl⟩ := HA.out (by omega)
    have hk2 : k < qs.length := by have := HN.out; omega
    have hqat := (HC.out k _ (qs_at hk2)).below hbl HB.out
    have hfit := HQ.out.1 _ (qs_mem hk2)
    have hstep := fun h => all_take_succ hk2 hs.out h
    have hall : qok (qs.getD k default) = false → qs.all qok = false := fun h => by
     rw [List.all_eq_false]; exact ⟨_, qs_mem hk2, by rw [h]; exact Bool.false_ne_true⟩
    generalize qs.getD k default = q at *
    obtain ⟨s, l, d⟩ := q
    obtain ⟨p, c, p', c', h0, h1, h2, g1, g2⟩ := hqat
    have kc := fun (W : World) (r : Below wr.heap.size wr W) => rcheck_any (n := s) (g1.below r) (g2.below r) hfit.1.1 hfit.1.2 (by have := hfit.2.1; omega) (by have := hfit.2.2; omega)
    have HS := Lib.hid hstep
    have HL := Lib.hid hall
    clear g1 g2 hfit hk2 hstep hall
    dsimp only at h0 h1 h2
    clear HA HC
    go_wp2_with fail
    have al : Below wr.heap.size wr (wr.alloc (.cells #[.bool s, .slice p l.length c, .slice p' d.length c'] 30)) := (Below.refl _ _).alloc (Nat.le_refl _) _
    refine (kc _ al).mono ?_
    rintro e w1 ⟨rfl, rr⟩
    have hb1 := then_below HB.out (then_below al rr)
    have HB1 := Lib.hid hb1
    clear rr hb1 al kc h0 h1 h2
    have hB : rchk s l d = qok (s, l, d) := rfl
    rw [hB]
    clear hB
    cases hB : qok (s, l, d) with
    | false =>
     have h3 := HL.out hB
     have h0 : R = false := HR.out.trans h3
     clear hB h3
     go_wp2
     go_ret
     exact ⟨ret_bool h0.symm, HB1.out⟩
    | true =>
     have H3 := Lib.hid (HS.out hB)
     clear hB
     go_wp2
     go_roundw
     case rel => exact ⟨k + 1, by omega, by simp, HB1.out, H3⟩
     case measure => simp [intOf]; omega
  · have h0 : R = true := by
     rw [HR.out]
     have := hs.out
     rwa [List.take_of_length_le (by have := HN.out; omega)] at this
    clear HA HC
    go_wp2
    go_ret
    exact ⟨ret_bool h0.symm, HB.out⟩
theorem v_match {w : World} {a1 a2 : Option Addr} {n1 n2 c1 c2 : Nat} {q1 q2 : List Qr} (R : Bool) (hR : R = (decide (n1 = n2) && (q1.all qok && q2.all qok))) (h1 : VReads w (.slice a1 n1 c1) q1) (h2 : VReads w (.slice a2 n2 c2) q2) (f1 : qrows q1) (f2 : qrows q2) :
   Calls Tryz.prog 43 #[.slice a1 n1 c1, .slice a2 n2 c2] w fun e w' => e = .returned (.bool R) ∧ Below w.heap.size w w' := by
 obtain ⟨B1, e1⟩ : ∃ B, B = q1.all qok := ⟨_, rfl⟩
 obtain ⟨B2, e2⟩ : ∃ B, B = q2.all qok := ⟨_, rfl⟩
 have k1 := fun (W : World) (r : Below w.heap.size w W) => v_check B1 e1 (h1.below r) f1
 have k2 := fun (W : World) (r : Below w.heap.size w W) => v_check B2 e2 (h2.below r) f2
 have hn1 : n1 ≤ 65536 := h1.addr.1 ▸ f1.2
 have hn2 : n2 ≤ 65536 := h2.addr.1 ▸ f2.2
 rw [← e1, ← e2] at hR
 clear h1 h2 f1 f2 e1 e2
 by_cases e : n1 = n2
 · subst e
   have ht : ((n1 : Int) == (n1 : Int)) = true := by simp
   cases B1 with
   | false =>
    obtain rfl : R = false := by simpa using hR
    clear hR
    go_enter Tryz.func43, Tryz.ntmps43
    go_wp2_with fail
    refine (k1 _ (Below.refl _ _)).mono ?_
    rintro e w1 ⟨rfl, rr⟩
    have RR := Lib.hid rr
    clear rr
    go_wp2_with fail
    go_ret
    exact ⟨rfl, RR.out⟩
   | true =>
    obtain rfl : R = B2 := by simpa using hR
    clear hR
    go_enter Tryz.func43, Tryz.ntmps43
    go_wp2_with fail
    refine (k1 _ (Below.refl _ _)).mono ?_
    rintro e w1 ⟨rfl, rr⟩
    have RR := Lib.hid rr
    clear rr
    go_wp2_with fail
    refine (k2 _ RR.out).mono ?_
    rintro e w2 ⟨rfl, rr⟩
    have RR2 := Lib.hid (then_below RR.out rr)
    clear rr
    go_wp2_with fail
    go_ret
    exact ⟨rfl, RR2.out⟩
 · have ht : ((n1 : Int) == (n2 : Int)) = false := by simp; omega
   obtain rfl : R = false := by simpa [e] using hR
   clear hR e
   go_enter Tryz.func43, Tryz.ntmps43
   go_wp2_with fail
   go_ret
   exact ⟨rfl, Below.refl _ _⟩
abbrev zval (z : Zr) : Value := .agg #[.bool z.1.1, .slice z.2.1.1 z.1.2.1.length z.2.1.2, .slice z.2.2.1 z.1.2.2.length z.2.2.2]
def ZAt (W : World) (b o : Nat) (z : Zr) : Prop := W.cell? ⟨b, o, none⟩ = some (.bool z.1.1) ∧ W.cell? ⟨b, o + 1, none⟩ = some (.slice z.2.1.1 z.1.2.1.length z.2.1.2) ∧ W.cell? ⟨b, o + 2, none⟩ = some (.slice z.2.2.1 z.1.2.2.length z.2.2.2)
theorem ZAt.below {W W' : World} {b o : Nat} {z : Zr} (h : ZAt W b o z) (hlt : b < W.heap.size) (hb : Below W.heap.size W W') : ZAt W' b o z :=
 ⟨(hb.cell (p := ⟨b, o, none⟩) hlt).trans h.1, (hb.cell (p := ⟨b, o + 1, none⟩) hlt).trans h.2.1, (hb.cell (p := ⟨b, o + 2, none⟩) hlt).trans h.2.2⟩
theorem VReads.fn {W : World} {a : Option Addr} {n cap : Nat} {qs : List Qr} (h : VReads W (.slice a n cap) qs) : ∃ (b off : Nat) (f : Nat → Zr), (0 < n → a = some ⟨b, off, none⟩ ∧ b < W.heap.size) ∧ ∀ j, j < n → (f j).1 = qs.getD j default ∧ ZAt W b (off + j * 3) (f j) ∧ ZIn W (f j) := by
 obtain ⟨hn, _, b, off, hA, hc⟩ := h.addr
 have key : ∀ j, ∃ z : Zr, j < n → z.1 = qs.getD j default ∧ ZAt W b (off + j * 3) z ∧ ZIn W z := by
  intro j
  by_cases hj : j < n
  · obtain ⟨p, c, p', c', h0, h1, h2, g, g'⟩ := hc j _ (qs_at (by omega))
    exact ⟨(qs.getD j default, (p, c), (p', c')), fun _ => ⟨rfl, ⟨h0, h1, h2⟩, g, g'⟩⟩
  · exact ⟨default, fun h => absurd h hj⟩
 exact ⟨b, off, fun j => Classical.choose (key j), hA, fun j hj => Classical.choose_spec (key j) hj⟩
theorem places_any (a b : Option Addr) (n m ca cb : Nat) (w : World) :
  Calls Tryz.prog 54 #[.slice a n ca, .slice b m cb] w fun e w' => e = .returned (.func (.func 134) #[] #[.pointer (some ⟨w.heap.size, 0, none⟩), .pointer (some ⟨w.heap.size + 1, 0, none⟩)]) ∧ w' = (w.alloc (.cells #[.slice a n ca] 22)).alloc (.cells #[.slice b m cb] 22) := by
 go_enter Tryz.func54, Tryz.ntmps54
 go_wp2
 go_ret
 exact ⟨rfl, rfl⟩
theorem places_iter (N b1 o1 b2 o2 c1 c2 B1 B2 : Nat) (a1 a2 : Option Addr) (f g : Nat → Zr) (hN : N ≤ 65536) (h1 : 0 < N → a1 = some ⟨b1, o1, none⟩) (h2 : 0 < N → a2 = some ⟨b2, o2, none⟩) (d1 : N ≤ c1) (d2 : N ≤ c2) :
   IterAt Tryz.prog 134 #[.pointer (some ⟨B1, 0, none⟩), .pointer (some ⟨B2, 0, none⟩)] N (fun k => #[zval (f k), zval (g k)])
    (fun k W => W.cell? ⟨B1, 0, none⟩ = some (.slice a1 N c1) ∧ W.cell? ⟨B2, 0, none⟩ = some (.slice a2 N c2) ∧ (k < N → ZAt W b1 (o1 + k * 3) (f k) ∧ ZAt W b2 (o2 + k * 3) (g k))) := by
 intro l J Jx W hB hJd hY h0
 obtain ⟨hx1, hx2, -⟩ := hB 0 W h0
 refine callsIn_of_wp Tryz.func134 rfl trivial ?_ rfl
 simp only [Tryz.ntmps134, List.size_toArray, List.length_cons, List.length_nil, Nat.reduceAdd, Nat.reduceSub, Array.replicate_succ, Array.replicate_zero, List.push_toArray, List.append_toArray, List.nil_append, List.cons_append]
 by_cases hz : N = 0
 · subst hz
   clear hY hB h1 h2 hJd
   gi_wp2
   gi_loopw [10] (fun i wr => i = .int .i64 0 ∧ J 0 wr) (fun _ _ => 0)
   case atStart => exact ⟨rfl, h0⟩
   case round =>
    obtain ⟨rfl, hJs⟩ := hrel
    gi_wp2
    go_end0
    exact ⟨⟨_, rfl⟩, .inl hJs⟩
 · obtain rfl := h1 (by omega)
   obtain rfl := h2 (by omega)
   clear h1 h2
   gi_wp2
   gi_loopw [4, 10] (fun _ i wr => ∃ k : Nat, k ≤ N ∧ i = .int .i64 k ∧ J k wr) (fun _ i _ => N - (intOf i).toNat)
   case atStart => exact ⟨0, Nat.zero_le _, rfl, h0⟩
   case round =>
    obtain ⟨k, hk, rfl, hJs⟩ := hrel
    by_cases hlt : k < N
    · obtain ⟨fn, tmps, assign, body, hy, hR⟩ := hY k wr.drew (hJd k wr hJs) hlt
      obtain ⟨bx1, bx2, hc⟩ := hB k wr.drew (hJd k wr hJs)
      obtain ⟨⟨u0, u1, u2⟩, v0, v1, v2⟩ := hc hlt
      clear hB hY hJd hx1 hx2 hc
      generalize f k = z1 at *
      generalize g k = z2 at *
      obtain ⟨⟨s, l1, d1'⟩, ⟨p, c⟩, p', c'⟩ := z1
      obtain ⟨⟨s', l2, d2'⟩, ⟨q, e⟩, q', e'⟩ := z2
      dsimp only [zval] at *
      gi_wp2
      refine region_tail_in Lets.wide 9 (by kernel_rfl) (by kernel_rfl) ?_
      simp only [List.take_succ_cons, List.take_zero, List.drop_succ_cons, List.drop_zero]
      iterate 9 still_step
      refine wpStill_nil ?_
      gi_wp2
      refine ⟨rfl, hR.mono ?_⟩
      rintro e W3 (⟨rfl, hJ3⟩ | ⟨rfl, hJx3⟩)
      · gi_wp2
        go_roundw
        case rel => exact ⟨k + 1, by omega, by simp, hJ3⟩
        case measure => simp [intOf]; omega
      · gi_wp2
        refine bodyPost_ret (results_none rfl _ _ _) rfl ?_
        exact ⟨⟨_, rfl⟩, .inr hJx3⟩
    · obtain rfl : k = N := by omega
      clear hB hY hJd
      gi_wp2
      go_end0
      exact ⟨⟨_, rfl⟩, .inl hJs⟩
end
section
open Go Go.Proofs Go.RowKit Go.Shelf Nu
theorem r_mul_rd {w : World} {p1 o1 p2 o2 : Option Addr} {q1 r1 q2 r2 : Nat} {n1 n2 sZ : Bool} {l1 d1 l2 d2 LZ DZ : List Nat} {X Y Z : Rat} (hX : RIs n1 l1 d1 X) (hY : RIs n2 l2 d2 Y) (kZ : RCan sZ LZ DZ Z) (eZ : Z = X * Y) (b1 : l1.length ≤ 9999) (b2 : d1.length ≤ 9999) (b3 : l2.length ≤ 9999) (b4 : d2.length ≤ 9999) (g1 : Reads w (.slice p1 l1.length q1) l1) (g2 : Reads w (.slice o1 d1.length r1) d1) (g3 : Reads w (.slice p2 l2.length q2) l2) (g4 : Reads w (.slice o2 d2.length r2) d2) :
  Calls Tryz.prog 46 #[.agg #[.bool n1, .slice p1 l1.length q1, .slice o1 d1.length r1], .agg #[.bool n2, .slice p2 l2.length q2, .slice o2 d2.length r2]] w fun e w' => ∃ a c a' c', e = .returned (.agg #[.bool sZ, .slice a LZ.length c, .slice a' DZ.length c']) ∧ Reads w' (.slice a LZ.length c) LZ ∧ Reads w' (.slice a' DZ.length c') DZ ∧ Below w.heap.size w w' := by
 refine (r_mul_own hX hY kZ eZ b1 b2 b3 b4 g1 g2 g3 g4).mono ?_
 rintro e w' ⟨a, c, a', c', h1, h2, h3, h4, _⟩
 exact ⟨a, c, a', c', h1, h2.reads, h3.reads, h4⟩
end
section
open Go Go.Proofs Go.RowKit Go.Shelf Nu
attribute [local go_sem] Oper.semAt_some
def RAns (w : World) (X : Rat) (e : Ending) (w' : World) : Prop :=
 ∃ a c a' c', e = .returned (.agg #[.bool (qr X).1, .slice a (qr X).2.1.length c, .slice a' (qr X).2.2.length c']) ∧ Reads w' (.slice a (qr X).2.1.length c) (qr X).2.1 ∧ Reads w' (.slice a' (qr X).2.2.length c') (qr X).2.2 ∧ Below w.heap.size w w'
end
section
open Go Go.RowKit Go.Shelf
def MidRound (P : Program) (l : Nat) (body : Code) (B : Nat) (I' : World → Prop) (Ix : Code → World → Prop) (W : World) (a : Act) (W1 : World) : Prop :=
 KeepsFrom B W W1 ∧ ∃ Im : World → Prop, Im W1 ∧ OwnFrom B (fun (_ : Unit) W => Im W) ∧ ∀ W2, Im W2 → body.wpIn (Fence.wide.inRound l) 0 P (roundEnd B I' Ix W2) a W2
theorem wp_rangeMid {P : Program} {g : Operand} {ps : Array Tmp} {assign body : Code} {Q : Exit → Act → World → Prop} {a : Act} {w : World}
   {gf : Nat} {lb : Array Value} (hg : a.eval g = .func (.func gf) #[] lb) (eg : ∀ args w, (callFunc gf args).run P w = .ok (.enter gf args) w)
   {N : Nat} {vals : Nat → Array Value} {B : Nat → World → Prop} (hseq : IterAt P gf lb N vals B) (hps : ∀ k, (vals k).size = ps.size)
   (I : Nat → World → Prop) (Ix : Code → World → Prop) (hI : OwnFrom w.heap.size I) (hIx : OwnFrom w.heap.size Ix) (hIB : ∀ k W, I k W → B k W) (h0 : I 0 w)
   (hround : ∀ (l k : Nat) (W : World), k < N → I k W →
     assign.wpIn (Fence.wide.inRound l) 0 P (Exit.then (MidRound P l body w.heap.size (I (k + 1)) Ix W) (fun _ _ _ => False)) { tmps := (ps.zip (vals k)).foldl (fun t (p, v) => t.setIfInBounds p v) a.tmps, defers := [] } W)
   (hdone : ∀ (D : Nat) (W : World), w.heap.size ≤ D → I N W → W.heap[D]? = some (.deferred (some [])) → Q .normal { a with defers := { target := .collected D, args := #[] } :: a.defers } W)
   (hstop : ∀ (D : Nat) (c : Code) (W : World), w.heap.size ≤ D → Ix c W → W.heap[D]? = some (.deferred (some [])) → c.wpIn Fence.wide 0 P Q { a with defers := { target := .collected D, args := #[] } :: a.defers } W) :
   (Code.rangeFunc g ps assign body).wpIn Fence.wide 0 P Q a w := by
 refine wpIn_rangeFunc fun fn _ => ?_
 -- the loop's record, in its states
 let rec_ : LoopState → Option Code → Loop := fun st pe => { state := st, pending := pe, fn, tmps := a.tmps, params := ps, assign, body, defers := w.heap.size }
 let L := w.heap.size + 1
 let W1 := (w.alloc (.deferred (some []))).alloc (.loop (rec_ .ready none))
 have hL1 : W1.heap[L]? = some (.loop (rec_ .ready none)) := by
   have := World.alloc_heap_new (w.alloc (.deferred (some []))) (.loop (rec_ .ready none)); rwa [World.size_alloc] at this
 have hK1 : W1.heap[w.heap.size]? = some (.deferred (some [])) := (Below.heap_alloc _ _ _ (by simp)).trans (World.alloc_heap_new w _)
 have hI1 : I 0 W1 := hI.alloc _ (hI.alloc _ h0)
 refine ⟨L, [{ target := .collected w.heap.size, args := #[] }], W1, { target := .fn (.func gf) lb, args := #[.func (.yield L) #[] #[]] }, W1, gf, #[.func (.yield L) #[] #[]] ++ lb, W1, run_enterLoop_outer _ _ _ _ _, ?_, fun _ _ => trivial, ?_, fun h => by simp [Fence.wide] at h, ?_⟩
 · simp only [resolve, hg]
   simp [go_sem]
 · simp [invoke, go_sem, eg]
 refine (hseq L (fun k W => I k W ∧ W.heap[L]? = some (.loop (rec_ .ready none)) ∧ W.heap[w.heap.size]? = some (.deferred (some [])))
     (fun W => ∃ c, Ix c W ∧ W.heap[L]? = some (.loop (rec_ .done (some c))) ∧ W.heap[w.heap.size]? = some (.deferred (some [])))
     W1 (fun k W h => hIB k W h.1) (fun k W h => ⟨hI _ _ _ none h.1 ⟨rfl, rfl, rfl, Nat.le_refl _, fun _ _ _ => rfl⟩ (fun _ e => by cases e), h.2.1, h.2.2⟩) ?_ ⟨hI1, hL1, hK1⟩).mono ?_
 · -- a round
   rintro k W ⟨hi, hl, hk⟩ hlt
   have hy := run_yield (P := P) (args := vals k) hl (hps k)
   refine ⟨fn, _, assign, body, hy, roundIn_of_wpIn trivial (wpIn_mono (hround L k W hlt hi) ?_)⟩
   have hLt : L < W.heap.size := (Array.getElem?_eq_some_iff.1 hl).1
   rintro e a1 W1' hn
   cases e with
   | normal => ?_
   | exit _ => exact hn.elim
   | goto _ => exact hn.elim
   | ret => exact hn.elim
   | panic _ => exact hn.elim
   | outgrown => exact hn.elim
   obtain ⟨hkf, Im, him, hown, hn⟩ := hn
   have hl' : W1'.heap[L]? = some (.loop (rec_ .ready none)) := hkf.same _ _ (by omega) hl rfl
   have hk' : W1'.heap[w.heap.size]? = some (.deferred (some [])) := hkf.same _ _ (Nat.le_refl _) hk rfl
   have hLt' : L < W1'.heap.size := (Array.getElem?_eq_some_iff.1 hl').1
   let W2 := W1'.putObj L (.loop { rec_ .ready none with state := .busy })
   have hl2 : W2.heap[L]? = some (.loop { rec_ .ready none with state := .busy }) := World.putObj_heap_same hLt'
   have hk2 : W2.heap[w.heap.size]? = some (.deferred (some [])) := (World.putObj_heap_other (by omega)).trans hk'
   refine ⟨_, run_beginRound hl' rfl, wpIn_mono (hn W2 (hown.putObj (s := ()) _ him (by omega) hl' rfl)) ?_⟩
   have fin : ∀ (jump : Option Code) (W3 : World), KeepsFrom w.heap.size W2 W3 →
      (Instr.endRound L jump).run P W3 = .ok (.bool jump.isNone) (W3.putObj L (.loop (rec_ (if jump.isNone then .ready else .done) jump))) ∧
      W3.heap[L]? = some (.loop { rec_ .ready none with state := .busy }) ∧
      (W3.putObj L (.loop (rec_ (if jump.isNone then .ready else .done) jump))).heap[L]? = some (.loop (rec_ (if jump.isNone then .ready else .done) jump)) ∧
      (W3.putObj L (.loop (rec_ (if jump.isNone then .ready else .done) jump))).heap[w.heap.size]? = some (.deferred (some [])) := fun jump W3 hk3 => by
     have hl3 := hk3.same _ _ (by omega) hl2 rfl
     exact ⟨run_endRound (P := P) jump hl3, hl3, World.putObj_heap_same (Array.getElem?_eq_some_iff.1 hl3).1, (World.putObj_heap_other (by omega)).trans (hk3.same _ _ (Nat.le_refl _) hk2 rfl)⟩
   rintro e a3 W3 hp
   cases e with
   | normal =>
     obtain ⟨hr, hl3, hl4, hk4⟩ := fin none W3 hp.1
     exact ⟨_, _, hr, .inl ⟨rfl, hI.putObj _ hp.2 (by omega) hl3 rfl, hl4, hk4⟩⟩
   | ret =>
     obtain ⟨hr, hl3, hl4, hk4⟩ := fin (some .ret) W3 hp.1
     exact ⟨_, _, hr, .inr ⟨rfl, .ret, hIx.putObj _ hp.2 (by omega) hl3 rfl, hl4, hk4⟩⟩
   | exit id =>
     obtain ⟨hr, hl3, hl4, hk4⟩ := fin (some (.exit id)) W3 hp.1
     exact ⟨_, _, hr, .inr ⟨rfl, .exit id, hIx.putObj _ hp.2 (by omega) hl3 rfl, hl4, hk4⟩⟩
   | goto t =>
     obtain ⟨hr, hl3, hl4, hk4⟩ := fin (some (.goto t)) W3 hp.1
     exact ⟨_, _, hr, .inr ⟨rfl, .goto t, hIx.putObj _ hp.2 (by omega) hl3 rfl, hl4, hk4⟩⟩
   | panic ch => exact hp.elim
   | outgrown => exact hp.elim
 · -- behind the iterator
   rintro e W2 ⟨⟨v, rfl⟩, (⟨hi, hl, hk⟩ | ⟨c, hi, hl, hk⟩)⟩
   · exact ⟨none, _, run_endLoop (P := P) hl (by simp [rec_]), hdone _ _ (Nat.le_refl _) (hI.putObj _ hi (by omega) hl rfl) ((World.putObj_heap_other (by omega)).trans hk)⟩
   · exact ⟨some c, _, run_endLoop (P := P) hl (by simp [rec_]), hstop _ c _ (Nat.le_refl _) (hIx.putObj _ hi (by omega) hl rfl) ((World.putObj_heap_other (by omega)).trans hk)⟩
end
section
open Go Go.Proofs Go.RowKit Go.Shelf Nu
def Row32 (W : World) (v : Value) : Prop := ∀ g, v.ownBlock = some g → ∃ cur e, W.heap[g]? = some (.cells cur e (0, 0)) ∧ ∀ u ∈ cur.toList, no32 u = true
theorem Row32.nil (W : World) : Row32 W (.slice none 0 0) := fun g h => by cases h
theorem Row32.kept {W W' : World} {v : Value} {row : Option Nat} (h : Row32 W v) (hg : W.grownBy W' row) (hne : v.ownBlock = none ∨ v.ownBlock ≠ row) : Row32 W' v := by
  intro g e
  obtain ⟨cur, t, h1, h2⟩ := h g e
  refine ⟨cur, t, ?_, h2⟩
  rw [hg.block g (Array.getElem?_eq_some_iff.1 h1).1 (by rcases hne with h | h; · rw [h] at e; cases e
                                                         · rwa [e] at h)]
  exact h1
theorem Row32.below {W W' : World} {v : Value} (h : Row32 W v) (hb : Below W.heap.size W W') : Row32 W' v := by
 intro g e
 obtain ⟨cur, t, h1, h2⟩ := h g e
 exact ⟨cur, t, (hb.block g (Array.getElem?_eq_some_iff.1 h1).1).trans h1, h2⟩
theorem Reads.ne32 {W : World} {v v0 : Value} {l : List Nat} {b off n cap : Nat} (h : Reads W v l) (e : v = .slice (some ⟨b, off, none⟩) n cap) (hl : l ≠ []) (h32 : Row32 W v0) : v0.ownBlock ≠ some b := by
 subst e
 intro hb
 obtain ⟨cur, t, h1, h2⟩ := h32 b hb
 rcases h with ⟨e, _⟩ | ⟨b', off', cap', e, _, _, hc⟩ | ⟨_, _, e⟩
 rotate_right
 · exact absurd e hl
 · cases e
 · cases e
   have := hc 0 (List.length_pos_iff.2 hl)
   unfold World.cell? at this
   rw [h1] at this
   have h3 : cur[off + 0]? = some (.int .u32 (l.getD 0 0 : Nat)) := by simpa using this
   have h4 := h2 _ (List.mem_of_getElem? (l := cur.toList) (by simpa using h3))
   simp [no32] at h4
theorem Reads.grown32 {W W' : World} {v v0 : Value} {l : List Nat} (h : Reads W v l) (hg : W.grownBy W' v0.ownBlock) (h32 : Row32 W v0) : Reads W' v l := by
 have h0 := h
 rcases h with h | ⟨b, off, cap, rfl, hb, hc, hl⟩ | h
 rotate_right
 · exact .inr (.inr h)
 · exact .inl h
 · refine .inr (.inl ⟨b, off, cap, rfl, Nat.lt_of_lt_of_le hb hg.size, hc, fun j hj => ?_⟩)
   have hne := h0.ne32 rfl (by rintro rfl; simp at hj) h32
   exact (World.cell?_of_block (hg.block b hb (fun e => hne e.symm))).trans (hl j hj)
theorem ZIn.grown {W W' : World} {v0 : Value} {z : Zr} (h : ZIn W z) (hg : W.grownBy W' v0.ownBlock) (h32 : Row32 W v0) : ZIn W' z := ⟨h.1.grown32 hg h32, h.2.grown32 hg h32⟩
def RRow (W : World) (base : Nat) (v : Value) (zs : List Zr) : Prop := W.ownsRow base 30 3 v zs.length (zcells zs) ∧ Row32 W v
def VF (W : World) (base : Nat) (v : Value) (zs : List Zr) : Prop := RRow W base v zs ∧ ∀ z ∈ zs, ZIn W z
theorem VF.nil (W : World) (base : Nat) : VF W base (.slice none 0 0) [] := ⟨⟨World.ownsRow_nil W base _ 3, Row32.nil W⟩, by simp⟩
theorem VF.fresh {W : World} {base : Nat} {v : Value} {zs : List Zr} (h : VF W base v zs) : VFresh W base v (zs.map (·.1)) := ⟨zs, rfl, h.1.1, h.2⟩
theorem VF.below {W W' : World} {base : Nat} {v : Value} {zs : List Zr} (h : VF W base v zs) (hb : Below W.heap.size W W') : VF W' base v zs :=
 ⟨⟨own_below h.1.1 hb, h.1.2.below hb⟩, fun z hz => (h.2 z hz).below hb⟩
theorem VF.alloc {W : World} {base : Nat} {v : Value} {zs : List Zr} (h : VF W base v zs) (o : Obj) : VF (W.alloc o) base v zs := h.below ((Below.refl _ _).alloc (Nat.le_refl _) o)
theorem VF.lt {W : World} {base g : Nat} {v : Value} {zs : List Zr} (h : VF W base v zs) (hg : v.ownBlock = some g) : base ≤ g ∧ g < W.heap.size := h.1.1.lt g hg
theorem VF.kept {W W' : World} {base : Nat} {v v0 : Value} {zs : List Zr} {row : Option Nat} (h : VF W base v zs) (hg : W.grownBy W' row) (hne : v.ownBlock = none ∨ v.ownBlock ≠ row) (e : row = v0.ownBlock) (h32 : Row32 W v0) : VF W' base v zs :=
 ⟨⟨World.ownsRow.kept h.1.1 hg hne, h.1.2.kept hg hne⟩, fun z hz => (h.2 z hz).grown (v0 := v0) (e ▸ hg) h32⟩
theorem VF.off {W W' : World} {base M : Nat} {v : Value} {zs : List Zr} {row : Option Nat} (h : VF W base v zs) (hg : W.grownBy W' row) (hr : OffCells M row W) : VF W' base v zs := by
 have hne : v.ownBlock = none ∨ v.ownBlock ≠ row := by
  rcases h.1.1.2 with ⟨rfl, _⟩ | ⟨g, cap, cur, rfl, _, hgb, _⟩
  · exact .inl rfl
  · refine .inr fun e' => ?_
    obtain ⟨_, o, ho, hc⟩ := hr g (by simpa [Value.ownBlock] using e'.symm)
    rw [hgb] at ho; cases ho; cases hc
 refine ⟨⟨World.ownsRow.kept h.1.1 hg hne, h.1.2.kept hg hne⟩, fun z hz => ?_⟩
 have key : ∀ {x : Value} {l : List Nat}, Reads W x l → Reads W' x l := by
  intro x l hx
  have h0 := hx
  rcases hx with hx | ⟨b, off, cap, rfl, hb, hc, hl⟩ | hx
  rotate_right
  · exact .inr (.inr hx)
  · exact .inl hx
  · refine .inr (.inl ⟨b, off, cap, rfl, Nat.lt_of_lt_of_le hb hg.size, hc, fun j hj => ?_⟩)
    have hne : some b ≠ row := by
     intro e
     obtain ⟨_, o, ho, hcc⟩ := hr b e.symm
     have := hl j hj
     unfold World.cell? at this
     rw [ho] at this
     cases o <;> simp at this
     cases hcc
    exact (World.cell?_of_block (hg.block b hb hne)).trans (hl j hj)
 exact ⟨key (h.2 z hz).1, key (h.2 z hz).2⟩
theorem VF.form {W : World} {base : Nat} {v : Value} {zs : List Zr} (h : VF W base v zs) : ∃ a cap, v = .slice a zs.length cap := by
 rcases h.1.1.2 with ⟨rfl, h0⟩ | ⟨g, cap, cur, rfl, _⟩
 · exact ⟨none, 0, by rw [h0]⟩
 · exact ⟨_, cap, rfl⟩
def zrat : Array Value := #[.bool false, .slice none 0 0, .slice none 0 0]
theorem zrat_no (i : Nat) : no32 zrat[i % zrat.size]! = true := by
 have h : i % 3 = 0 ∨ i % 3 = 1 ∨ i % 3 = 2 := by omega
 show no32 zrat[i % 3]! = true
 rcases h with h | h | h <;> rw [h] <;> rfl
theorem zcell_no (z : Zr) : ∀ u ∈ zcell z, no32 u = true := by
 intro u hu
 simp only [zcell, List.mem_cons, List.not_mem_nil, or_false] at hu
 rcases hu with rfl | rfl | rfl <;> rfl
theorem zcells_no (zs : List Zr) : ∀ u ∈ zcells zs, no32 u = true := by
 intro u hu
 obtain ⟨z, _, h⟩ := List.mem_flatMap.1 hu
 exact zcell_no z u h
section
variable {i : TypeInfo} (hi : Tryz.prog.info? 30 = some i) (hz : i.zero = some (.agg zrat)) (h1 : i.size = 3) (h2 : i.bytes = 56)
include hi hz h1 h2
theorem run_make_rat (w : World) (base : Nat) (kl kc : IntKind) (c : Nat) (hc : c ≤ 100000) (hb : base ≤ w.heap.size) :
  ∃ w', (Instr.makeSlice 22 (.int kl 0) (.int kc (c : Int))).run Tryz.prog w = .ok (.slice (some ⟨w.heap.size, 0, none⟩) 0 c) w' ∧ VF w' base (.slice (some ⟨w.heap.size, 0, none⟩) 0 c) [] ∧ w.grownBy w' none := by
 have hr := run_make (P := Tryz.prog) w 22 30 i (.agg zrat) Tryz.underlying22 hi hz kl kc 0 c (Int.le_refl _) (by omega) (by rw [h2]; omega) (by omega)
 simp only [Int.toNat_zero, Int.toNat_natCast] at hr
 refine ⟨_, hr, ⟨⟨World.ownsRow_made w _ c hb (by unfold maxLen; omega) (by rw [size_madeCells, h1]), ?_⟩, by simp⟩, World.grownBy_alloc w _ none⟩
 intro g e
 obtain rfl : w.heap.size = g := by simpa [Value.ownBlock] using e
 refine ⟨_, _, heap_alloc_new w _, fun u hu => ?_⟩
 obtain ⟨j, _, rfl⟩ : ∃ j, j < c * i.size ∧ (Value.agg zrat).cells[j % (Value.agg zrat).cells.size]! = u := by simpa [madeCells] using hu
 exact zrat_no j
theorem run_append_rat (w0 : World) (ty : TypeId) (base : Nat) (v : Value) (zs : List Zr) (z : Zr) (hown : VF w0 base v zs) (hin : ZIn w0 z) (hb : base ≤ w0.heap.size) (hl : zs.length ≤ 100000) :
   ∃ v' w', (Builtin.append_ #[22, 22] ty #[v, .slice (some ⟨w0.heap.size, 0, none⟩) 1 1]).run Tryz.prog (w0.alloc (.cells (zcell z).toArray 30)) = .ok v' w' ∧ VF w' base v' (zs ++ [z]) ∧ (w0.alloc (.cells (zcell z).toArray 30)).grownBy w' v.ownBlock := by
 obtain ⟨w, hw⟩ : ∃ w, w = w0.alloc (.cells (zcell z).toArray 30) := ⟨_, rfl⟩
 have hV : VF w base v zs := hw ▸ hown.alloc _
 have hZ : ZIn w z := hw ▸ hin.below ((Below.refl _ _).alloc (Nat.le_refl _) _)
 have hsz : w.heap.size = w0.heap.size + 1 := by rw [hw, World.size_alloc]
 have hblk : w.heap[w0.heap.size]? = some (.cells (zcell z).toArray 30 (0, 0)) := by rw [hw]; exact heap_alloc_new w0 _
 have hnews : ∀ j u, (zcell z)[j]? = some u → w.cell? ((⟨w0.heap.size, 0, none⟩ : Addr).add j) = some u := by
   intro j u hu
   rw [show (⟨w0.heap.size, 0, none⟩ : Addr).add j = ⟨w0.heap.size, j, none⟩ by rw [Addr.add_lit]; simp]
   unfold World.cell?
   rw [hblk]
   simpa using hu
 rw [← hw]
 have hone : ∀ u ∈ zcell z, u.oneCell' = true := by
   intro u hu
   simp only [zcell, List.mem_cons, List.not_mem_nil, or_false] at hu
   rcases hu with rfl | rfl | rfl <;> rfl
 have hcl : (zcell z).length = 1 * i.size := by rw [h1]; rfl
 obtain ⟨v', w', hrun, ho, hg, hnil⟩ := run_append_own (P := Tryz.prog) w base 22 ty 30 i (.agg zrat) 3 56 Tryz.underlying22 hi hz h1 h2 rfl (by omega) v zs.length (zcells zs) hV.1.1 ⟨w0.heap.size, 0, none⟩ 1 1 (zcell z) rfl hnews hone (by unfold maxLen; omega) (by omega) (by omega)
 refine ⟨v', w', hrun, ⟨⟨?_, ?_⟩, fun y hy => ?_⟩, hg⟩
 · rw [List.length_append, zcells_snoc]; exact ho
 · rcases hV.1.1.2 with ⟨rfl, hn0⟩ | ⟨g, cap, cur, rfl, hbg, hgb, hnc, hcm, hcs, htake⟩
   · have hr := run_append_nil (P := Tryz.prog) w 22 ty 30 i (.agg zrat) Tryz.underlying22 hi hz ⟨w0.heap.size, 0, none⟩ 1 1 (zcell z) hcl hnews (by omega) (by omega) (by rw [h2]; omega)
     rw [hr] at hrun
     cases hrun
     intro g e
     obtain rfl : w.heap.size = g := by simpa [Value.ownBlock] using e
     refine ⟨_, _, heap_alloc_new w.drew _, fun u hu => ?_⟩
     simp only [Array.toList_append, List.mem_append] at hu
     rcases hu with hu | hu
     · exact zcell_no z u hu
     · obtain ⟨j, _, rfl⟩ : ∃ j, j < (grownCap w 1 0 30 - 1) * (Value.agg zrat).cells.size ∧ (Value.agg zrat).cells[j % (Value.agg zrat).cells.size]! = u := by simpa [Builtin.zeroCells] using hu
       exact zrat_no j
   · obtain ⟨cur', e', hgb', h32⟩ := hV.1.2 g rfl
     rw [hgb] at hgb'
     cases hgb'
     by_cases hroom : zs.length + 1 ≤ cap
     · have hr := run_append_room (P := Tryz.prog) w 22 ty 30 i Tryz.underlying22 hi g zs.length cap cur hgb ⟨w0.heap.size, 0, none⟩ 1 1 (zcell z) hcl hnews hone hroom (by rw [hcl, h1, hcs, ← Nat.add_mul]; exact Nat.mul_le_mul_right _ hroom)
       rw [hr] at hrun
       cases hrun
       intro g2 e
       obtain rfl : g = g2 := by simpa [Value.ownBlock] using e
       refine ⟨_, _, setRow_heap w g cur _ _ _ hgb, fun u hu => ?_⟩
       simp only [List.mem_append] at hu
       rcases hu with (hu | hu) | hu
       · exact h32 u (List.mem_of_mem_take hu)
       · exact zcell_no z u hu
       · exact h32 u (List.mem_of_mem_drop hu)
     · have holds : ∀ j u, (zcells zs)[j]? = some u → w.cell? ((⟨g, 0, none⟩ : Addr).add j) = some u := hV.1.1.cells (g := g) rfl
       have hr := run_append_grow (P := Tryz.prog) w 22 ty 30 i (.agg zrat) Tryz.underlying22 hi hz ⟨g, 0, none⟩ zs.length cap (zcells zs) (by rw [h1]; exact zcells_len zs) holds ⟨w0.heap.size, 0, none⟩ 1 1 (zcell z) hcl hnews (by omega) (by omega) (growslice_fits (by omega) (by rw [h2]; omega))
       rw [hr] at hrun
       cases hrun
       intro g2 e
       obtain rfl : w.heap.size = g2 := by simpa [Value.ownBlock] using e
       refine ⟨_, _, heap_alloc_new w.drew _, fun u hu => ?_⟩
       simp only [Array.toList_append, List.mem_append] at hu
       rcases hu with (hu | hu) | hu
       · exact zcells_no zs u hu
       · exact zcell_no z u hu
       · obtain ⟨j, _, rfl⟩ : ∃ j, j < (grownCap w (zs.length + 1) cap 30 - (zs.length + 1)) * (Value.agg zrat).cells.size ∧ (Value.agg zrat).cells[j % (Value.agg zrat).cells.size]! = u := by simpa [Builtin.zeroCells] using hu
         exact zrat_no j
 · rcases List.mem_append.1 hy with hy | hy
   · exact (hV.2 y hy).grown hg hV.1.2
   · obtain rfl : y = z := by simpa using hy
     exact hZ.grown hg hV.1.2
end
theorem rat_append {W w3 : World} {base : Nat} {v : Value} {zs : List Zr} {tmp : Obj} (hrow : VF W base v zs) (hb : base ≤ W.heap.size) (hgrow : (W.alloc tmp).grownBy w3 v.ownBlock) :
   KeepsOthers W w3 ∧ Below base W w3 ∧ (∀ B t u, t ≠ 30 → Boxed W B t u → Boxed w3 B t u) ∧ (∀ (D : Nat) (o : Obj), W.heap[D]? = some o → o.isCells = false → w3.heap[D]? = some o) := by
 have hne : ∀ (D : Nat) (o : Obj), W.heap[D]? = some o → o.isCells = false → some D ≠ v.ownBlock := by
   intro D o hD ho
   rcases hrow.1.1.2 with ⟨rfl, _⟩ | ⟨g, cap, cur, rfl, _, hgb, _⟩
   · simp [Value.ownBlock]
   · intro e
     obtain rfl : D = g := by simpa [Value.ownBlock] using e
     rw [hgb] at hD; cases hD; cases ho
 have hD : ∀ (D : Nat) (o : Obj), W.heap[D]? = some o → o.isCells = false → w3.heap[D]? = some o := fun D o hD ho => by
   have hlt := (Array.getElem?_eq_some_iff.1 hD).1
   have h1 : (W.alloc tmp).heap[D]? = some o := (Below.heap_alloc W tmp D hlt).trans hD
   exact (hgrow.block D (by simp; omega) (hne D o hD ho)).trans h1
 refine ⟨⟨by have := hgrow.size; simp at this; omega, hD⟩, ?_, ?_, hD⟩
 · refine ((Below.refl base W).alloc hb tmp).grown hgrow (by simp; omega) fun j ej => ?_
   exact (hrow.lt ej).1
 · intro B t u ht hB
   exact (hB.alloc tmp).kept hgrow (hB.not_row ht hrow.1.1)
/-! ### the walk's laws -/
theorem wpList_make_rat {i : TypeInfo} (hi : Tryz.prog.info? 30 = some i) (hz : i.zero = some (.agg zrat)) (h1 : i.size = 3) (h2 : i.bytes = 56) (w : World) {ops : Array Oper} {rest : List Oper} {o : Oper} {a : Act} {Q : Exit → Act → World → Prop}
  (hg : o.guard = none) (l c : Operand) (hop : o.op = Op.makeSlice 22 l c) (base : Nat) (kl kc : IntKind) (n : Nat) (hl : a.eval l = .int kl 0) (hc : a.eval c = .int kc (n : Int)) (hn : n ≤ 100000) (hb : base ≤ w.heap.size)
  (hK : ∀ w', VF w' base (.slice (some ⟨w.heap.size, 0, none⟩) 0 n) [] → w.grownBy w' none → wpList Tryz.prog ops Q rest (a.put o.dst (.slice (some ⟨w.heap.size, 0, none⟩) 0 n)) w') :
  wpList Tryz.prog ops Q (o :: rest) a w := by
 refine wpList_plain hg fun K hK' => ?_
 obtain ⟨w', hrun, r1, r2⟩ := run_make_rat hi hz h1 h2 w base kl kc n hn hb
 unfold Oper.wp
 simp [execOp, hop, hl, hc, hrun, Result.andThen]
 exact hK' _ _ (hK w' r1 r2)
theorem wpList_append_rat {i : TypeInfo} (hi : Tryz.prog.info? 30 = some i) (hz : i.zero = some (.agg zrat)) (h1 : i.size = 3) (h2 : i.bytes = 56) (w0 : World) {ops : Array Oper} {rest : List Oper} {o : Oper} {a : Act} {Q : Exit → Act → World → Prop}
  (hg : o.guard = none) (s x : Operand) (hop : o.op = Op.call { callee := Callee.builtin Builtin.append, args := #[s, x], argTypes := #[22, 22] })
  (base : Nat) (v : Value) (zs : List Zr) (z : Zr) (hs : a.eval s = v) (hx : a.eval x = .slice (some ⟨w0.heap.size, 0, none⟩) 1 1) (hown : VF w0 base v zs) (hin : ZIn w0 z) (hb : base ≤ w0.heap.size) (hl : zs.length ≤ 100000)
  (hK : ∀ v' w', VF w' base v' (zs ++ [z]) → (w0.alloc (.cells (zcell z).toArray 30)).grownBy w' v.ownBlock → wpList Tryz.prog ops Q rest (a.put o.dst v') w') :
  wpList Tryz.prog ops Q (o :: rest) a (w0.alloc (.cells (zcell z).toArray 30)) := by
 refine wpList_plain hg fun K hK' => ?_
 obtain ⟨v', w', hrun, r1, r2⟩ := run_append_rat hi hz h1 h2 w0 o.type base v zs z hown hin hb hl
 unfold Oper.wp
 simp only [execOp, hop, resolve, invoke, builtin, Sem.run_bind, Sem.run_pure, Result.andThen_ok, List.map_toArray, List.map_cons, List.map_nil, hs, hx, hrun]
 exact hK' _ _ (hK v' w' r1 r2)
theorem wp_append_rat {i : TypeInfo} (hi : Tryz.prog.info? 30 = some i) (hz : i.zero = some (.agg zrat)) (h1 : i.size = 3) (h2 : i.bytes = 56) (w0 : World) {o : Oper} {a : Act} {K : Act → World → Prop} {Q : Exit → Act → World → Prop}
  (s x : Operand) (hop : o.op = Op.call { callee := Callee.builtin Builtin.append, args := #[s, x], argTypes := #[22, 22] })
  (base : Nat) (v : Value) (zs : List Zr) (z : Zr) (hs : a.eval s = v) (hx : a.eval x = .slice (some ⟨w0.heap.size, 0, none⟩) 1 1) (hown : VF w0 base v zs) (hin : ZIn w0 z) (hb : base ≤ w0.heap.size) (hl : zs.length ≤ 100000)
  (hK : ∀ v' w', VF w' base v' (zs ++ [z]) → (w0.alloc (.cells (zcell z).toArray 30)).grownBy w' v.ownBlock → K (a.put o.dst v') w') :
  o.wp Tryz.prog a (w0.alloc (.cells (zcell z).toArray 30)) K Q := by
 obtain ⟨v', w', hrun, r1, r2⟩ := run_append_rat hi hz h1 h2 w0 o.type base v zs z hown hin hb hl
 unfold Oper.wp
 simp only [execOp, hop, resolve, invoke, builtin, Sem.run_bind, Sem.run_pure, Result.andThen_ok, List.map_toArray, List.map_cons, List.map_nil, hs, hx, hrun]
 exact hK v' w' r1 r2
theorem boxed_under {W W' : World} {B : Nat} {t : TypeId} {v : Value} (h : Boxed W B t v) (r : Below W.heap.size W W') : Boxed W' B t v := (r.block B (Array.getElem?_eq_some_iff.1 (show W.heap[B]? = _ from h)).1).trans h
theorem BoxN.under {W W' : World} {B : Nat} {t : TypeId} {cs : Array Value} (h : BoxN W B t cs) (r : Below W.heap.size W W') : BoxN W' B t cs := (r.block B h.lt).trans h
end
section
open Go Go.Proofs Go.RowKit Go.Shelf Nu
attribute [local go_sem] Oper.semAt_some
theorem keepBoxN {W W' : World} {M : Nat} {row : Option Nat} {B : Nat} {t : TypeId} {cs : Array Value} (h : BoxN W B t cs) (hg : W.grownBy W' row) (hr : OffCells M row W) : BoxN W' B t cs := by
 refine (hg.block B h.lt fun e => ?_).trans h
 obtain ⟨_, o, ho, hc⟩ := hr B e.symm
 rw [show W.heap[B]? = _ from h] at ho; cases ho; cases hc
def JInv (w : World) (F0 v1 v2 : Value) (s : Nat) (zs : List Rat) (k : Nat) (W : World) : Prop :=
  (∃ (v : Value) (ys : List Zr), ys.map (·.1) = (zs.take k).map qr ∧ Boxed W s 22 v ∧ VF W w.heap.size v ys) ∧
  Boxed W w.heap.size 74 F0 ∧ Boxed W (s + 1) 22 v1 ∧ Boxed W (s + 1 + 1) 22 v2 ∧ Below w.heap.size w W
theorem JInv.own {w : World} {F0 v1 v2 : Value} {s : Nat} {zs : List Rat} {M : Nat} (hM : w.heap.size ≤ M) : OwnFrom M (JInv w F0 v1 v2 s zs) := by
 rintro k W W' row ⟨⟨v, ys, h0, h1, h2⟩, h3, h4, h5, h6⟩ hg hr
 exact ⟨⟨v, ys, h0, keepBox h1 hg hr, h2.off hg hr⟩, keepBox h3 hg hr, keepBox h4 hg hr, keepBox h5 hg hr, keepBelow h6 (Nat.le_refl _) hM hg hr⟩
def JMid (w : World) (v : Value) (ys : List Zr) (F0 v1 v2 : Value) (s B1 B2 : Nat) (c1 c2 : Array Value) (_ : Unit) (W : World) : Prop :=
 Boxed W s 22 v ∧ VF W w.heap.size v ys ∧ Boxed W w.heap.size 74 F0 ∧ Boxed W (s + 1) 22 v1 ∧ Boxed W (s + 1 + 1) 22 v2 ∧ Below w.heap.size w W ∧ BoxN W B1 30 c1 ∧ BoxN W B2 30 c2
theorem JMid.own {w : World} {v : Value} {ys : List Zr} {F0 v1 v2 : Value} {s B1 B2 : Nat} {c1 c2 : Array Value} {M : Nat} (hM : w.heap.size ≤ M) : OwnFrom M (JMid w v ys F0 v1 v2 s B1 B2 c1 c2) := by
 rintro u W W' row ⟨h1, h2, h3, h4, h5, h6, h7, h8⟩ hg hr
 exact ⟨keepBox h1 hg hr, h2.off hg hr, keepBox h3 hg hr, keepBox h4 hg hr, keepBox h5 hg hr, keepBelow h6 (Nat.le_refl _) hM hg hr, keepBoxN h7 hg hr, keepBoxN h8 hg hr⟩
theorem keeps_below {W W' : World} (r : Below W.heap.size W W') : KeepsOthers W W' := ⟨r.size, fun k _ hk _ => (r.block k (Array.getElem?_eq_some_iff.1 hk).1).trans hk⟩
theorem grown_off {W W' : World} {B : Nat} {t : TypeId} {cs : Array Value} {row : Option Nat} (h : BoxN W B t cs) (hg : W.grownBy W' row) (hne : row = some B → False) : BoxN W' B t cs := (hg.block B h.lt fun e => hne e.symm).trans h
theorem VF.box {W : World} {base B : Nat} {v : Value} {zs : List Zr} {t : TypeId} {u : Value} (h : VF W base v zs) (hB : Boxed W B t u) (ht : t ≠ 30) (hu : no32 u = true) (x : Value) : VF (W.setCell ⟨B, 0, none⟩ x) base v zs := by
 have hne : v.ownBlock = none ∨ v.ownBlock ≠ some B := .inr (hB.not_row ht h.1.1).symm
 refine ⟨⟨World.ownsRow.kept h.1.1 (grownBy_setCell' W B x) hne, h.1.2.kept (grownBy_setCell' W B x) hne⟩, fun z hz => ?_⟩
 have hb : BoxN W B t ([u] : List Value).toArray := hB
 exact ⟨(h.2 z hz).1.put hb (by simp [hu]) 0 x, (h.2 z hz).2.put hb (by simp [hu]) 0 x⟩
theorem take_qr {zs : List Rat} {ys : List Zr} {k : Nat} {z : Zr} (hk : k < zs.length) (h : ys.map (·.1) = (zs.take k).map qr) (hz : z.1 = qr (zs.getD k 0)) : (ys ++ [z]).map (·.1) = (zs.take (k + 1)).map qr := by
 have e : zs.take (k + 1) = zs.take k ++ [zs.getD k 0] := by
  rw [List.take_add_one, List.getD_eq_getElem?_getD, List.getElem?_eq_getElem hk]; rfl
 rw [e, List.map_append, List.map_append, h, List.map_singleton, List.map_singleton, hz]
theorem qr_at {xs : List Rat} {j : Nat} (h : j < xs.length) : (xs.map qr).getD j default = qr (xs.getD j 0) := by
 rw [List.getD_eq_getElem?_getD, List.getElem?_map, List.getD_eq_getElem?_getD, List.getElem?_eq_getElem h]; rfl
theorem axpy_at {t : Rat} {xs ys : List Rat} {j : Nat} (h1 : j < xs.length) (h2 : j < ys.length) : (axpy t xs ys).getD j 0 = xs.getD j 0 + ys.getD j 0 * t := by
 simp [axpy, List.getD_eq_getElem?_getD, List.getElem?_zipWith, List.getElem?_eq_getElem h1, List.getElem?_eq_getElem h2]
theorem at_mem {xs : List Rat} {j : Nat} (h : j < xs.length) : xs.getD j 0 ∈ xs := by
 rw [List.getD_eq_getElem?_getD, List.getElem?_eq_getElem h]; exact List.getElem_mem h
theorem fit_each {xs : List Rat} (h : ∀ x ∈ xs, wt x ≤ 9999) : ∀ q ∈ xs.map qr, Fit q := by
 intro q hq; obtain ⟨x, hx, rfl⟩ := List.mem_map.1 hq; exact fit_qr (h x hx)
theorem v_add_no {w : World} {a1 a2 : Option Addr} {n1 n2 c1 c2 : Nat} {q1 q2 : List Qr} {b : Bool} {pb ob : Option Addr} {lb qb mb rb : Nat} (hR : (decide (n1 = n2) && (q1.all qok && q2.all qok)) = false) (h1 : VReads w (.slice a1 n1 c1) q1) (h2 : VReads w (.slice a2 n2 c2) q2) (f1 : qrows q1) (f2 : qrows q2) :
  Calls Tryz.prog 22 #[.slice a1 n1 c1, .slice a2 n2 c2, .agg #[.bool b, .slice pb lb qb, .slice ob mb rb]] w fun e w' => e = .returned (.tuple #[.slice none 0 0, .int .i64 1]) ∧ Below w.heap.size w w' := by
 have al : Below w.heap.size w (w.alloc (.cells #[.bool b, .slice pb lb qb, .slice ob mb rb] 30)) := (Below.refl _ _).alloc (Nat.le_refl _) _
 have k1 := v_match false hR.symm (h1.below al) (h2.below al) f1 f2
 clear h1 h2 hR f1 f2
 go_enter Tryz.func22, Tryz.ntmps22
 go_wp2_with fail
 refine k1.mono ?_
 rintro e w1 ⟨rfl, rr⟩
 have HB := Lib.hid (then_below al rr)
 clear k1 al rr
 go_wp2_with fail
 go_ret2
 exact ⟨rfl, HB.out⟩
theorem v_add_bad {w : World} {a1 a2 : Option Addr} {n c1 c2 : Nat} {xs ys : List Rat} {b : Bool} {l d : List Nat} {pb ob : Option Addr} {qb rb : Nat} (h1 : VReads w (.slice a1 n c1) (xs.map qr)) (h2 : VReads w (.slice a2 n c2) (ys.map qr)) (g5 : Reads w (.slice pb l.length qb) l) (g6 : Reads w (.slice ob d.length rb) d) (hf : Fit (b, l, d)) (hk : rchk b l d = false) (hw : wts xs + wts ys ≤ 8900) :
  Calls Tryz.prog 22 #[.slice a1 n c1, .slice a2 n c2, .agg #[.bool b, .slice pb l.length qb, .slice ob d.length rb]] w fun e w' => e = .returned (.tuple #[.slice none 0 0, .int .i64 1]) ∧ Below w.heap.size w w' := by
 have al : Below w.heap.size w (w.alloc (.cells #[.bool b, .slice pb l.length qb, .slice ob d.length rb] 30)) := (Below.refl _ _).alloc (Nat.le_refl _) _
 have M : Mem w [(w.heap.size, 30, [.bool b, .slice pb l.length qb, .slice ob d.length rb])] [(.slice ob d.length rb, d), (.slice pb l.length qb, l)] (w.alloc (.cells #[.bool b, .slice pb l.length qb, .slice ob d.length rb] 30)) := (((Mem.start w).add g5).add g6).new _ _
 have hx : xs.length = n := by have := h1.addr.1; simpa using this.symm
 have hy : ys.length = n := by have := h2.addr.1; simpa using this.symm
 have l1 := wts_len xs
 have l2 := wts_len ys
 have fx := fit_qrs (xs := xs) (by omega)
 have fy := fit_qrs (xs := ys) (by omega)
 have k1 := v_match true (by rw [all_qok_qr, all_qok_qr]; simp) (h1.below al) (h2.below al) ⟨fx, by simp; omega⟩ ⟨fy, by simp; omega⟩
 have kc := fun (W : World) (g5 : Reads W (.slice pb l.length qb) l) (g6 : Reads W (.slice ob d.length rb) d) => rcheck_any (n := b) g5 g6 hf.1.1 hf.1.2 (by have := hf.2.1; dsimp only at this; omega) (by have := hf.2.2; dsimp only at this; omega)
 rw [hk] at kc
 clear h1 h2 hw hx hy l1 l2 fx fy g5 g6 hf hk
 go_enter Tryz.func22, Tryz.ntmps22
 go_wp2_with fail
 refine k1.mono ?_
 rintro e w1 ⟨rfl, rr⟩
 have M' := M.up rr
 clear M rr k1
 have M := M'; clear M'
 have z0 := M.cell 0 rfl 0 rfl; have z1 := M.cell 0 rfl 1 rfl; have z2 := M.cell 0 rfl 2 rfl
 go_wp2_with fail
 refine (kc _ (M.get 1 rfl) (M.get 0 rfl)).mono ?_
 rintro e w2 ⟨rfl, rr⟩
 have HB := Lib.hid (then_below M.below rr)
 clear M rr kc z0 z1 z2
 go_wp2_with fail
 go_ret2
 exact ⟨rfl, HB.out⟩
theorem scl_at {t : Rat} {qs : List Qr} {j : Nat} (h : j < qs.length) : (scl t (qs.map qval)).getD j 0 = qval (qs.getD j default) * t := by
 simp [scl, List.getD_eq_getElem?_getD, List.getElem?_eq_getElem h]
def SMid (w : World) (v1 v2 : Value) (s : Nat) (B1 B2 : Nat) (c1 c2 : Array Value) (_ : Unit) (W : World) : Prop :=
 Boxed W w.heap.size 4 (.bool false) ∧ Boxed W s 22 v1 ∧ Boxed W (s + 1) 22 v2 ∧ Below w.heap.size w W ∧ BoxN W B1 30 c1 ∧ BoxN W B2 30 c2
theorem SMid.own {w : World} {v1 v2 : Value} {s B1 B2 : Nat} {c1 c2 : Array Value} {M : Nat} (hM : w.heap.size ≤ M) : OwnFrom M (SMid w v1 v2 s B1 B2 c1 c2) := by
 rintro u W W' row ⟨h1, h2, h3, h4, h5, h6⟩ hg hr
 exact ⟨keepBox h1 hg hr, keepBox h2 hg hr, keepBox h3 hg hr, keepBelow h4 (Nat.le_refl _) hM hg hr, keepBoxN h5 hg hr, keepBoxN h6 hg hr⟩
def rsz (l d : Nat) : Nat := if 2 + l ≤ 1048576 then 2 + l + d else 2 + l
def ssz : Nat → List Qr → Nat
 | n, [] => n
 | n, q :: t => if n ≤ 1048576 then ssz (n + rsz q.2.1.length q.2.2.length) t else n
theorem ssz_ge (n : Nat) (qs : List Qr) : n ≤ ssz n qs := by
 induction qs generalizing n with
 | nil => exact Nat.le_refl _
 | cons q t ih =>
  simp only [ssz]
  split
  · have := ih (n + rsz q.2.1.length q.2.2.length); omega
  · exact Nat.le_refl _
def psum : List Qr → Nat
 | [] => 0
 | q :: t => q.2.1.length + q.2.2.length + 2 + psum t
theorem ssz_small {n : Nat} {qs : List Qr} (h : ssz n qs ≤ 300) : n + psum qs ≤ 300 := by
 induction qs generalizing n with
 | nil => simpa [ssz, psum] using h
 | cons q t ih =>
  simp only [ssz] at h
  split at h
  · have h1 := ssz_ge (n + rsz q.2.1.length q.2.2.length) t
    have h2 := ih h
    have h3 : rsz q.2.1.length q.2.2.length = 2 + q.2.1.length + q.2.2.length := by
     unfold rsz; split
     · rfl
     · rename_i h4
       have h5 : rsz q.2.1.length q.2.2.length = 2 + q.2.1.length := if_neg h4
       rw [h5] at h1
       rw [h5] at h
       omega
    simp only [psum]
    omega
  · omega
def Big (q : Qr) : Prop := (Sm q.2.1 ∧ Sm q.2.2) ∧ q.2.1.length ≤ 70368744177664 ∧ q.2.2.length ≤ 70368744177664
theorem psum_mem {qs : List Qr} {q : Qr} (h : q ∈ qs) : q.2.1.length + q.2.2.length + 2 ≤ psum qs := by
 induction qs with
 | nil => cases h
 | cons y t ih =>
  simp only [psum]
  rcases List.mem_cons.1 h with rfl | h
  · omega
  · have := ih h; omega
theorem fit_of_small {qs : List Qr} {n : Nat} (hb : ∀ q ∈ qs, Big q) (h : ssz n qs ≤ 300) : ∀ q ∈ qs, Fit q := by
 intro q hq
 have h1 := ssz_small h
 have h2 := psum_mem hq
 exact ⟨(hb q hq).1, by omega, by omega⟩
theorem rl_qr (X : Rat) : (qr X).2.1.length + (qr X).2.2.length = rl X := rfl
theorem wts_psum (xs : List Rat) : wts xs ≤ psum (xs.map qr) := by
 induction xs with
 | nil => exact Nat.le_refl _
 | cons x t ih => have := wt_rl x; have := rl_qr x; show wt x + wts t ≤ (qr x).2.1.length + (qr x).2.2.length + 2 + psum (t.map qr); omega
theorem natSize_any (a : Option Addr) (n c : Nat) (w : World) : Calls Tryz.prog 173 #[.slice a n c] w fun e w' => e = .returned (.int .i64 (n : Int)) ∧ w' = w := by
 go_enter Tryz.func173, Tryz.ntmps173
 go_wp2
 go_ret
 exact ⟨rfl, rfl⟩
theorem intSize_any (b : Bool) (a : Option Addr) (n c : Nat) (w : World) (hn : n ≤ 70368744177664) : Calls Tryz.prog 172 #[.agg #[.bool b, .slice a n c]] w fun e w' => e = .returned (.int .i64 (1 + (n : Int))) ∧ Below w.heap.size w w' := by
 go_enter Tryz.func172, Tryz.ntmps172
 go_wp2_with (go_at_call 173; refine (natSize_any _ _ _ _).mono ?_; rintro e w1 ⟨rfl, rfl⟩)
 go_ret
 exact ⟨rfl, (Below.refl _ _).alloc (Nat.le_refl _) _⟩
theorem ratSize_any (b : Bool) (a a' : Option Addr) (n c m c' : Nat) (w : World) (hn : n ≤ 70368744177664) (hm : m ≤ 70368744177664) : Calls Tryz.prog 109 #[.agg #[.bool b, .slice a n c, .slice a' m c']] w fun e w' => e = .returned (.int .i64 (rsz n m : Nat)) ∧ Below w.heap.size w w' := by
 have hB : BoxN (w.alloc (.cells #[.bool b, .slice a n c, .slice a' m c'] 30)) w.heap.size 30 #[.bool b, .slice a n c, .slice a' m c'] := BoxN.new w _ _
 have al : Below w.heap.size w (w.alloc (.cells #[.bool b, .slice a n c, .slice a' m c'] 30)) := (Below.refl _ _).alloc (Nat.le_refl _) _
 obtain ⟨s, hs⟩ : ∃ s : Nat, s = 1 + n := ⟨_, rfl⟩
 have hs2 : (1 : Int) + (n : Int) = (s : Int) := by omega
 have k1 := intSize_any b a n c (w.alloc (.cells #[.bool b, .slice a n c, .slice a' m c'] 30)) hn
 rw [hs2] at k1
 have hs3 : s ≤ 70368744177665 := by omega
 obtain ⟨u, hu⟩ : ∃ u : Nat, u = 1 + s := ⟨_, rfl⟩
 have hu2 : (1 : Int) + (s : Int) = (u : Int) := by omega
 have hu3 : u ≤ 70368744177666 := by omega
 have HB := Lib.hid hB
 have HA := Lib.hid al
 by_cases h : u ≤ 1048576
 · have e0 : rsz n m = u + m := (if_pos (by omega)).trans (by omega)
   obtain ⟨r, hr⟩ : ∃ r : Nat, r = u + m := ⟨_, rfl⟩
   have hr2 : (u : Int) + (m : Int) = (r : Int) := by omega
   rw [e0, ← hr]
   have h2 : (u : Int) ≤ 1048576 := by omega
   clear e0 hB al hs hs2 hu hr h hn
   go_enter Tryz.func109, Tryz.ntmps109
   go_wp2_with fail
   refine k1.mono ?_
   rintro e w1 ⟨rfl, rr⟩
   have hx := HB.out.under rr
   have x2 := hx.cell 2 _ rfl
   have HL := Lib.hid (then_below HA.out rr)
   clear k1 rr hx HB HA
   go_wp2_with fail
   refine (natSize_any _ _ _ _).mono ?_
   rintro e w2 ⟨rfl, rfl⟩
   go_wp2_with fail
   go_ret
   exact ⟨rfl, HL.out⟩
 · have e0 : rsz n m = u := (if_neg (by omega)).trans (by omega)
   rw [e0]
   have h2 : ¬ (u : Int) ≤ 1048576 := by omega
   clear e0 hB al hs hs2 hu h hn
   go_enter Tryz.func109, Tryz.ntmps109
   go_wp2_with fail
   refine k1.mono ?_
   rintro e w1 ⟨rfl, rr⟩
   have HL := Lib.hid (then_below HA.out rr)
   clear k1 rr HB HA
   go_wp2_with fail
   go_ret
   exact ⟨rfl, HL.out⟩
theorem drop_cons {qs : List Qr} {k : Nat} (h : k < qs.length) : qs.drop k = qs.getD k default :: qs.drop (k + 1) := by
 rw [List.drop_eq_getElem_cons h]; congr 1
 rw [List.getD_eq_getElem?_getD, List.getElem?_eq_getElem h]; rfl
theorem ratsSize_any {w : World} {a : Option Addr} {n cap : Nat} {qs : List Qr} (h : VReads w (.slice a n cap) qs) (hq : ∀ q ∈ qs, Big q) (hn : n ≤ 30) :
  Calls Tryz.prog 38 #[.slice a n cap] w fun e w' => e = .returned (.int .i64 (ssz n qs : Nat)) ∧ Below w.heap.size w w' := by
 obtain ⟨hl, hcap, b, off, ha, hc⟩ := h.addr
 have HC := Lib.hid hc
 have HA := Lib.hid ha
 have HQ := Lib.hid hq
 have HL := Lib.hid hl
 clear h hc ha hq hl
 go_enter Tryz.func38, Tryz.ntmps38
 go_wp2
 go_loopw [3, 4] (fun s i wr => ∃ (k m : Nat), k ≤ n ∧ m ≤ 200000000000000 ∧ i = .int .i64 k ∧ s = .int .i64 m ∧ Hid (ssz m (qs.drop k) = ssz n qs) ∧ Below w.heap.size w wr) (fun _ i _ => n - (intOf i).toNat)
 case atStart => exact ⟨0, n, Nat.zero_le _, by omega, rfl, rfl, Lib.hid rfl, Below.refl _ _⟩
 case round =>
  obtain ⟨k, m, hk, hm, rfl, rfl, HS, hb⟩ := hrel
  have HB := Lib.hid hb
  clear hb
  by_cases hlt : k < n
  · by_cases hmm : m ≤ 1048576
    · obtain ⟨rfl, hbl⟩ := HA.out (by omega)
      have hk2 : k < qs.length := by have := HL.out; omega
      have hqat := (HC.out k _ (qs_at hk2)).below hbl HB.out
      have hbig := HQ.out _ (qs_mem hk2)
      have hst := HS.out
      rw [drop_cons hk2] at hst
      simp only [ssz, if_pos hmm] at hst
      generalize qs.getD k default = q at *
      obtain ⟨s, l1, d1⟩ := q
      obtain ⟨p, c, p', c', h0, h1, h2, g1, g2⟩ := hqat
      dsimp only at h0 h1 h2 hbig hst
      have kc := ratSize_any s p p' l1.length c d1.length c' wr hbig.2.1 hbig.2.2
      obtain ⟨r, hr⟩ : ∃ r, r = rsz l1.length d1.length := ⟨_, rfl⟩
      rw [← hr] at kc hst
      have hr2 : r ≤ 150000000000000 := by
       have := hbig.2.1; have := hbig.2.2
       have : rsz l1.length d1.length ≤ 2 + l1.length + d1.length := by unfold rsz; split <;> omega
       dsimp only at *
       omega
      obtain ⟨u, hu⟩ : ∃ u, u = m + r := ⟨_, rfl⟩
      rw [← hu] at hst
      have hu2 : (m : Int) + (r : Int) = (u : Int) := by omega
      have hu3 : u ≤ 200000000000000 := by omega
      have HST := Lib.hid hst
      have j1 : (k : Int) < (n : Int) := by omega
      have j2 : (m : Int) ≤ 1048576 := by omega
      have j3 : decide ((m : Int) ≤ 1048576) = true := decide_eq_true j2
      clear g1 g2 hbig hst hr hu hk2 HA HC
      go_wp2_with fail
      refine kc.mono ?_
      rintro e w1 ⟨rfl, rr⟩
      have HB1 := Lib.hid (then_below HB.out rr)
      clear kc rr HB
      go_wp2_with fail
      go_roundw
      case rel => exact ⟨k + 1, u, by omega, hu3, by simp, rfl, HST, HB1.out⟩
      case measure => simp [intOf]; omega
    · have hst := HS.out
      have hk2 : k < qs.length := by have := HL.out; omega
      rw [drop_cons hk2] at hst
      simp only [ssz, if_neg hmm] at hst
      have HST := Lib.hid hst
      have j1 : (k : Int) < (n : Int) := by omega
      have j2 : ¬ (m : Int) ≤ 1048576 := by omega
      have j3 : decide ((m : Int) ≤ 1048576) = false := decide_eq_false j2
      clear hst hk2 HA HC
      go_wp2_with fail
      go_ret
      exact ⟨by rw [← HST.out]; rfl, HB.out⟩
  · have hst := HS.out
    rw [List.drop_eq_nil_of_le (by have := HL.out; omega)] at hst
    simp only [ssz] at hst
    have HST := Lib.hid hst
    have j1 : ¬ (k : Int) < (n : Int) := by omega
    clear hst HA HC
    go_wp2_with fail
    go_ret
    exact ⟨by rw [← HST.out]; rfl, HB.out⟩
abbrev GI : Type := Option Addr × Nat × Nat × List Qr
def gival (t : GI) : Value := .slice t.1 t.2.1 t.2.2.1
def gbig (t : GI) : Bool := decide (30 < t.2.1) || decide (300 < ssz t.2.1 t.2.2.2)
def GOK (W : World) (t : GI) : Prop := VReads W (gival t) t.2.2.2 ∧ ∀ q ∈ t.2.2.2, Big q
theorem GOK.below {W W' : World} {t : GI} (h : GOK W t) (r : Below W.heap.size W W') : GOK W' t := ⟨h.1.below r, h.2⟩
theorem v_great_at {w : World} {b m : Nat} (zs : List GI) (hm : m = zs.length) (hl : zs.length ≤ 10) (hz : ∀ t ∈ zs, GOK w t) (hb : b < w.heap.size) (hc : ∀ j, j < m → w.cell? ⟨b, j, none⟩ = some (gival (zs.getD j default))) (R : Bool) (hR : R = zs.any gbig) :
  Calls Tryz.prog 7 #[.slice (some ⟨b, 0, none⟩) m m] w fun e w' => e = .returned (.bool R) ∧ Below w.heap.size w w' := by
 have HM := Lib.hid hm
 have HR := Lib.hid hR
 have HZ := Lib.hid hz
 have HC := Lib.hid hc
 have hm10 : m ≤ 10 := by omega
 clear hR hm hz hc
 go_enter Tryz.func7, Tryz.ntmps7
 go_wp2
 go_loopw [3] (fun i wr => ∃ k : Nat, k ≤ m ∧ i = .int .i64 k ∧ Hid (∀ j, j < k → gbig (zs.getD j default) = false) ∧ Below w.heap.size w wr) (fun i _ => m - (intOf i).toNat)
 case atStart => exact ⟨0, Nat.zero_le _, rfl, Lib.hid (fun j hj => by omega), Below.refl _ _⟩
 case round =>
  obtain ⟨k, hk, rfl, HS, hbel⟩ := hrel
  have HB := Lib.hid hbel
  clear hbel
  by_cases hlt : k < m
  · have hk2 : k < zs.length := by have := HM.out; omega
    have hmem : zs.getD k default ∈ zs := by
      rw [List.getD_eq_getElem?_getD, List.getElem?_eq_getElem hk2]; exact List.getElem_mem hk2
    have hcell := (HB.out.cell (p := ⟨b, k, none⟩) hb).trans (HC.out k hlt)
    have hok := (HZ.out _ hmem).below HB.out
    have hany : gbig (zs.getD k default) = true → R = true := fun h => by
      rw [HR.out, List.any_eq_true]; exact ⟨_, hmem, h⟩
    have hno : gbig (zs.getD k default) = false → ∀ j, j < k + 1 → gbig (zs.getD j default) = false := fun h j hj => by
      by_cases e : j = k
      · subst e; exact h
      · exact HS.out j (by omega)
    generalize zs.getD k default = t at *
    obtain ⟨a, n, cap, qs⟩ := t
    simp only [gival, gbig, GOK] at hcell hok hany hno
    have j1 : (k : Int) < (m : Int) := by omega
    by_cases hn : 30 < n
    · have h0 : R = true := hany (by simp [hn])
      have H0 := Lib.hid h0
      have j2 : (30 : Int) < (n : Int) := by omega
      have j3 : decide ((30 : Int) < (n : Int)) = true := decide_eq_true j2
      clear hany hno hok h0 hn hk2 hmem
      go_wp2_with fail
      go_ret
      exact ⟨ret_bool H0.out.symm, HB.out⟩
    · have kc := ratsSize_any hok.1 hok.2 (by omega)
      have j2 : ¬ (30 : Int) < (n : Int) := by omega
      have j3 : decide ((30 : Int) < (n : Int)) = false := decide_eq_false j2
      obtain ⟨s, hs⟩ : ∃ s, s = ssz n qs := ⟨_, rfl⟩
      rw [← hs] at kc hany hno
      by_cases hq : 300 < s
      · have h0 : R = true := hany (by simp [hq])
        have H0 := Lib.hid h0
        have j4 : (300 : Int) < (s : Int) := by omega
        have j5 : decide ((300 : Int) < (s : Int)) = true := decide_eq_true j4
        clear hany hno hok h0 hn hk2 hmem hs hq
        go_wp2_with fail
        refine kc.mono ?_
        rintro e w1 ⟨rfl, rr⟩
        have HB1 := Lib.hid (then_below HB.out rr)
        clear kc rr
        go_wp2_with fail
        go_ret
        exact ⟨ret_bool H0.out.symm, HB1.out⟩
      · have HN := Lib.hid (hno (by simp [hn, hq]))
        have j4 : ¬ (300 : Int) < (s : Int) := by omega
        have j5 : decide ((300 : Int) < (s : Int)) = false := decide_eq_false j4
        clear hany hno hok hn hk2 hmem hs hq
        go_wp2_with fail
        refine kc.mono ?_
        rintro e w1 ⟨rfl, rr⟩
        have HB1 := Lib.hid (then_below HB.out rr)
        clear kc rr
        go_wp2_with fail
        go_roundw
        case rel => exact ⟨k + 1, by omega, by simp, HN, HB1.out⟩
        case measure => simp [intOf]; omega
  · have h0 : R = false := by
      rw [HR.out, List.any_eq_false]
      intro t ht
      obtain ⟨i, hi, rfl⟩ := List.mem_iff_getElem.1 ht
      have := HS.out i (by have := HM.out; omega)
      rw [List.getD_eq_getElem?_getD, List.getElem?_eq_getElem hi] at this
      simpa using this
    have H0 := Lib.hid h0
    have j1 : ¬ (k : Int) < (m : Int) := by omega
    clear h0
    go_wp2_with fail
    go_ret
    exact ⟨ret_bool H0.out.symm, HB.out⟩
theorem v_great {W : World} (zs : List GI) {vs : Array Value} (hv : vs = (zs.map gival).toArray) {m : Nat} (hm : m = zs.length) (hl : zs.length ≤ 10) (hz : ∀ t ∈ zs, GOK W t) (R : Bool) (hR : R = zs.any gbig) :
   Calls Tryz.prog 7 #[.slice (some ⟨W.heap.size, 0, none⟩) m m] (W.alloc (.cells vs 22)) fun e w' => e = .returned (.bool R) ∧ Below W.heap.size W w' := by
 subst hv; subst hm
 have al : Below W.heap.size W (W.alloc (.cells (zs.map gival).toArray 22)) := (Below.refl _ _).alloc (Nat.le_refl _) _
 refine (v_great_at zs rfl hl (fun t ht => (hz t ht).below al) (by simp) (fun j hj => ?_) R hR).mono ?_
 · unfold World.cell?
   rw [World.alloc_heap_new]
   simp [List.getElem?_map, List.getD_eq_getElem?_getD, List.getElem?_eq_getElem hj]
 · rintro e w' ⟨rfl, r⟩
   exact ⟨rfl, then_below al r⟩
end
end Go.Proofs.YtdjfooflhpkcbaaGreatDoor
