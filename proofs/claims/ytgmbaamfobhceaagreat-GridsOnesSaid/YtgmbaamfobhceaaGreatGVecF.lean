/- Rows of fractions in memory: what a slice of fractions reads as, and one of the call's own. Rows of fractions: may all be, are they as many. Rows .. -/
import Derived.Deep.LoopGhost
import Derived.Maps.AppendAt
import Derived.Test.YtgmbaamfobhceaaGreatGRatCmp
import Derived.Test.YtgmbaamfobhceaaGreatGVecM
import Derived.Test.YtgmbaamfobhceaaGreatGIter
import Derived.Test.YtgmbaamfobhceaaGreatGRatOpO
import Derived.Test.YtgmbaamfobhceaaGreatGRTv
import Derived.Test.YtgmbaamfobhceaaGreatGLoop
set_option linter.unusedSimpArgs false
set_option linter.unusedVariables false
set_option maxRecDepth 100000
set_option maxHeartbeats 8000000
namespace Go.Proofs.YtgmbaamfobhceaaGreat
section
open Go Go.Proofs Go.RowKit Go.Shelf Nu
abbrev Sl : Type := Option Addr × Nat
abbrev Zr : Type := Qr × Sl × Sl
def zcell (z : Zr) : List Value := [.bool z.1.1, .slice z.2.1.1 z.1.2.1.length z.2.1.2, .slice z.2.2.1 z.1.2.2.length z.2.2.2]
def zcells (zs : List Zr) : List Value := zs.flatMap zcell
theorem zcells_snoc (zs : List Zr) (z : Zr) : zcells (zs ++ [z]) = zcells zs ++ zcell z := by simp [zcells]
theorem zcells_len : ∀ zs : List Zr, (zcells zs).length = zs.length * 3
 | [] => rfl
 | z :: zs => by
  have := zcells_len zs
  simp [zcells, zcell] at *
  omega
theorem zcells_at : ∀ (zs : List Zr) (j : Nat) (z : Zr), zs[j]? = some z → ∀ i, i < 3 → (zcells zs)[j * 3 + i]? = (zcell z)[i]?
 | [], j, z, h, i, hi => by simp at h
 | u :: zs, 0, z, h, i, hi => by
  simp at h; subst h
  simp only [zcells, List.flatMap_cons]
  rw [List.getElem?_append_left (by simp [zcell]; omega)]
  simp
 | u :: zs, j + 1, z, h, i, hi => by
  simp only [zcells, List.flatMap_cons]
  rw [List.getElem?_append_right (by simp [zcell]; omega)]
  have e : (j + 1) * 3 + i - (zcell u).length = j * 3 + i := by simp [zcell]; omega
  rw [e]
  exact zcells_at zs j z (by simpa using h) i hi
def ZIn (W : World) (z : Zr) : Prop := Reads W (.slice z.2.1.1 z.1.2.1.length z.2.1.2) z.1.2.1 ∧ Reads W (.slice z.2.2.1 z.1.2.2.length z.2.2.2) z.1.2.2
theorem ZIn.below {W W' : World} {z : Zr} (h : ZIn W z) (hb : Below W.heap.size W W') : ZIn W' z := ⟨h.1.below hb, h.2.below hb⟩
def QrAt (W : World) (b o : Nat) (q : Qr) : Prop :=
 ∃ (p : Option Addr) (c : Nat) (p' : Option Addr) (c' : Nat), W.cell? ⟨b, o, none⟩ = some (.bool q.1) ∧ W.cell? ⟨b, o + 1, none⟩ = some (.slice p q.2.1.length c) ∧ W.cell? ⟨b, o + 2, none⟩ = some (.slice p' q.2.2.length c') ∧
  Reads W (.slice p q.2.1.length c) q.2.1 ∧ Reads W (.slice p' q.2.2.length c') q.2.2
theorem QrAt.below {W W' : World} {b o : Nat} {q : Qr} (h : QrAt W b o q) (hlt : b < W.heap.size) (hb : Below W.heap.size W W') : QrAt W' b o q := by
 obtain ⟨p, c, p', c', h0, h1, h2, h3, h4⟩ := h
 exact ⟨p, c, p', c', (hb.cell (p := ⟨b, o, none⟩) hlt).trans h0, (hb.cell (p := ⟨b, o + 1, none⟩) hlt).trans h1, (hb.cell (p := ⟨b, o + 2, none⟩) hlt).trans h2, h3.below hb, h4.below hb⟩
def VReads (W : World) (v : Value) (qs : List Qr) : Prop :=
 (v = .slice none 0 0 ∧ qs = []) ∨ (∃ b off cap, v = .slice (some ⟨b, off, none⟩) qs.length cap ∧ b < W.heap.size ∧ qs.length ≤ cap ∧ ∀ j q, qs[j]? = some q → QrAt W b (off + j * 3) q) ∨ ∃ x, v = .slice (some x) 0 0 ∧ qs = []
theorem VReads.nil (W : World) : VReads W (.slice none 0 0) [] := .inl ⟨rfl, rfl⟩
theorem VReads.below {W W' : World} {v : Value} {qs : List Qr} (h : VReads W v qs) (hb : Below W.heap.size W W') : VReads W' v qs := by
 rcases h with h | ⟨b, off, cap, e, hb', hc, hl⟩ | h
 · exact .inl h
 · exact .inr (.inl ⟨b, off, cap, e, Nat.lt_of_lt_of_le hb' hb.size, hc, fun j q hq => (hl j q hq).below hb' hb⟩)
 · exact .inr (.inr h)
theorem VReads.form {W : World} {v : Value} {qs : List Qr} (h : VReads W v qs) : ∃ a cap, v = .slice a qs.length cap := by
 rcases h with ⟨rfl, rfl⟩ | ⟨b, off, cap, rfl, _⟩ | ⟨x, rfl, rfl⟩
 · exact ⟨none, 0, rfl⟩
 · exact ⟨_, cap, rfl⟩
 · exact ⟨some x, 0, rfl⟩
theorem VReads.addr {W : World} {a : Option Addr} {n cap : Nat} {qs : List Qr} (h : VReads W (.slice a n cap) qs) : n = qs.length ∧ n ≤ cap ∧ ∃ b off, (0 < n → a = some ⟨b, off, none⟩ ∧ b < W.heap.size) ∧ ∀ j q, qs[j]? = some q → QrAt W b (off + j * 3) q := by
 rcases h with ⟨e, rfl⟩ | ⟨b, off, cap', e, hb, hc, hl⟩ | ⟨x, e, rfl⟩
 rotate_right
 · cases e; exact ⟨rfl, Nat.le_refl _, 0, 0, by simp, by simp⟩
 · cases e; exact ⟨rfl, Nat.le_refl _, 0, 0, by simp, by simp⟩
 · cases e; exact ⟨rfl, hc, b, off, fun _ => ⟨rfl, hb⟩, hl⟩
theorem qs_at {qs : List Qr} {j : Nat} (h : j < qs.length) : qs[j]? = some (qs.getD j default) := by
 rw [List.getD_eq_getElem?_getD, List.getElem?_eq_getElem h]; rfl
theorem qs_mem {qs : List Qr} {j : Nat} (h : j < qs.length) : qs.getD j default ∈ qs := List.mem_of_getElem? (qs_at h)
def VFresh (W : World) (base : Nat) (v : Value) (qs : List Qr) : Prop := ∃ zs : List Zr, zs.map (·.1) = qs ∧ W.ownsRow base 44 3 v zs.length (zcells zs) ∧ ∀ z ∈ zs, ZIn W z
theorem VFresh.nil (W : World) (base : Nat) : VFresh W base (.slice none 0 0) [] := ⟨[], rfl, World.ownsRow_nil W base _ 3, by simp⟩
theorem VFresh.reads {W : World} {base : Nat} {v : Value} {qs : List Qr} (h : VFresh W base v qs) : VReads W v qs := by
 obtain ⟨zs, rfl, ho, hz⟩ := h
 have hc := fun (g : Nat) (hg : v.ownBlock = some g) => World.ownsRow.cells ho hg
 rcases ho.2 with ⟨rfl, h0⟩ | ⟨g, cap, cur, rfl, hb, hg, hn, _⟩
 · obtain rfl : zs = [] := List.eq_nil_of_length_eq_zero h0
   exact .inl ⟨rfl, rfl⟩
 · refine .inr (.inl ⟨g, 0, cap, by simp, (Array.getElem?_eq_some_iff.1 hg).1, by simpa using hn, fun j q hq => ?_⟩)
   obtain ⟨z, hz1, rfl⟩ : ∃ z, zs[j]? = some z ∧ z.1 = q := by simpa [List.getElem?_map] using hq
   have hm := hz z (List.mem_of_getElem? hz1)
   have k := fun i (hi : i < 3) u (hu : (zcell z)[i]? = some u) => hc g rfl (j * 3 + i) u ((zcells_at zs j z hz1 i hi).trans hu)
   have k0 := k 0 (by omega) _ rfl
   have k1 := k 1 (by omega) _ rfl
   have k2 := k 2 (by omega) _ rfl
   simp only [Addr.add_lit] at k0 k1 k2
   refine ⟨z.2.1.1, z.2.1.2, z.2.2.1, z.2.2.2, ?_, ?_, ?_, hm.1, hm.2⟩
   · simpa [Nat.add_assoc] using k0
   · simpa [Nat.add_assoc] using k1
   · simpa [Nat.add_assoc] using k2
theorem VFresh.mono {W : World} {base base' : Nat} {v : Value} {qs : List Qr} (h : VFresh W base v qs) (hb : base' ≤ base) : VFresh W base' v qs := by
 obtain ⟨zs, e, ho, hz⟩ := h
 refine ⟨zs, e, ⟨ho.1, ?_⟩, hz⟩
 rcases ho.2 with h | ⟨g, cap, cur, e, hg, r⟩
 · exact .inl h
 · exact .inr ⟨g, cap, cur, e, Nat.le_trans hb hg, r⟩
theorem own_below {W W' : World} {base n k : Nat} {t : TypeId} {v : Value} {l : List Value} (h : W.ownsRow base t k v n l) (hb : Below W.heap.size W W') : W'.ownsRow base t k v n l := by
 refine ⟨h.1, ?_⟩
 rcases h.2 with h | ⟨g, cap, cur, e, hg, hgb, r⟩
 · exact .inl h
 · exact .inr ⟨g, cap, cur, e, hg, (hb.block g (Array.getElem?_eq_some_iff.1 hgb).1).trans hgb, r⟩
theorem VFresh.below {W W' : World} {base : Nat} {v : Value} {qs : List Qr} (h : VFresh W base v qs) (hb : Below W.heap.size W W') : VFresh W' base v qs := by
 obtain ⟨zs, e, ho, hz⟩ := h
 exact ⟨zs, e, own_below ho hb, fun z hz' => (hz z hz').below hb⟩
theorem VFresh.alloc {W : World} {base : Nat} {v : Value} {qs : List Qr} (h : VFresh W base v qs) (o : Obj) : VFresh (W.alloc o) base v qs := h.below ((Below.refl _ _).alloc (Nat.le_refl _) o)
theorem VFresh.form {W : World} {base : Nat} {v : Value} {qs : List Qr} (h : VFresh W base v qs) : ∃ a cap, v = .slice a qs.length cap := h.reads.form
theorem info_rat : (Tryz.prog.info? 44).map (fun i => (i.zero, i.size, i.bytes)) = some (some (.agg #[.bool false, .slice none 0 0, .slice none 0 0]), 3, 56) := by kernel_rfl
/-! ### parts of a row -/
theorem VReads.take {W : World} {a : Option Addr} {n cap : Nat} {qs : List Qr} (h : VReads W (.slice a n cap) qs) (k : Nat) (hk : k ≤ n) : VReads W (.slice a k cap) (qs.take k) := by
 rcases h with ⟨e, rfl⟩ | ⟨b, off, cap', e, hb, hc, hl⟩ | ⟨x, e, rfl⟩
 rotate_right
 · cases e; obtain rfl : k = 0 := by omega
   exact .inr (.inr ⟨x, rfl, rfl⟩)
 · cases e; obtain rfl : k = 0 := by omega
   exact .inl ⟨rfl, rfl⟩
 · cases e
   refine .inr (.inl ⟨b, off, cap, by rw [List.length_take, Nat.min_eq_left hk], hb, by rw [List.length_take]; omega, fun j q hq => ?_⟩)
   rw [List.getElem?_take] at hq
   split at hq
   · exact hl j q hq
   · cases hq
theorem VReads.drop {W : World} {b off n cap : Nat} {qs : List Qr} (h : VReads W (.slice (some ⟨b, off, none⟩) n cap) qs) (k m c o : Nat) (hm : m = n - k) (hc : c = cap - k) (ho : o = off + k * 3) (hk : k ≤ n) (hn : 0 < n) : VReads W (.slice (some ⟨b, o, none⟩) m c) (qs.drop k) := by
 rcases h with ⟨e, rfl⟩ | ⟨b', off', cap', e, hb, hc', hl⟩ | ⟨x, e, rfl⟩
 rotate_right
 · cases e; omega
 · cases e
 · cases e
   subst hm hc ho
   refine .inr (.inl ⟨b, off + k * 3, cap - k, by rw [List.length_drop], hb, by rw [List.length_drop]; omega, fun j q hq => ?_⟩)
   rw [List.getElem?_drop] at hq
   have := hl _ q hq
   rwa [show off + (k + j) * 3 = off + k * 3 + j * 3 by omega] at this
end
section
open Go Go.Proofs Go.RowKit Go.Shelf Nu
attribute [local go_sem] Oper.semAt_some
def qrows (qs : List Qr) : Prop := (∀ q ∈ qs, Fit q) ∧ qs.length ≤ 65536
theorem all_take_succ {qs : List Qr} {k : Nat} (hk : k < qs.length) (h : (qs.take k).all qok = true) (hq : qok (qs.getD k default) = true) : (qs.take (k + 1)).all qok = true := by
 have e : qs.take (k + 1) = qs.take k ++ [qs.getD k default] := by
  rw [List.take_add_one, qs_at hk]; rfl
 rw [e, List.all_append, h]
 show (true && (qok (qs.getD k default) && true)) = true
 rw [hq]; rfl
theorem v_check {w : World} {a : Option Addr} {n cap : Nat} {qs : List Qr} (R : Bool) (hR : R = qs.all qok) (h : VReads w (.slice a n cap) qs) (hq : qrows qs) :
  Calls Tryz.prog 18 #[.slice a n cap] w fun e w' => e = .returned (.bool R) ∧ Below w.heap.size w w' := by
 obtain ⟨hn, hcap, b, off, ha, hc⟩ := h.addr
 have HN := Lib.hid hn
 have HR := Lib.hid hR
 have HQ := Lib.hid hq
 have HC := Lib.hid hc
 have HA := Lib.hid ha
 have hn1 : n ≤ 65536 := hn ▸ hq.2
 clear hn hR hq hc h hcap ha
 go_enter Tryz.func18, Tryz.ntmps18
 go_wp2
 go_loopw [7] (fun i wr => ∃ k : Nat, k ≤ n ∧ i = .int .i64 k ∧ Below w.heap.size w wr ∧ Hid ((qs.take k).all qok = true)) (fun i _ => n - (intOf i).toNat)
 case atStart => exact ⟨0, Nat.zero_le _, rfl, Below.refl _ _, Lib.hid (by simp)⟩
 case round =>
  obtain ⟨k, hk, rfl, hb, hs⟩ := hrel
  have HB := Lib.hid hb
  clear hb
  by_cases hlt : k < n
  · obtain ⟨rfl, hbl⟩ := HA.out (by omega)
    have hk2 : k < qs.length := by have := HN.out; omega
    have hqat := (HC.out k _ (qs_at hk2)).below hbl HB.out
    have hfit := HQ.out.1 _ (qs_mem hk2)
    have hstep := fun h => all_take_succ hk2 hs.out h
    have hall : qok (qs.getD k default) = false → qs.all qok = false := fun h => by
     rw [List.all_eq_false]; exact ⟨_, qs_mem hk2, by rw [h]; exact Bool.false_ne_true⟩
    generalize qs.getD k default = q at *
    obtain ⟨s, l, d⟩ := q
    obtain ⟨p, c, p', c', h0, h1, h2, g1, g2⟩ := hqat
    have kc := fun (W : World) (r : Below wr.heap.size wr W) => rcheck_any (n := s) (g1.below r) (g2.below r) hfit.1.1 hfit.1.2 (by have := hfit.2.1; omega) (by have := hfit.2.2; omega)
    have HS := Lib.hid hstep
    have HL := Lib.hid hall
    clear g1 g2 hfit hk2 hstep hall
    dsimp only at h0 h1 h2
    clear HA HC
    go_wp2_with fail
    have al : Below wr.heap.size wr (wr.alloc (.cells #[.bool s, .slice p l.length c, .slice p' d.length c'] 44)) := (Below.refl _ _).alloc (Nat.le_refl _) _
    refine (kc _ al).mono ?_
    rintro e w1 ⟨rfl, rr⟩
    have hb1 := then_below HB.out (then_below al rr)
    have HB1 := Lib.hid hb1
    clear rr hb1 al kc h0 h1 h2
    have hB : rchk s l d = qok (s, l, d) := rfl
    rw [hB]
    clear hB
    cases hB : qok (s, l, d) with
    | false =>
     have h3 := HL.out hB
     have h0 : R = false := HR.out.trans h3
     clear hB h3
     go_wp2
     go_ret
     exact ⟨ret_bool h0.symm, HB1.out⟩
    | true =>
     have H3 := Lib.hid (HS.out hB)
     clear hB
     go_wp2
     go_roundw
     case rel => exact ⟨k + 1, by omega, by simp, HB1.out, H3⟩
     case measure => simp [intOf]; omega
  · have h0 : R = true := by
     rw [HR.out]
     have := hs.out
     rwa [List.take_of_length_le (by have := HN.out; omega)] at this
    clear HA HC
    go_wp2
    go_ret
    exact ⟨ret_bool h0.symm, HB.out⟩
theorem v_match {w : World} {a1 a2 : Option Addr} {n1 n2 c1 c2 : Nat} {q1 q2 : List Qr} (R : Bool) (hR : R = (decide (n1 = n2) && (q1.all qok && q2.all qok))) (h1 : VReads w (.slice a1 n1 c1) q1) (h2 : VReads w (.slice a2 n2 c2) q2) (f1 : qrows q1) (f2 : qrows q2) :
   Calls Tryz.prog 52 #[.slice a1 n1 c1, .slice a2 n2 c2] w fun e w' => e = .returned (.bool R) ∧ Below w.heap.size w w' := by
 obtain ⟨B1, e1⟩ : ∃ B, B = q1.all qok := ⟨_, rfl⟩
 obtain ⟨B2, e2⟩ : ∃ B, B = q2.all qok := ⟨_, rfl⟩
 have k1 := fun (W : World) (r : Below w.heap.size w W) => v_check B1 e1 (h1.below r) f1
 have k2 := fun (W : World) (r : Below w.heap.size w W) => v_check B2 e2 (h2.below r) f2
 have hn1 : n1 ≤ 65536 := h1.addr.1 ▸ f1.2
 have hn2 : n2 ≤ 65536 := h2.addr.1 ▸ f2.2
 rw [← e1, ← e2] at hR
 clear h1 h2 f1 f2 e1 e2
 by_cases e : n1 = n2
 · subst e
   have ht : ((n1 : Int) == (n1 : Int)) = true := by simp
   cases B1 with
   | false =>
    obtain rfl : R = false := by simpa using hR
    clear hR
    go_enter Tryz.func52, Tryz.ntmps52
    go_wp2_with fail
    refine (k1 _ (Below.refl _ _)).mono ?_
    rintro e w1 ⟨rfl, rr⟩
    have RR := Lib.hid rr
    clear rr
    go_wp2_with fail
    go_ret
    exact ⟨rfl, RR.out⟩
   | true =>
    obtain rfl : R = B2 := by simpa using hR
    clear hR
    go_enter Tryz.func52, Tryz.ntmps52
    go_wp2_with fail
    refine (k1 _ (Below.refl _ _)).mono ?_
    rintro e w1 ⟨rfl, rr⟩
    have RR := Lib.hid rr
    clear rr
    go_wp2_with fail
    refine (k2 _ RR.out).mono ?_
    rintro e w2 ⟨rfl, rr⟩
    have RR2 := Lib.hid (then_below RR.out rr)
    clear rr
    go_wp2_with fail
    go_ret
    exact ⟨rfl, RR2.out⟩
 · have ht : ((n1 : Int) == (n2 : Int)) = false := by simp; omega
   obtain rfl : R = false := by simpa [e] using hR
   clear hR e
   go_enter Tryz.func52, Tryz.ntmps52
   go_wp2_with fail
   go_ret
   exact ⟨rfl, Below.refl _ _⟩
abbrev zval (z : Zr) : Value := .agg #[.bool z.1.1, .slice z.2.1.1 z.1.2.1.length z.2.1.2, .slice z.2.2.1 z.1.2.2.length z.2.2.2]
def ZAt (W : World) (b o : Nat) (z : Zr) : Prop := W.cell? ⟨b, o, none⟩ = some (.bool z.1.1) ∧ W.cell? ⟨b, o + 1, none⟩ = some (.slice z.2.1.1 z.1.2.1.length z.2.1.2) ∧ W.cell? ⟨b, o + 2, none⟩ = some (.slice z.2.2.1 z.1.2.2.length z.2.2.2)
theorem ZAt.below {W W' : World} {b o : Nat} {z : Zr} (h : ZAt W b o z) (hlt : b < W.heap.size) (hb : Below W.heap.size W W') : ZAt W' b o z :=
 ⟨(hb.cell (p := ⟨b, o, none⟩) hlt).trans h.1, (hb.cell (p := ⟨b, o + 1, none⟩) hlt).trans h.2.1, (hb.cell (p := ⟨b, o + 2, none⟩) hlt).trans h.2.2⟩
theorem VReads.fn {W : World} {a : Option Addr} {n cap : Nat} {qs : List Qr} (h : VReads W (.slice a n cap) qs) : ∃ (b off : Nat) (f : Nat → Zr), (0 < n → a = some ⟨b, off, none⟩ ∧ b < W.heap.size) ∧ ∀ j, j < n → (f j).1 = qs.getD j default ∧ ZAt W b (off + j * 3) (f j) ∧ ZIn W (f j) := by
 obtain ⟨hn, _, b, off, hA, hc⟩ := h.addr
 have key : ∀ j, ∃ z : Zr, j < n → z.1 = qs.getD j default ∧ ZAt W b (off + j * 3) z ∧ ZIn W z := by
  intro j
  by_cases hj : j < n
  · obtain ⟨p, c, p', c', h0, h1, h2, g, g'⟩ := hc j _ (qs_at (by omega))
    exact ⟨(qs.getD j default, (p, c), (p', c')), fun _ => ⟨rfl, ⟨h0, h1, h2⟩, g, g'⟩⟩
  · exact ⟨default, fun h => absurd h hj⟩
 exact ⟨b, off, fun j => Classical.choose (key j), hA, fun j hj => Classical.choose_spec (key j) hj⟩
theorem places_any (a b : Option Addr) (n m ca cb : Nat) (w : World) :
  Calls Tryz.prog 53 #[.slice a n ca, .slice b m cb] w fun e w' => e = .returned (.func (.func 101) #[] #[.pointer (some ⟨w.heap.size, 0, none⟩), .pointer (some ⟨w.heap.size + 1, 0, none⟩)]) ∧ w' = (w.alloc (.cells #[.slice a n ca] 30)).alloc (.cells #[.slice b m cb] 30) := by
 go_enter Tryz.func53, Tryz.ntmps53
 go_wp2
 go_ret
 exact ⟨rfl, rfl⟩
theorem places_iter (N b1 o1 b2 o2 c1 c2 B1 B2 : Nat) (a1 a2 : Option Addr) (f g : Nat → Zr) (hN : N ≤ 65536) (h1 : 0 < N → a1 = some ⟨b1, o1, none⟩) (h2 : 0 < N → a2 = some ⟨b2, o2, none⟩) (d1 : N ≤ c1) (d2 : N ≤ c2) :
   IterAt Tryz.prog 101 #[.pointer (some ⟨B1, 0, none⟩), .pointer (some ⟨B2, 0, none⟩)] N (fun k => #[zval (f k), zval (g k)])
    (fun k W => W.cell? ⟨B1, 0, none⟩ = some (.slice a1 N c1) ∧ W.cell? ⟨B2, 0, none⟩ = some (.slice a2 N c2) ∧ (k < N → ZAt W b1 (o1 + k * 3) (f k) ∧ ZAt W b2 (o2 + k * 3) (g k))) := by
 intro l J Jx W hB hJd hY h0
 obtain ⟨hx1, hx2, -⟩ := hB 0 W h0
 refine callsIn_of_wp Tryz.func101 rfl trivial ?_ rfl
 simp only [Tryz.ntmps101, List.size_toArray, List.length_cons, List.length_nil, Nat.reduceAdd, Nat.reduceSub, Array.replicate_succ, Array.replicate_zero, List.push_toArray, List.append_toArray, List.nil_append, List.cons_append]
 by_cases hz : N = 0
 · subst hz
   clear hY hB h1 h2 hJd
   gi_wp2
   gi_loopw [10] (fun i wr => i = .int .i64 0 ∧ J 0 wr) (fun _ _ => 0)
   case atStart => exact ⟨rfl, h0⟩
   case round =>
    obtain ⟨rfl, hJs⟩ := hrel
    gi_wp2
    go_end0
    exact ⟨⟨_, rfl⟩, .inl hJs⟩
 · obtain rfl := h1 (by omega)
   obtain rfl := h2 (by omega)
   clear h1 h2
   gi_wp2
   gi_loopw [4, 10] (fun _ i wr => ∃ k : Nat, k ≤ N ∧ i = .int .i64 k ∧ J k wr) (fun _ i _ => N - (intOf i).toNat)
   case atStart => exact ⟨0, Nat.zero_le _, rfl, h0⟩
   case round =>
    obtain ⟨k, hk, rfl, hJs⟩ := hrel
    by_cases hlt : k < N
    · obtain ⟨fn, tmps, assign, body, hy, hR⟩ := hY k wr.drew (hJd k wr hJs) hlt
      obtain ⟨bx1, bx2, hc⟩ := hB k wr.drew (hJd k wr hJs)
      obtain ⟨⟨u0, u1, u2⟩, v0, v1, v2⟩ := hc hlt
      clear hB hY hJd hx1 hx2 hc
      generalize f k = z1 at *
      generalize g k = z2 at *
      obtain ⟨⟨s, l1, d1'⟩, ⟨p, c⟩, p', c'⟩ := z1
      obtain ⟨⟨s', l2, d2'⟩, ⟨q, e⟩, q', e'⟩ := z2
      dsimp only [zval] at *
      gi_wp2
      refine region_tail_in Lets.wide 9 (by kernel_rfl) (by kernel_rfl) ?_
      simp only [List.take_succ_cons, List.take_zero, List.drop_succ_cons, List.drop_zero]
      iterate 9 still_step
      refine wpStill_nil ?_
      gi_wp2
      refine ⟨rfl, hR.mono ?_⟩
      rintro e W3 (⟨rfl, hJ3⟩ | ⟨rfl, hJx3⟩)
      · gi_wp2
        go_roundw
        case rel => exact ⟨k + 1, by omega, by simp, hJ3⟩
        case measure => simp [intOf]; omega
      · gi_wp2
        refine bodyPost_ret (results_none rfl _ _ _) rfl ?_
        exact ⟨⟨_, rfl⟩, .inr hJx3⟩
    · obtain rfl : k = N := by omega
      clear hB hY hJd
      gi_wp2
      go_end0
      exact ⟨⟨_, rfl⟩, .inl hJs⟩
end
section
open Go Go.Proofs Go.RowKit Go.Shelf Nu
end
section
open Go Go.Proofs Go.RowKit Go.Shelf Nu
attribute [local go_sem] Oper.semAt_some
def RAns (w : World) (X : Rat) (e : Ending) (w' : World) : Prop :=
 ∃ a c a' c', e = .returned (.agg #[.bool (qr X).1, .slice a (qr X).2.1.length c, .slice a' (qr X).2.2.length c']) ∧ Reads w' (.slice a (qr X).2.1.length c) (qr X).2.1 ∧ Reads w' (.slice a' (qr X).2.2.length c') (qr X).2.2 ∧ Below w.heap.size w w'
theorem v_sum_none {w : World} {a : Option Addr} {cap : Nat} : Calls Tryz.prog 66 #[.slice a 0 cap] w fun e w' => ∃ a c a' c', e = .returned (.agg #[.bool (qr 0).1, .slice a (qr 0).2.1.length c, .slice a' (qr 0).2.2.length c']) ∧ Fresh w' w.heap.size (.slice a (qr 0).2.1.length c) (qr 0).2.1 ∧ Fresh w' w.heap.size (.slice a' (qr 0).2.2.length c') (qr 0).2.2 ∧ Below w.heap.size w w' ∧ Two (.slice a (qr 0).2.1.length c) (.slice a' (qr 0).2.2.length c') := by
 have M : Mem w [(w.heap.size, 44, [.bool false, .slice none 0 0, .slice none 0 0])] [] (w.alloc (.cells #[.bool false, .slice none 0 0, .slice none 0 0] 44)) := (Mem.start w).new _ _
 have k0 := fun (W : World) => r_of_own (w := W) (s := (qr 0).1) (L := (qr 0).2.1) (D := (qr 0).2.2) 0 (qr_can 0) (by omega) (by omega)
 obtain ⟨q, hq⟩ : ∃ q, q = qr 0 := ⟨_, rfl⟩
 rw [← hq] at k0
 have HQ := Lib.hid hq
 clear hq
 go_enter Tryz.func66, Tryz.ntmps66
 go_wp2_with fail
 refine (k0 _).mono ?_
 rintro e w1 ⟨a1, c1, o1, r1, rfl, g, g', rr, tw⟩
 have M' := (MemO.of (n := 0) M).upadd2 rr g g' tw
 clear M rr g g' k0 tw
 have f0 := M'.fr 0 rfl 0; have f1 := M'.fr 0 rfl 1; have f2 := M'.fr 0 rfl 2
 have z0 := M'.cell 0 rfl 0 rfl; have z1 := M'.cell 0 rfl 1 rfl; have z2 := M'.cell 0 rfl 2 rfl
 go_wp2_with fail
 have M := (((M'.put 0 rfl rfl 0 (.bool q.1)).put 0 rfl rfl 1 (.slice a1 q.2.1.length c1)).put 0 rfl rfl 2 (.slice o1 q.2.2.length r1))
 refine ret_boxN rfl rfl (M.box 0 rfl) Tryz.underlying44 size_rat rfl ?_
 rw [← HQ.out]
 exact ⟨a1, c1, o1, r1, rfl, M.own 1 rfl, M.own 0 rfl, M.below, (M.two 0 1 rfl rfl).symm⟩
theorem v_sum_two (n : Nat) (ih : ∀ m, m < n → ∀ {w : World} {a : Option Addr} {cap : Nat} {xs : List Rat} (_ : m = xs.length) (_ : VReads w (.slice a m cap) (xs.map qr)) (_ : wts xs ≤ 9000), Calls Tryz.prog 66 #[.slice a m cap] w (RAns w (rsum xs))) (h2 : 2 ≤ n) {w : World} {a : Option Addr} {cap : Nat} {xs : List Rat} (hn : n = xs.length) (h : VReads w (.slice a n cap) (xs.map qr)) (hw : wts xs ≤ 9000) :
  Calls Tryz.prog 66 #[.slice a n cap] w fun e w' => ∃ a c a' c', e = .returned (.agg #[.bool (qr (rsum xs)).1, .slice a (qr (rsum xs)).2.1.length c, .slice a' (qr (rsum xs)).2.2.length c']) ∧ Fresh w' w.heap.size (.slice a (qr (rsum xs)).2.1.length c) (qr (rsum xs)).2.1 ∧ Fresh w' w.heap.size (.slice a' (qr (rsum xs)).2.2.length c') (qr (rsum xs)).2.2 ∧ Below w.heap.size w w' ∧ Two (.slice a (qr (rsum xs)).2.1.length c) (.slice a' (qr (rsum xs)).2.2.length c') := by
 have M : Mem w [(w.heap.size, 44, [.bool false, .slice none 0 0, .slice none 0 0])] [] (w.alloc (.cells #[.bool false, .slice none 0 0, .slice none 0 0] 44)) := (Mem.start w).new _ _
 have hb : wts (xs.take (n / 2)) + wts (xs.drop (n / 2)) = wts xs := wts_take_drop _ _
 have hs : rsum (xs.take (n / 2)) + rsum (xs.drop (n / 2)) = rsum xs := rsum_take_drop _ _
 obtain ⟨m, hm⟩ : ∃ m, m = n / 2 := ⟨_, rfl⟩
 rw [← hm] at hb hs
 have hm1 : 0 < m := by omega
 have hm2 : m < n := by omega
 have hcap' : n ≤ cap := h.addr.2.1
 have j0 : ((n : Int) == 0) = false := beq_eq_false_iff_ne.2 (by omega)
 have j1 : ((n : Int) == 1) = false := beq_eq_false_iff_ne.2 (by omega)
 have j2 : (m : Int) ≤ (n : Int) := by omega
 have j3 : (n : Int) ≤ (cap : Int) := by omega
 have j4 : (0 : Int) ≤ (m : Int) := by omega
 have j5 : (m : Int) ≤ (cap : Int) := by omega
 have j6 : m ≤ n := by omega
 have j8 : ¬ cap = m := by omega
 have j7 : n ≤ cap := hcap'
 obtain ⟨hl, hcap, b, off, hA, _⟩ := h.addr
 obtain ⟨rfl, hbl⟩ := hA (by omega)
 have g1 := h.take m (by omega)
 have g2 := h.drop m (n - m) (cap - m) (off + m * 3) rfl rfl rfl (by omega) (by omega)
 rw [← List.map_take] at g1
 rw [← List.map_drop] at g2
 have l1 : (xs.take m).length = m := by rw [List.length_take]; omega
 have l2 : (xs.drop m).length = n - m := by rw [List.length_drop]; omega
 have k1 := fun (W : World) (r : Below w.heap.size w W) => ih m hm2 (w := W) l1.symm (g1.below r) (by omega)
 have k2 := fun (W : World) (r : Below w.heap.size w W) => ih (n - m) (by omega) (w := W) l2.symm (g2.below r) (by omega)
 have w1 := wt_rsum (xs.take m)
 have w2 := wt_rsum (xs.drop m)
 have hxl := wts_len xs
 have hn9 : n ≤ 9000 := by omega
 generalize rsum (xs.take m) = X at *
 generalize rsum (xs.drop m) = Y at *
 generalize rsum xs = Z at *
 have f1 := fit_qr (X := X) (by omega)
 have f2 := fit_qr (X := Y) (by omega)
 have k3 := fun (W : World) {p1 o1 p2 o2 : Option Addr} {q1 r1 q2 r2 : Nat} (g1 : Reads W (.slice p1 (qr X).2.1.length q1) (qr X).2.1) (g2 : Reads W (.slice o1 (qr X).2.2.length r1) (qr X).2.2) (g3 : Reads W (.slice p2 (qr Y).2.1.length q2) (qr Y).2.1) (g4 : Reads W (.slice o2 (qr Y).2.2.length r2) (qr Y).2.2) =>
  r_add_own (qr_can X).is (qr_can Y).is (qr_can Z) hs.symm f1.2.1 f1.2.2 f2.2.1 f2.2.2 g1 g2 g3 g4
 have hdv : (n : Int) / 2 = (m : Int) := by omega
 unfold RAns at k1 k2
 clear ih g1 g2 h hA hs hb w1 w2 f1 f2 hw l1 l2 hl hn hxl hm hcap'
 go_enter Tryz.func66, Tryz.ntmps66
 go_wp2_with fail
 refine region_mem (S := fun _ => True) M (by kernel_rfl) ?_
 intro V0 M
 have hS0 : (fun _ : World => True) V0 := trivial
 refine wtk 0 (.slice (some ⟨b, off, none⟩) n cap) rfl (fun _ _ _ h => h) (Or.inl ⟨by rfl, fun W3 hS => by go_simp⟩) hS0 ?_
 refine wtk 1 (.int .i64 (m : Int)) rfl (fun _ _ _ h => h) (Or.inl ⟨by rfl, fun W3 hS => by go_simp⟩) hS0 ?_
 refine wtk 4 (.slice (some ⟨b, off, none⟩) n cap) rfl (fun _ _ _ h => h) (Or.inl ⟨by rfl, fun W3 hS => by go_simp⟩) hS0 ?_
 refine wtk 5 (.int .i64 (m : Int)) rfl (fun _ _ _ h => h) (Or.inl ⟨by rfl, fun W3 hS => by go_simp⟩) hS0 ?_
 refine wtk 2 (.slice (some ⟨b, off, none⟩) m cap) rfl (fun _ _ _ h => h) (Or.inl ⟨by rfl, fun W3 hS => by go_simp⟩) hS0 ?_
 refine wtk 6 (.slice (some ⟨b, off + m * 3, none⟩) (n - m) (cap - m)) rfl (fun _ _ _ h => h) (Or.inl ⟨by rfl, fun W3 hS => by go_simp⟩) hS0 ?_
 clear hS0
 try simp only [Act.put, List.setIfInBounds_toArray, List.set_cons_zero, List.set_cons_succ]
 refine one_op 3 rfl (fun K1 hK => ?_)
 go_simp
 refine (k1 _ M.below).mono ?_
 rintro e V1 ⟨a1, c1, o1, r1, rfl, g, g', rr⟩
 have M' := ((M.up rr).add g).add g'
 clear M rr g g'
 have M := M'; clear M'
 refine hK _ _ ⟨trivial, ?_⟩
 clear hK K1
 refine one_op 7 rfl (fun K2 hK => ?_)
 go_simp
 refine (k2 _ M.below).mono ?_
 rintro e V2 ⟨a2, c2, o2, r2, rfl, g, g', rr⟩
 have M' := ((M.up rr).add g).add g'
 clear M rr g g'
 have M := M'; clear M'
 refine hK _ _ ⟨trivial, ?_⟩
 clear hK K2
 refine one_op 8 rfl (fun K3 hK => ?_)
 go_simp
 refine (k3 _ (M.get 3 rfl) (M.get 2 rfl) (M.get 1 rfl) (M.get 0 rfl)).mono ?_
 rintro e V3 ⟨a3, c3, o3, r3, rfl, g, g', rr, tw⟩
 have M' := (MemO.of (n := 4) M).upadd2 rr g g' tw
 clear M rr g g' tw
 have M := M'; clear M'
 refine hK _ _ ⟨trivial, ?_⟩
 clear hK K3
 have f0_0 := M.fr 0 rfl 0; have f0_1 := M.fr 0 rfl 1; have f0_2 := M.fr 0 rfl 2
 have z0_0 := M.cell 0 rfl 0 rfl; have z0_1 := M.cell 0 rfl 1 rfl; have z0_2 := M.cell 0 rfl 2 rfl
 refine one_op 9 rfl (fun Ks4 hK => ?_)
 go_simp
 have M' := (((M.put 0 rfl rfl 0 (.bool (qr Z).1)).put 0 rfl rfl 1 (.slice a3 (qr Z).2.1.length c3)).put 0 rfl rfl 2 (.slice o3 (qr Z).2.2.length r3))
 clear M f0_0 z0_0 f0_1 z0_1 f0_2 z0_2
 have M := M'; clear M'
 refine hK _ _ ⟨trivial, ?_⟩
 clear hK Ks4
 refine wdn ?_
 go_wp2
 refine ret_boxN rfl rfl (M.box 0 rfl) Tryz.underlying44 size_rat rfl ?_
 exact ⟨a3, c3, o3, r3, rfl, M.own 1 rfl, M.own 0 rfl, M.below, (M.two 0 1 rfl rfl).symm⟩
theorem rans_of {w : World} {X : Rat} {e : Ending} {w' : World} (h : (fun e w' => ∃ a c a' c', e = .returned (.agg #[.bool (qr X).1, .slice a (qr X).2.1.length c, .slice a' (qr X).2.2.length c']) ∧ Fresh w' w.heap.size (.slice a (qr X).2.1.length c) (qr X).2.1 ∧ Fresh w' w.heap.size (.slice a' (qr X).2.2.length c') (qr X).2.2 ∧ Below w.heap.size w w' ∧ Two (.slice a (qr X).2.1.length c) (.slice a' (qr X).2.2.length c')) e w') : RAns w X e w' := by
 obtain ⟨a, c, a', c', h1, h2, h3, h4, _⟩ := h
 exact ⟨a, c, a', c', h1, h2.reads, h3.reads, h4⟩
theorem v_sum : ∀ (n : Nat) {w : World} {a : Option Addr} {cap : Nat} {xs : List Rat} (_ : n = xs.length) (_ : VReads w (.slice a n cap) (xs.map qr)) (_ : wts xs ≤ 9000),
   Calls Tryz.prog 66 #[.slice a n cap] w (RAns w (rsum xs)) := by
 intro n
 induction n using Nat.strongRecOn with
 | ind n ih =>
 intro w a cap xs hn h hw
 have hcs : n = 0 ∨ n = 1 ∨ 2 ≤ n := by omega
 rcases hcs with rfl | rfl | h2
 · obtain rfl : xs = [] := List.eq_nil_of_length_eq_zero hn.symm
   exact v_sum_none.mono fun e w' h => rans_of h
 · obtain ⟨X, rfl⟩ : ∃ X, xs = [X] := by
    match xs, hn with
    | [X], _ => exact ⟨X, rfl⟩
   obtain ⟨hl, hcap, b, off, hA, hB⟩ := h.addr
   obtain ⟨rfl, hbl⟩ := hA (by omega)
   have hX : rsum [X] = X := by show X + 0 = X; grind
   rw [hX]
   have hB0 := hB 0 (qr X) rfl
   rw [show off + 0 * 3 = off by omega] at hB0
   obtain ⟨p, c, p', c', h0, h1, h2, g, g'⟩ := hB0
   unfold RAns
   generalize qr X = q at *
   obtain ⟨s, l, d⟩ := q
   dsimp only at h0 h1 h2 g g' ⊢
   clear ih h hw hn hA hB hl hX
   go_enter Tryz.func66, Tryz.ntmps66
   go_wp2_with fail
   refine ret_boxN rfl rfl (BoxN.new w 44 #[.bool s, .slice p l.length c, .slice p' d.length c']) Tryz.underlying44 size_rat rfl ?_
   have al : Below w.heap.size w (w.alloc (.cells #[.bool s, .slice p l.length c, .slice p' d.length c'] 44)) := (Below.refl _ _).alloc (Nat.le_refl _) _
   exact ⟨p, c, p', c', rfl, g.below al, g'.below al, al⟩
 · exact (v_sum_two n (fun m hm => ih m hm) h2 hn h hw).mono fun e w' h => rans_of h
end
section
open Go Go.RowKit Go.Shelf
def MidRound (P : Program) (l : Nat) (body : Code) (B : Nat) (I' : World → Prop) (Ix : Code → World → Prop) (W : World) (a : Act) (W1 : World) : Prop :=
 KeepsFrom B W W1 ∧ ∃ Im : World → Prop, Im W1 ∧ OwnFrom B (fun (_ : Unit) W => Im W) ∧ ∀ W2, Im W2 → body.wpIn (Fence.wide.inRound l) 0 P (roundEnd B I' Ix W2) a W2
theorem wp_rangeMid {P : Program} {g : Operand} {ps : Array Tmp} {assign body : Code} {Q : Exit → Act → World → Prop} {a : Act} {w : World}
   {gf : Nat} {lb : Array Value} (hg : a.eval g = .func (.func gf) #[] lb) (eg : ∀ args w, (callFunc gf args).run P w = .ok (.enter gf args) w)
   {N : Nat} {vals : Nat → Array Value} {B : Nat → World → Prop} (hseq : IterAt P gf lb N vals B) (hps : ∀ k, (vals k).size = ps.size)
   (I : Nat → World → Prop) (Ix : Code → World → Prop) (hI : OwnFrom w.heap.size I) (hIx : OwnFrom w.heap.size Ix) (hIB : ∀ k W, I k W → B k W) (h0 : I 0 w)
   (hround : ∀ (l k : Nat) (W : World), k < N → I k W →
     assign.wpIn (Fence.wide.inRound l) 0 P (Exit.then (MidRound P l body w.heap.size (I (k + 1)) Ix W) (fun _ _ _ => False)) { tmps := (ps.zip (vals k)).foldl (fun t (p, v) => t.setIfInBounds p v) a.tmps, defers := [] } W)
   (hdone : ∀ (D : Nat) (W : World), w.heap.size ≤ D → I N W → W.heap[D]? = some (.deferred (some [])) → Q .normal { a with defers := { target := .collected D, args := #[] } :: a.defers } W)
   (hstop : ∀ (D : Nat) (c : Code) (W : World), w.heap.size ≤ D → Ix c W → W.heap[D]? = some (.deferred (some [])) → c.wpIn Fence.wide 0 P Q { a with defers := { target := .collected D, args := #[] } :: a.defers } W) :
   (Code.rangeFunc g ps assign body).wpIn Fence.wide 0 P Q a w := by
 refine wpIn_rangeFunc fun fn _ => ?_
 -- the loop's record, in its states
 let rec_ : LoopState → Option Code → Loop := fun st pe => { state := st, pending := pe, fn, tmps := a.tmps, params := ps, assign, body, defers := w.heap.size }
 let L := w.heap.size + 1
 let W1 := (w.alloc (.deferred (some []))).alloc (.loop (rec_ .ready none))
 have hL1 : W1.heap[L]? = some (.loop (rec_ .ready none)) := by
   have := World.alloc_heap_new (w.alloc (.deferred (some []))) (.loop (rec_ .ready none)); rwa [World.size_alloc] at this
 have hK1 : W1.heap[w.heap.size]? = some (.deferred (some [])) := (Below.heap_alloc _ _ _ (by simp)).trans (World.alloc_heap_new w _)
 have hI1 : I 0 W1 := hI.alloc _ (hI.alloc _ h0)
 refine ⟨L, [{ target := .collected w.heap.size, args := #[] }], W1, { target := .fn (.func gf) lb, args := #[.func (.yield L) #[] #[]] }, W1, gf, #[.func (.yield L) #[] #[]] ++ lb, W1, run_enterLoop_outer _ _ _ _ _, ?_, fun _ _ => trivial, ?_, fun h => by simp [Fence.wide] at h, ?_⟩
 · simp only [resolve, hg]
   simp [go_sem]
 · simp [invoke, go_sem, eg]
 refine (hseq L (fun k W => I k W ∧ W.heap[L]? = some (.loop (rec_ .ready none)) ∧ W.heap[w.heap.size]? = some (.deferred (some [])))
     (fun W => ∃ c, Ix c W ∧ W.heap[L]? = some (.loop (rec_ .done (some c))) ∧ W.heap[w.heap.size]? = some (.deferred (some [])))
     W1 (fun k W h => hIB k W h.1) (fun k W h => ⟨hI _ _ _ none h.1 ⟨rfl, rfl, rfl, Nat.le_refl _, fun _ _ _ => rfl⟩ (fun _ e => by cases e), h.2.1, h.2.2⟩) ?_ ⟨hI1, hL1, hK1⟩).mono ?_
 · -- a round
   rintro k W ⟨hi, hl, hk⟩ hlt
   have hy := run_yield (P := P) (args := vals k) hl (hps k)
   refine ⟨fn, _, assign, body, hy, roundIn_of_wpIn trivial (wpIn_mono (hround L k W hlt hi) ?_)⟩
   have hLt : L < W.heap.size := (Array.getElem?_eq_some_iff.1 hl).1
   rintro e a1 W1' hn
   cases e with
   | normal => ?_
   | exit _ => exact hn.elim
   | goto _ => exact hn.elim
   | ret => exact hn.elim
   | panic _ => exact hn.elim
   | outgrown => exact hn.elim
   obtain ⟨hkf, Im, him, hown, hn⟩ := hn
   have hl' : W1'.heap[L]? = some (.loop (rec_ .ready none)) := hkf.same _ _ (by omega) hl rfl
   have hk' : W1'.heap[w.heap.size]? = some (.deferred (some [])) := hkf.same _ _ (Nat.le_refl _) hk rfl
   have hLt' : L < W1'.heap.size := (Array.getElem?_eq_some_iff.1 hl').1
   let W2 := W1'.putObj L (.loop { rec_ .ready none with state := .busy })
   have hl2 : W2.heap[L]? = some (.loop { rec_ .ready none with state := .busy }) := World.putObj_heap_same hLt'
   have hk2 : W2.heap[w.heap.size]? = some (.deferred (some [])) := (World.putObj_heap_other (by omega)).trans hk'
   refine ⟨_, run_beginRound hl' rfl, wpIn_mono (hn W2 (hown.putObj (s := ()) _ him (by omega) hl' rfl)) ?_⟩
   have fin : ∀ (jump : Option Code) (W3 : World), KeepsFrom w.heap.size W2 W3 →
      (Instr.endRound L jump).run P W3 = .ok (.bool jump.isNone) (W3.putObj L (.loop (rec_ (if jump.isNone then .ready else .done) jump))) ∧
      W3.heap[L]? = some (.loop { rec_ .ready none with state := .busy }) ∧
      (W3.putObj L (.loop (rec_ (if jump.isNone then .ready else .done) jump))).heap[L]? = some (.loop (rec_ (if jump.isNone then .ready else .done) jump)) ∧
      (W3.putObj L (.loop (rec_ (if jump.isNone then .ready else .done) jump))).heap[w.heap.size]? = some (.deferred (some [])) := fun jump W3 hk3 => by
     have hl3 := hk3.same _ _ (by omega) hl2 rfl
     exact ⟨run_endRound (P := P) jump hl3, hl3, World.putObj_heap_same (Array.getElem?_eq_some_iff.1 hl3).1, (World.putObj_heap_other (by omega)).trans (hk3.same _ _ (Nat.le_refl _) hk2 rfl)⟩
   rintro e a3 W3 hp
   cases e with
   | normal =>
     obtain ⟨hr, hl3, hl4, hk4⟩ := fin none W3 hp.1
     exact ⟨_, _, hr, .inl ⟨rfl, hI.putObj _ hp.2 (by omega) hl3 rfl, hl4, hk4⟩⟩
   | ret =>
     obtain ⟨hr, hl3, hl4, hk4⟩ := fin (some .ret) W3 hp.1
     exact ⟨_, _, hr, .inr ⟨rfl, .ret, hIx.putObj _ hp.2 (by omega) hl3 rfl, hl4, hk4⟩⟩
   | exit id =>
     obtain ⟨hr, hl3, hl4, hk4⟩ := fin (some (.exit id)) W3 hp.1
     exact ⟨_, _, hr, .inr ⟨rfl, .exit id, hIx.putObj _ hp.2 (by omega) hl3 rfl, hl4, hk4⟩⟩
   | goto t =>
     obtain ⟨hr, hl3, hl4, hk4⟩ := fin (some (.goto t)) W3 hp.1
     exact ⟨_, _, hr, .inr ⟨rfl, .goto t, hIx.putObj _ hp.2 (by omega) hl3 rfl, hl4, hk4⟩⟩
   | panic ch => exact hp.elim
   | outgrown => exact hp.elim
 · -- behind the iterator
   rintro e W2 ⟨⟨v, rfl⟩, (⟨hi, hl, hk⟩ | ⟨c, hi, hl, hk⟩)⟩
   · exact ⟨none, _, run_endLoop (P := P) hl (by simp [rec_]), hdone _ _ (Nat.le_refl _) (hI.putObj _ hi (by omega) hl rfl) ((World.putObj_heap_other (by omega)).trans hk)⟩
   · exact ⟨some c, _, run_endLoop (P := P) hl (by simp [rec_]), hstop _ c _ (Nat.le_refl _) (hIx.putObj _ hi (by omega) hl rfl) ((World.putObj_heap_other (by omega)).trans hk)⟩
end
section
open Go Go.Proofs Go.RowKit Go.Shelf Nu
def Row32 (W : World) (v : Value) : Prop := ∀ g, v.ownBlock = some g → ∃ cur e, W.heap[g]? = some (.cells cur e (0, 0)) ∧ ∀ u ∈ cur.toList, no32 u = true
theorem Row32.nil (W : World) : Row32 W (.slice none 0 0) := fun g h => by cases h
theorem Row32.kept {W W' : World} {v : Value} {row : Option Nat} (h : Row32 W v) (hg : W.grownBy W' row) (hne : v.ownBlock = none ∨ v.ownBlock ≠ row) : Row32 W' v := by
  intro g e
  obtain ⟨cur, t, h1, h2⟩ := h g e
  refine ⟨cur, t, ?_, h2⟩
  rw [hg.block g (Array.getElem?_eq_some_iff.1 h1).1 (by rcases hne with h | h; · rw [h] at e; cases e
                                                         · rwa [e] at h)]
  exact h1
theorem Row32.below {W W' : World} {v : Value} (h : Row32 W v) (hb : Below W.heap.size W W') : Row32 W' v := by
 intro g e
 obtain ⟨cur, t, h1, h2⟩ := h g e
 exact ⟨cur, t, (hb.block g (Array.getElem?_eq_some_iff.1 h1).1).trans h1, h2⟩
theorem Reads.ne32 {W : World} {v v0 : Value} {l : List Nat} {b off n cap : Nat} (h : Reads W v l) (e : v = .slice (some ⟨b, off, none⟩) n cap) (hl : l ≠ []) (h32 : Row32 W v0) : v0.ownBlock ≠ some b := by
 subst e
 intro hb
 obtain ⟨cur, t, h1, h2⟩ := h32 b hb
 rcases h with ⟨e, _⟩ | ⟨b', off', cap', e, _, _, hc⟩ | ⟨_, _, e⟩
 rotate_right
 · exact absurd e hl
 · cases e
 · cases e
   have := hc 0 (List.length_pos_iff.2 hl)
   unfold World.cell? at this
   rw [h1] at this
   have h3 : cur[off + 0]? = some (.int .u32 (l.getD 0 0 : Nat)) := by simpa using this
   have h4 := h2 _ (List.mem_of_getElem? (l := cur.toList) (by simpa using h3))
   simp [no32] at h4
theorem Reads.grown32 {W W' : World} {v v0 : Value} {l : List Nat} (h : Reads W v l) (hg : W.grownBy W' v0.ownBlock) (h32 : Row32 W v0) : Reads W' v l := by
 have h0 := h
 rcases h with h | ⟨b, off, cap, rfl, hb, hc, hl⟩ | h
 rotate_right
 · exact .inr (.inr h)
 · exact .inl h
 · refine .inr (.inl ⟨b, off, cap, rfl, Nat.lt_of_lt_of_le hb hg.size, hc, fun j hj => ?_⟩)
   have hne := h0.ne32 rfl (by rintro rfl; simp at hj) h32
   exact (World.cell?_of_block (hg.block b hb (fun e => hne e.symm))).trans (hl j hj)
theorem ZIn.grown {W W' : World} {v0 : Value} {z : Zr} (h : ZIn W z) (hg : W.grownBy W' v0.ownBlock) (h32 : Row32 W v0) : ZIn W' z := ⟨h.1.grown32 hg h32, h.2.grown32 hg h32⟩
def RRow (W : World) (base : Nat) (v : Value) (zs : List Zr) : Prop := W.ownsRow base 44 3 v zs.length (zcells zs) ∧ Row32 W v
def VF (W : World) (base : Nat) (v : Value) (zs : List Zr) : Prop := RRow W base v zs ∧ ∀ z ∈ zs, ZIn W z
theorem VF.nil (W : World) (base : Nat) : VF W base (.slice none 0 0) [] := ⟨⟨World.ownsRow_nil W base _ 3, Row32.nil W⟩, by simp⟩
theorem VF.fresh {W : World} {base : Nat} {v : Value} {zs : List Zr} (h : VF W base v zs) : VFresh W base v (zs.map (·.1)) := ⟨zs, rfl, h.1.1, h.2⟩
theorem VF.below {W W' : World} {base : Nat} {v : Value} {zs : List Zr} (h : VF W base v zs) (hb : Below W.heap.size W W') : VF W' base v zs :=
 ⟨⟨own_below h.1.1 hb, h.1.2.below hb⟩, fun z hz => (h.2 z hz).below hb⟩
theorem VF.alloc {W : World} {base : Nat} {v : Value} {zs : List Zr} (h : VF W base v zs) (o : Obj) : VF (W.alloc o) base v zs := h.below ((Below.refl _ _).alloc (Nat.le_refl _) o)
theorem VF.lt {W : World} {base g : Nat} {v : Value} {zs : List Zr} (h : VF W base v zs) (hg : v.ownBlock = some g) : base ≤ g ∧ g < W.heap.size := h.1.1.lt g hg
theorem VF.kept {W W' : World} {base : Nat} {v v0 : Value} {zs : List Zr} {row : Option Nat} (h : VF W base v zs) (hg : W.grownBy W' row) (hne : v.ownBlock = none ∨ v.ownBlock ≠ row) (e : row = v0.ownBlock) (h32 : Row32 W v0) : VF W' base v zs :=
 ⟨⟨World.ownsRow.kept h.1.1 hg hne, h.1.2.kept hg hne⟩, fun z hz => (h.2 z hz).grown (v0 := v0) (e ▸ hg) h32⟩
theorem VF.off {W W' : World} {base M : Nat} {v : Value} {zs : List Zr} {row : Option Nat} (h : VF W base v zs) (hg : W.grownBy W' row) (hr : OffCells M row W) : VF W' base v zs := by
 have hne : v.ownBlock = none ∨ v.ownBlock ≠ row := by
  rcases h.1.1.2 with ⟨rfl, _⟩ | ⟨g, cap, cur, rfl, _, hgb, _⟩
  · exact .inl rfl
  · refine .inr fun e' => ?_
    obtain ⟨_, o, ho, hc⟩ := hr g (by simpa [Value.ownBlock] using e'.symm)
    rw [hgb] at ho; cases ho; cases hc
 refine ⟨⟨World.ownsRow.kept h.1.1 hg hne, h.1.2.kept hg hne⟩, fun z hz => ?_⟩
 have key : ∀ {x : Value} {l : List Nat}, Reads W x l → Reads W' x l := by
  intro x l hx
  have h0 := hx
  rcases hx with hx | ⟨b, off, cap, rfl, hb, hc, hl⟩ | hx
  rotate_right
  · exact .inr (.inr hx)
  · exact .inl hx
  · refine .inr (.inl ⟨b, off, cap, rfl, Nat.lt_of_lt_of_le hb hg.size, hc, fun j hj => ?_⟩)
    have hne : some b ≠ row := by
     intro e
     obtain ⟨_, o, ho, hcc⟩ := hr b e.symm
     have := hl j hj
     unfold World.cell? at this
     rw [ho] at this
     cases o <;> simp at this
     cases hcc
    exact (World.cell?_of_block (hg.block b hb hne)).trans (hl j hj)
 exact ⟨key (h.2 z hz).1, key (h.2 z hz).2⟩
theorem VF.form {W : World} {base : Nat} {v : Value} {zs : List Zr} (h : VF W base v zs) : ∃ a cap, v = .slice a zs.length cap := by
 rcases h.1.1.2 with ⟨rfl, h0⟩ | ⟨g, cap, cur, rfl, _⟩
 · exact ⟨none, 0, by rw [h0]⟩
 · exact ⟨_, cap, rfl⟩
def zrat : Array Value := #[.bool false, .slice none 0 0, .slice none 0 0]
theorem zrat_no (i : Nat) : no32 zrat[i % zrat.size]! = true := by
 have h : i % 3 = 0 ∨ i % 3 = 1 ∨ i % 3 = 2 := by omega
 show no32 zrat[i % 3]! = true
 rcases h with h | h | h <;> rw [h] <;> rfl
theorem zcell_no (z : Zr) : ∀ u ∈ zcell z, no32 u = true := by
 intro u hu
 simp only [zcell, List.mem_cons, List.not_mem_nil, or_false] at hu
 rcases hu with rfl | rfl | rfl <;> rfl
theorem zcells_no (zs : List Zr) : ∀ u ∈ zcells zs, no32 u = true := by
 intro u hu
 obtain ⟨z, _, h⟩ := List.mem_flatMap.1 hu
 exact zcell_no z u h
section
variable {i : TypeInfo} (hi : Tryz.prog.info? 44 = some i) (hz : i.zero = some (.agg zrat)) (h1 : i.size = 3) (h2 : i.bytes = 56)
include hi hz h1 h2
theorem run_make_rat (w : World) (base : Nat) (kl kc : IntKind) (c : Nat) (hc : c ≤ 100000) (hb : base ≤ w.heap.size) :
  ∃ w', (Instr.makeSlice 30 (.int kl 0) (.int kc (c : Int))).run Tryz.prog w = .ok (.slice (some ⟨w.heap.size, 0, none⟩) 0 c) w' ∧ VF w' base (.slice (some ⟨w.heap.size, 0, none⟩) 0 c) [] ∧ w.grownBy w' none := by
 have hr := run_make (P := Tryz.prog) w 30 44 i (.agg zrat) Tryz.underlying30 hi hz kl kc 0 c (Int.le_refl _) (by omega) (by rw [h2]; omega) (by omega)
 simp only [Int.toNat_zero, Int.toNat_natCast] at hr
 refine ⟨_, hr, ⟨⟨World.ownsRow_made w _ c hb (by unfold maxLen; omega) (by rw [size_madeCells, h1]), ?_⟩, by simp⟩, World.grownBy_alloc w _ none⟩
 intro g e
 obtain rfl : w.heap.size = g := by simpa [Value.ownBlock] using e
 refine ⟨_, _, heap_alloc_new w _, fun u hu => ?_⟩
 obtain ⟨j, _, rfl⟩ : ∃ j, j < c * i.size ∧ (Value.agg zrat).cells[j % (Value.agg zrat).cells.size]! = u := by simpa [madeCells] using hu
 exact zrat_no j
theorem run_append_rat (w0 : World) (ty : TypeId) (base : Nat) (v : Value) (zs : List Zr) (z : Zr) (hown : VF w0 base v zs) (hin : ZIn w0 z) (hb : base ≤ w0.heap.size) (hl : zs.length ≤ 100000) :
   ∃ v' w', (Builtin.append_ #[30, 30] ty #[v, .slice (some ⟨w0.heap.size, 0, none⟩) 1 1]).run Tryz.prog (w0.alloc (.cells (zcell z).toArray 44)) = .ok v' w' ∧ VF w' base v' (zs ++ [z]) ∧ (w0.alloc (.cells (zcell z).toArray 44)).grownBy w' v.ownBlock := by
 obtain ⟨w, hw⟩ : ∃ w, w = w0.alloc (.cells (zcell z).toArray 44) := ⟨_, rfl⟩
 have hV : VF w base v zs := hw ▸ hown.alloc _
 have hZ : ZIn w z := hw ▸ hin.below ((Below.refl _ _).alloc (Nat.le_refl _) _)
 have hsz : w.heap.size = w0.heap.size + 1 := by rw [hw, World.size_alloc]
 have hblk : w.heap[w0.heap.size]? = some (.cells (zcell z).toArray 44 (0, 0)) := by rw [hw]; exact heap_alloc_new w0 _
 have hnews : ∀ j u, (zcell z)[j]? = some u → w.cell? ((⟨w0.heap.size, 0, none⟩ : Addr).add j) = some u := by
   intro j u hu
   rw [show (⟨w0.heap.size, 0, none⟩ : Addr).add j = ⟨w0.heap.size, j, none⟩ by rw [Addr.add_lit]; simp]
   unfold World.cell?
   rw [hblk]
   simpa using hu
 rw [← hw]
 have hone : ∀ u ∈ zcell z, u.oneCell' = true := by
   intro u hu
   simp only [zcell, List.mem_cons, List.not_mem_nil, or_false] at hu
   rcases hu with rfl | rfl | rfl <;> rfl
 have hcl : (zcell z).length = 1 * i.size := by rw [h1]; rfl
 obtain ⟨v', w', hrun, ho, hg, hnil⟩ := run_append_own (P := Tryz.prog) w base 30 ty 44 i (.agg zrat) 3 56 Tryz.underlying30 hi hz h1 h2 rfl (by omega) v zs.length (zcells zs) hV.1.1 ⟨w0.heap.size, 0, none⟩ 1 1 (zcell z) rfl hnews hone (by unfold maxLen; omega) (by omega) (by omega)
 refine ⟨v', w', hrun, ⟨⟨?_, ?_⟩, fun y hy => ?_⟩, hg⟩
 · rw [List.length_append, zcells_snoc]; exact ho
 · rcases hV.1.1.2 with ⟨rfl, hn0⟩ | ⟨g, cap, cur, rfl, hbg, hgb, hnc, hcm, hcs, htake⟩
   · have hr := run_append_nil (P := Tryz.prog) w 30 ty 44 i (.agg zrat) Tryz.underlying30 hi hz ⟨w0.heap.size, 0, none⟩ 1 1 (zcell z) hcl hnews (by omega) (by omega) (by rw [h2]; omega)
     rw [hr] at hrun
     cases hrun
     intro g e
     obtain rfl : w.heap.size = g := by simpa [Value.ownBlock] using e
     refine ⟨_, _, heap_alloc_new w.drew _, fun u hu => ?_⟩
     simp only [Array.toList_append, List.mem_append] at hu
     rcases hu with hu | hu
     · exact zcell_no z u hu
     · obtain ⟨j, _, rfl⟩ : ∃ j, j < (grownCap w 1 0 44 - 1) * (Value.agg zrat).cells.size ∧ (Value.agg zrat).cells[j % (Value.agg zrat).cells.size]! = u := by simpa [Builtin.zeroCells] using hu
       exact zrat_no j
   · obtain ⟨cur', e', hgb', h32⟩ := hV.1.2 g rfl
     rw [hgb] at hgb'
     cases hgb'
     by_cases hroom : zs.length + 1 ≤ cap
     · have hr := run_append_room (P := Tryz.prog) w 30 ty 44 i Tryz.underlying30 hi g zs.length cap cur hgb ⟨w0.heap.size, 0, none⟩ 1 1 (zcell z) hcl hnews hone hroom (by rw [hcl, h1, hcs, ← Nat.add_mul]; exact Nat.mul_le_mul_right _ hroom)
       rw [hr] at hrun
       cases hrun
       intro g2 e
       obtain rfl : g = g2 := by simpa [Value.ownBlock] using e
       refine ⟨_, _, setRow_heap w g cur _ _ _ hgb, fun u hu => ?_⟩
       simp only [List.mem_append] at hu
       rcases hu with (hu | hu) | hu
       · exact h32 u (List.mem_of_mem_take hu)
       · exact zcell_no z u hu
       · exact h32 u (List.mem_of_mem_drop hu)
     · have holds : ∀ j u, (zcells zs)[j]? = some u → w.cell? ((⟨g, 0, none⟩ : Addr).add j) = some u := hV.1.1.cells (g := g) rfl
       have hr := run_append_grow (P := Tryz.prog) w 30 ty 44 i (.agg zrat) Tryz.underlying30 hi hz ⟨g, 0, none⟩ zs.length cap (zcells zs) (by rw [h1]; exact zcells_len zs) holds ⟨w0.heap.size, 0, none⟩ 1 1 (zcell z) hcl hnews (by omega) (by omega) (growslice_fits (by omega) (by rw [h2]; omega))
       rw [hr] at hrun
       cases hrun
       intro g2 e
       obtain rfl : w.heap.size = g2 := by simpa [Value.ownBlock] using e
       refine ⟨_, _, heap_alloc_new w.drew _, fun u hu => ?_⟩
       simp only [Array.toList_append, List.mem_append] at hu
       rcases hu with (hu | hu) | hu
       · exact zcells_no zs u hu
       · exact zcell_no z u hu
       · obtain ⟨j, _, rfl⟩ : ∃ j, j < (grownCap w (zs.length + 1) cap 44 - (zs.length + 1)) * (Value.agg zrat).cells.size ∧ (Value.agg zrat).cells[j % (Value.agg zrat).cells.size]! = u := by simpa [Builtin.zeroCells] using hu
         exact zrat_no j
 · rcases List.mem_append.1 hy with hy | hy
   · exact (hV.2 y hy).grown hg hV.1.2
   · obtain rfl : y = z := by simpa using hy
     exact hZ.grown hg hV.1.2
end
theorem rat_append {W w3 : World} {base : Nat} {v : Value} {zs : List Zr} {tmp : Obj} (hrow : VF W base v zs) (hb : base ≤ W.heap.size) (hgrow : (W.alloc tmp).grownBy w3 v.ownBlock) :
   KeepsOthers W w3 ∧ Below base W w3 ∧ (∀ B t u, t ≠ 44 → Boxed W B t u → Boxed w3 B t u) ∧ (∀ (D : Nat) (o : Obj), W.heap[D]? = some o → o.isCells = false → w3.heap[D]? = some o) := by
 have hne : ∀ (D : Nat) (o : Obj), W.heap[D]? = some o → o.isCells = false → some D ≠ v.ownBlock := by
   intro D o hD ho
   rcases hrow.1.1.2 with ⟨rfl, _⟩ | ⟨g, cap, cur, rfl, _, hgb, _⟩
   · simp [Value.ownBlock]
   · intro e
     obtain rfl : D = g := by simpa [Value.ownBlock] using e
     rw [hgb] at hD; cases hD; cases ho
 have hD : ∀ (D : Nat) (o : Obj), W.heap[D]? = some o → o.isCells = false → w3.heap[D]? = some o := fun D o hD ho => by
   have hlt := (Array.getElem?_eq_some_iff.1 hD).1
   have h1 : (W.alloc tmp).heap[D]? = some o := (Below.heap_alloc W tmp D hlt).trans hD
   exact (hgrow.block D (by simp; omega) (hne D o hD ho)).trans h1
 refine ⟨⟨by have := hgrow.size; simp at this; omega, hD⟩, ?_, ?_, hD⟩
 · refine ((Below.refl base W).alloc hb tmp).grown hgrow (by simp; omega) fun j ej => ?_
   exact (hrow.lt ej).1
 · intro B t u ht hB
   exact (hB.alloc tmp).kept hgrow (hB.not_row ht hrow.1.1)
/-! ### the walk's laws -/
theorem wpList_make_rat {i : TypeInfo} (hi : Tryz.prog.info? 44 = some i) (hz : i.zero = some (.agg zrat)) (h1 : i.size = 3) (h2 : i.bytes = 56) (w : World) {ops : Array Oper} {rest : List Oper} {o : Oper} {a : Act} {Q : Exit → Act → World → Prop}
  (hg : o.guard = none) (l c : Operand) (hop : o.op = Op.makeSlice 30 l c) (base : Nat) (kl kc : IntKind) (n : Nat) (hl : a.eval l = .int kl 0) (hc : a.eval c = .int kc (n : Int)) (hn : n ≤ 100000) (hb : base ≤ w.heap.size)
  (hK : ∀ w', VF w' base (.slice (some ⟨w.heap.size, 0, none⟩) 0 n) [] → w.grownBy w' none → wpList Tryz.prog ops Q rest (a.put o.dst (.slice (some ⟨w.heap.size, 0, none⟩) 0 n)) w') :
  wpList Tryz.prog ops Q (o :: rest) a w := by
 refine wpList_plain hg fun K hK' => ?_
 obtain ⟨w', hrun, r1, r2⟩ := run_make_rat hi hz h1 h2 w base kl kc n hn hb
 unfold Oper.wp
 simp [execOp, hop, hl, hc, hrun, Result.andThen]
 exact hK' _ _ (hK w' r1 r2)
theorem wpList_append_rat {i : TypeInfo} (hi : Tryz.prog.info? 44 = some i) (hz : i.zero = some (.agg zrat)) (h1 : i.size = 3) (h2 : i.bytes = 56) (w0 : World) {ops : Array Oper} {rest : List Oper} {o : Oper} {a : Act} {Q : Exit → Act → World → Prop}
  (hg : o.guard = none) (s x : Operand) (hop : o.op = Op.call { callee := Callee.builtin Builtin.append, args := #[s, x], argTypes := #[30, 30] })
  (base : Nat) (v : Value) (zs : List Zr) (z : Zr) (hs : a.eval s = v) (hx : a.eval x = .slice (some ⟨w0.heap.size, 0, none⟩) 1 1) (hown : VF w0 base v zs) (hin : ZIn w0 z) (hb : base ≤ w0.heap.size) (hl : zs.length ≤ 100000)
  (hK : ∀ v' w', VF w' base v' (zs ++ [z]) → (w0.alloc (.cells (zcell z).toArray 44)).grownBy w' v.ownBlock → wpList Tryz.prog ops Q rest (a.put o.dst v') w') :
  wpList Tryz.prog ops Q (o :: rest) a (w0.alloc (.cells (zcell z).toArray 44)) := by
 refine wpList_plain hg fun K hK' => ?_
 obtain ⟨v', w', hrun, r1, r2⟩ := run_append_rat hi hz h1 h2 w0 o.type base v zs z hown hin hb hl
 unfold Oper.wp
 simp only [execOp, hop, resolve, invoke, builtin, Sem.run_bind, Sem.run_pure, Result.andThen_ok, List.map_toArray, List.map_cons, List.map_nil, hs, hx, hrun]
 exact hK' _ _ (hK v' w' r1 r2)
theorem wp_append_rat {i : TypeInfo} (hi : Tryz.prog.info? 44 = some i) (hz : i.zero = some (.agg zrat)) (h1 : i.size = 3) (h2 : i.bytes = 56) (w0 : World) {o : Oper} {a : Act} {K : Act → World → Prop} {Q : Exit → Act → World → Prop}
  (s x : Operand) (hop : o.op = Op.call { callee := Callee.builtin Builtin.append, args := #[s, x], argTypes := #[30, 30] })
  (base : Nat) (v : Value) (zs : List Zr) (z : Zr) (hs : a.eval s = v) (hx : a.eval x = .slice (some ⟨w0.heap.size, 0, none⟩) 1 1) (hown : VF w0 base v zs) (hin : ZIn w0 z) (hb : base ≤ w0.heap.size) (hl : zs.length ≤ 100000)
  (hK : ∀ v' w', VF w' base v' (zs ++ [z]) → (w0.alloc (.cells (zcell z).toArray 44)).grownBy w' v.ownBlock → K (a.put o.dst v') w') :
  o.wp Tryz.prog a (w0.alloc (.cells (zcell z).toArray 44)) K Q := by
 obtain ⟨v', w', hrun, r1, r2⟩ := run_append_rat hi hz h1 h2 w0 o.type base v zs z hown hin hb hl
 unfold Oper.wp
 simp only [execOp, hop, resolve, invoke, builtin, Sem.run_bind, Sem.run_pure, Result.andThen_ok, List.map_toArray, List.map_cons, List.map_nil, hs, hx, hrun]
 exact hK v' w' r1 r2
theorem boxed_under {W W' : World} {B : Nat} {t : TypeId} {v : Value} (h : Boxed W B t v) (r : Below W.heap.size W W') : Boxed W' B t v := (r.block B (Array.getElem?_eq_some_iff.1 (show W.heap[B]? = _ from h)).1).trans h
theorem BoxN.under {W W' : World} {B : Nat} {t : TypeId} {cs : Array Value} (h : BoxN W B t cs) (r : Below W.heap.size W W') : BoxN W' B t cs := (r.block B h.lt).trans h
end
section
open Go Go.Proofs Go.RowKit Go.Shelf Nu
attribute [local go_sem] Oper.semAt_some
theorem keepBoxN {W W' : World} {M : Nat} {row : Option Nat} {B : Nat} {t : TypeId} {cs : Array Value} (h : BoxN W B t cs) (hg : W.grownBy W' row) (hr : OffCells M row W) : BoxN W' B t cs := by
 refine (hg.block B h.lt fun e => ?_).trans h
 obtain ⟨_, o, ho, hc⟩ := hr B e.symm
 rw [show W.heap[B]? = _ from h] at ho; cases ho; cases hc
def JInv (w : World) (F0 v1 v2 : Value) (s : Nat) (zs : List Rat) (k : Nat) (W : World) : Prop :=
  (∃ (v : Value) (ys : List Zr), ys.map (·.1) = (zs.take k).map qr ∧ Boxed W s 30 v ∧ VF W w.heap.size v ys) ∧
  Boxed W w.heap.size 86 F0 ∧ Boxed W (s + 1) 30 v1 ∧ Boxed W (s + 1 + 1) 30 v2 ∧ Below w.heap.size w W
theorem JInv.own {w : World} {F0 v1 v2 : Value} {s : Nat} {zs : List Rat} {M : Nat} (hM : w.heap.size ≤ M) : OwnFrom M (JInv w F0 v1 v2 s zs) := by
 rintro k W W' row ⟨⟨v, ys, h0, h1, h2⟩, h3, h4, h5, h6⟩ hg hr
 exact ⟨⟨v, ys, h0, keepBox h1 hg hr, h2.off hg hr⟩, keepBox h3 hg hr, keepBox h4 hg hr, keepBox h5 hg hr, keepBelow h6 (Nat.le_refl _) hM hg hr⟩
def JMid (w : World) (v : Value) (ys : List Zr) (F0 v1 v2 : Value) (s B1 B2 : Nat) (c1 c2 : Array Value) (_ : Unit) (W : World) : Prop :=
 Boxed W s 30 v ∧ VF W w.heap.size v ys ∧ Boxed W w.heap.size 86 F0 ∧ Boxed W (s + 1) 30 v1 ∧ Boxed W (s + 1 + 1) 30 v2 ∧ Below w.heap.size w W ∧ BoxN W B1 44 c1 ∧ BoxN W B2 44 c2
theorem JMid.own {w : World} {v : Value} {ys : List Zr} {F0 v1 v2 : Value} {s B1 B2 : Nat} {c1 c2 : Array Value} {M : Nat} (hM : w.heap.size ≤ M) : OwnFrom M (JMid w v ys F0 v1 v2 s B1 B2 c1 c2) := by
 rintro u W W' row ⟨h1, h2, h3, h4, h5, h6, h7, h8⟩ hg hr
 exact ⟨keepBox h1 hg hr, h2.off hg hr, keepBox h3 hg hr, keepBox h4 hg hr, keepBox h5 hg hr, keepBelow h6 (Nat.le_refl _) hM hg hr, keepBoxN h7 hg hr, keepBoxN h8 hg hr⟩
theorem keeps_below {W W' : World} (r : Below W.heap.size W W') : KeepsOthers W W' := ⟨r.size, fun k _ hk _ => (r.block k (Array.getElem?_eq_some_iff.1 hk).1).trans hk⟩
theorem grown_off {W W' : World} {B : Nat} {t : TypeId} {cs : Array Value} {row : Option Nat} (h : BoxN W B t cs) (hg : W.grownBy W' row) (hne : row = some B → False) : BoxN W' B t cs := (hg.block B h.lt fun e => hne e.symm).trans h
theorem VF.box {W : World} {base B : Nat} {v : Value} {zs : List Zr} {t : TypeId} {u : Value} (h : VF W base v zs) (hB : Boxed W B t u) (ht : t ≠ 44) (hu : no32 u = true) (x : Value) : VF (W.setCell ⟨B, 0, none⟩ x) base v zs := by
 have hne : v.ownBlock = none ∨ v.ownBlock ≠ some B := .inr (hB.not_row ht h.1.1).symm
 refine ⟨⟨World.ownsRow.kept h.1.1 (grownBy_setCell' W B x) hne, h.1.2.kept (grownBy_setCell' W B x) hne⟩, fun z hz => ?_⟩
 have hb : BoxN W B t ([u] : List Value).toArray := hB
 exact ⟨(h.2 z hz).1.put hb (by simp [hu]) 0 x, (h.2 z hz).2.put hb (by simp [hu]) 0 x⟩
theorem take_qr {zs : List Rat} {ys : List Zr} {k : Nat} {z : Zr} (hk : k < zs.length) (h : ys.map (·.1) = (zs.take k).map qr) (hz : z.1 = qr (zs.getD k 0)) : (ys ++ [z]).map (·.1) = (zs.take (k + 1)).map qr := by
 have e : zs.take (k + 1) = zs.take k ++ [zs.getD k 0] := by
  rw [List.take_add_one, List.getD_eq_getElem?_getD, List.getElem?_eq_getElem hk]; rfl
 rw [e, List.map_append, List.map_append, h, List.map_singleton, List.map_singleton, hz]
theorem v_joined {w : World} {a1 a2 : Option Addr} {n c1 c2 : Nat} {qs1 qs2 : List Qr} {J : Nat} {caps : Array Value} {zs : List Rat} (h1 : VReads w (.slice a1 n c1) qs1) (h2 : VReads w (.slice a2 n c2) qs2) (hn : n ≤ 65536) (hzs : zs.length = n)
  (eJ : ∀ (args : Array Value) (w : World), (callFunc J args).run Tryz.prog w = .ok (.enter J args) w)
  (kJ : ∀ (W : World) (j : Nat) (z1 z2 : Zr), j < n → z1.1 = qs1.getD j default → z2.1 = qs2.getD j default → ZIn W z1 → ZIn W z2 → Below w.heap.size w W → Calls Tryz.prog J (#[zval z1, zval z2] ++ caps) W (RAns W (zs.getD j 0))) :
  Calls Tryz.prog 56 #[.slice a1 n c1, .slice a2 n c2, .func (.func J) #[] caps] w fun e w' => ∃ v, e = .returned v ∧ VFresh w' w.heap.size v (zs.map qr) ∧ Below w.heap.size w w' := by
 obtain ⟨i0, hi, hz0, hz1, hz2⟩ := info_parts info_rat
 have hd1 := h1.addr.2.1
 have hd2 := h2.addr.2.1
 obtain ⟨b1, o1, f, hA1, hf⟩ := h1.fn
 obtain ⟨b2, o2, g, hA2, hg⟩ := h2.fn
 have HF := Lib.hid hf
 have HG := Lib.hid hg
 have HK := Lib.hid kJ
 have HA1 := Lib.hid hA1
 have HA2 := Lib.hid hA2
 have HZ := Lib.hid hzs
 clear h1 h2 hf hg kJ hA1 hA2 hzs
 refine (callsIn_wide (n := 0)).1 ?_
 refine callsIn_of_wp_marks Tryz.func56 rfl trivial ?_ rfl
 simp only [Tryz.ntmps56, List.size_toArray, List.length_cons, List.length_nil, Nat.reduceAdd, Nat.reduceSub, Array.replicate_succ, Array.replicate_zero, List.push_toArray, List.append_toArray, List.nil_append, List.cons_append]
 refine wpIn_wide.2 ?_
 go_wp2_with (first
    | (at_make; go_loud (refine wpList_make_rat hi hz0 hz1 hz2 _ rfl _ _ rfl w.heap.size .i64 .i64 n rfl rfl (by omega) (by simp) ?_); intro w1 hV1 hgrow1)
    | (go_at_call 53; refine (places_any _ _ _ _ _ _ _).mono ?_; rintro e w' ⟨rfl, rfl⟩))
 have hs1 : (w.alloc (.cells #[.func (.func J) #[] caps] 86)).heap.size ≤ w1.heap.size := hgrow1.size
 have hs2 : w.heap.size + 1 ≤ w1.heap.size := by simpa using hs1
 have hbel1 : Below w.heap.size w w1 := ((Below.refl _ _).alloc (Nat.le_refl _) _).grown hgrow1 (by simp) (fun _ e => by cases e)
 have hbx : Boxed w1 w.heap.size 86 (.func (.func J) #[] caps) := (Boxed.new w _ _).kept hgrow1 (by simp)
 clear hs1
 simp only [World.size_alloc] at hV1
 refine (wpIn_wide (n := 0)).1 ?_
 refine wp_rangeMid (gf := 101) rfl (enters_of Tryz.func101 (by kernel_rfl) rfl)
  (places_iter n b1 o1 b2 o2 c1 c2 (w1.heap.size + 1) (w1.heap.size + 1 + 1) a1 a2 f g hn (fun h => (HA1.out h).1) (fun h => (HA2.out h).1) hd1 hd2) (fun _ => rfl)
  (JInv w (.func (.func J) #[] caps) (.slice a1 n c1) (.slice a2 n c2) w1.heap.size zs) (fun _ _ => False) (JInv.own (by simp; omega)) (fun _ _ _ _ h _ _ => h)
  (fun k W h => ⟨h.2.2.1.cell, h.2.2.2.1.cell, fun hk => ⟨(HF.out k hk).2.1.below (HA1.out (by omega)).2 h.2.2.2.2, (HG.out k hk).2.1.below (HA2.out (by omega)).2 h.2.2.2.2⟩⟩) ?start ?round ?done ?stop
 case start =>
  refine ⟨⟨_, [], rfl, ((Boxed.new w1 _ _).alloc _).alloc _, ((hV1.alloc _).alloc _).alloc _⟩, ((hbx.alloc _).alloc _).alloc _, (boxed_new1 w1 _ _ _).alloc _, boxed_new2 w1 _ _ _ _, ?_⟩
  exact ((hbel1.alloc (by omega) _).alloc (by simp; omega) _).alloc (by simp; omega) _
 case round =>
  intro l k W hk hinv
  have hfk := HF.out k hk
  have hgk := HG.out k hk
  generalize f k = z1 at *
  generalize g k = z2 at *
  obtain ⟨⟨s, l1, d1⟩, ⟨p, c⟩, p', c'⟩ := z1
  obtain ⟨⟨s', l2, d2⟩, ⟨q, e⟩, q', e'⟩ := z2
  dsimp only [zval]
  have HFK := Lib.hid hfk
  have HGK := Lib.hid hgk
  obtain ⟨⟨v, ys, hmap, hbv, hV⟩, hbf, hb1, hb2, hbel⟩ := hinv
  have hlt : ∀ g, v.ownBlock = some g → g < W.heap.size := fun g e => (hV.lt e).2
  have hyl : ys.length = k := by
    have := congrArg List.length hmap
    simp only [List.length_map, List.length_take] at this
    have := HZ.out; omega
  obtain ⟨av, cv, ev⟩ := hV.form
  rw [hyl] at ev
  subst ev
  have hWs : w.heap.size ≤ W.heap.size := hbel.size
  have hWs2 : w1.heap.size + 1 + 1 < W.heap.size := (Array.getElem?_eq_some_iff.1 (show W.heap[w1.heap.size + 1 + 1]? = _ from hb2)).1
  have hmid : JMid w (.slice av k cv) ys (.func (.func J) #[] caps) (.slice a1 n c1) (.slice a2 n c2) w1.heap.size W.heap.size (W.heap.size + 1) #[.bool s, .slice p l1.length c, .slice p' d1.length c'] #[.bool s', .slice q l2.length e, .slice q' d2.length e'] () ((W.alloc (.cells #[.bool s, .slice p l1.length c, .slice p' d1.length c'] 44)).alloc (.cells #[.bool s', .slice q l2.length e, .slice q' d2.length e'] 44)) :=
    ⟨(hbv.alloc _).alloc _, (hV.alloc _).alloc _, (hbf.alloc _).alloc _, (hb1.alloc _).alloc _, (hb2.alloc _).alloc _, (hbel.alloc hWs _).alloc (by simp; omega) _, (BoxN.new W _ _).alloc _, BoxN.new1 W _ _ _⟩
  have HMAP := Lib.hid hmap
  have HLT := Lib.hid hlt
  have HYL := Lib.hid hyl
  have HMID := Lib.hid hmid
  clear hfk hgk hmap hlt hyl hmid hbv hV hbf hb1 hb2 hbel
  gi_wp2
  refine ⟨((KeepsOthers.alloc W _).trans (KeepsOthers.alloc _ _)).from _, _, HMID.out, JMid.own (by first | omega | (simp; omega)), ?_⟩
  rintro W2 ⟨hbv, hV, hbf, hb1, hb2, hbel, hx1, hx2⟩
  have r1 := hbv.cell
  have r2 := hbv.frozen
  have r3 := hbf.cell
  have x0 := hx1.cell 0 _ rfl
  have x1 := hx1.cell 1 _ rfl
  have x2 := hx1.cell 2 _ rfl
  have y0 := hx2.cell 0 _ rfl
  have y1 := hx2.cell 1 _ rfl
  have y2 := hx2.cell 2 _ rfl
  have HBV := Lib.hid hbv
  have HV0 := Lib.hid hV
  have HBF0 := Lib.hid hbf
  have HB10 := Lib.hid hb1
  have HB20 := Lib.hid hb2
  have HBEL0 := Lib.hid hbel
  have HX10 := Lib.hid hx1
  have HX20 := Lib.hid hx2
  clear hbv hV hbf hb1 hb2 hbel hx1 hx2
  gi_wp2_with (refine region_held_in (Lets.round l) (fun V => Boxed V w.heap.size 86 (.func (.func J) #[] caps) ∧ BoxN V W.heap.size 44 #[.bool s, .slice p l1.length c, .slice p' d1.length c'] ∧ BoxN V (W.heap.size + 1) 44 #[.bool s', .slice q l2.length e, .slice q' d2.length e']) (by kernel_rfl) (by kernel_rfl) (by rintro ⟨_, _, h⟩; exact h) (Stop.of ?_))
  refine Stop.mk ?_
  clear r1 r2 r3 x0 x1 x2 y0 y1 y2 HMID
  have dr : Below W2.heap.size W2 W2.drew := ⟨rfl, rfl, rfl, Nat.le_refl _, fun _ _ => rfl⟩
  have HB7 := Lib.hid (boxed_under HBV.out dr)
  have HBF := Lib.hid (boxed_under HBF0.out dr)
  have HB1 := Lib.hid (boxed_under HB10.out dr)
  have HB2 := Lib.hid (boxed_under HB20.out dr)
  have HX1 := Lib.hid (HX10.out.under dr)
  have HX2 := Lib.hid (HX20.out.under dr)
  have HV := Lib.hid (HV0.out.below dr)
  have HBEL := Lib.hid (then_below HBEL0.out dr)
  have hS0 : (fun V => Boxed V w.heap.size 86 (.func (.func J) #[] caps) ∧ BoxN V W.heap.size 44 #[.bool s, .slice p l1.length c, .slice p' d1.length c'] ∧ BoxN V (W.heap.size + 1) 44 #[.bool s', .slice q l2.length e, .slice q' d2.length e']) W2.drew := ⟨HBF.out, HX1.out, HX2.out⟩
  refine wtk 1 (.func (.func J) #[] caps) rfl (fun _ _ _ h => h) (Or.inl ⟨by rfl, fun W3 hS => by obtain ⟨hS1, _, _⟩ := hS; have c1 := hS1.cell; go_simp⟩) hS0 ?_
  refine wtk 2 (.agg #[.bool s, .slice p l1.length c, .slice p' d1.length c']) rfl (fun _ _ _ h => h) (Or.inl ⟨by rfl, fun W3 hS => by obtain ⟨_, hS1, _⟩ := hS; have c0 := hS1.cell 0 _ rfl; have c1 := hS1.cell 1 _ rfl; have c2 := hS1.cell 2 _ rfl; go_simp⟩) hS0 ?_
  refine wtk 3 (.agg #[.bool s', .slice q l2.length e, .slice q' d2.length e']) rfl (fun _ _ _ h => h) (Or.inl ⟨by rfl, fun W3 hS => by obtain ⟨_, _, hS1⟩ := hS; have c0 := hS1.cell 0 _ rfl; have c1 := hS1.cell 1 _ rfl; have c2 := hS1.cell 2 _ rfl; go_simp⟩) hS0 ?_
  clear hS0
  try simp only [Act.put, List.setIfInBounds_toArray, List.set_cons_zero, List.set_cons_succ]
  have hzi1 := (HFK.out.2.2.below HBEL0.out).below dr
  have hzi2 := (HGK.out.2.2.below HBEL0.out).below dr
  have kc := HK.out W2.drew k _ _ hk HFK.out.1 HGK.out.1 hzi1 hzi2 HBEL.out
  obtain ⟨X, hX⟩ : ∃ X, X = zs.getD k 0 := ⟨_, rfl⟩
  rw [← hX] at kc
  have HX := Lib.hid hX
  unfold RAns at kc
  dsimp only [zval] at kc
  clear hzi1 hzi2 hX
  refine two_op 0 4 ?_ ?_
  · have r1 := HB7.out.cell
    refine wpOp_intro rfl (fun K2 hK => ?_)
    go_simp
    refine hK _ _ ⟨⟨HBF.out, HX1.out, HX2.out⟩, ?_⟩
    clear hK K2 r1
    refine one_op 4 rfl (fun K1 hK => ?_)
    go_simp
    refine kc.mono ?_
    rintro ex V1 ⟨a3, c3, o3, r3, rfl, g3, g3', rr⟩
    have HB7' := Lib.hid (boxed_under HB7.out rr)
    have HBF' := Lib.hid (boxed_under HBF.out rr)
    have HB1' := Lib.hid (boxed_under HB1.out rr)
    have HB2' := Lib.hid (boxed_under HB2.out rr)
    have HX1' := Lib.hid (HX1.out.under rr)
    have HX2' := Lib.hid (HX2.out.under rr)
    have HV' := Lib.hid (HV.out.below rr)
    have HBEL' := Lib.hid (then_below HBEL.out rr)
    have HKP := Lib.hid ((KeepsOthers.drew W2).trans (keeps_below rr))
    clear kc rr HB7 HBF HB1 HB2 HX1 HX2 HV HBEL
    refine hK _ _ ⟨⟨HBF'.out, HX1'.out, HX2'.out⟩, ?_⟩
    clear hK K1
    refine one_op 5 rfl (fun K3 hK => ?_)
    go_simp
    refine hK _ _ ⟨⟨HBF'.out.alloc _, HX1'.out.alloc _, HX2'.out.alloc _⟩, ?_⟩
    clear hK K3
    refine one_op 6 rfl (fun K4 hK => ?_)
    rw [if_pos (by rfl)]
    refine wp_append_rat hi hz0 hz1 hz2 V1 _ _ rfl w.heap.size (.slice av k cv) ys (qr X, (a3, c3), (o3, r3)) rfl rfl HV'.out ⟨g3, g3'⟩ HBEL'.out.size (by have := HYL.out; omega) ?_
    intro v' w3 hV3 hgrow
    obtain ⟨hKO, hBl, hBx, -⟩ := rat_append HV'.out HBEL'.out.size hgrow
    have HKP3 := Lib.hid (HKP.out.trans hKO)
    have hb7 := hBx _ _ _ (by decide) HB7'.out
    have hbf := hBx _ _ _ (by decide) HBF'.out
    have hb1 := hBx _ _ _ (by decide) HB1'.out
    have hb2 := hBx _ _ _ (by decide) HB2'.out
    have hx1 := grown_off (HX1'.out.alloc _) hgrow (fun e => by have := HLT.out _ e; omega)
    have hx2 := grown_off (HX2'.out.alloc _) hgrow (fun e => by have := HLT.out _ e; omega)
    have hbel3 := HBEL'.out.trans hBl
    obtain ⟨av', cv', ev'⟩ := hV3.form
    rw [List.length_append, List.length_singleton] at ev'
    subst ev'
    have HB73 := Lib.hid hb7
    have HBF3 := Lib.hid hbf
    have HB13 := Lib.hid hb1
    have HB23 := Lib.hid hb2
    have HX13 := Lib.hid hx1
    have HX23 := Lib.hid hx2
    have HV3 := Lib.hid hV3
    have HBEL3 := Lib.hid hbel3
    have r1 := hb7.cell
    have r2 := hb7.frozen
    clear hKO hBl hBx hb7 hbf hb1 hb2 hx1 hx2 hbel3 hV3 hgrow HB7' HBF' HB1' HB2' HX1' HX2' HV' HBEL' HKP
    refine hK _ _ ⟨⟨HBF3.out, HX13.out, HX23.out⟩, ?_⟩
    clear hK K4
    refine one_op 7 rfl (fun K5 hK => ?_)
    go_simp
    have HB7f := Lib.hid (HB73.out.set (.slice av' (ys.length + 1) cv'))
    have HBFf := Lib.hid (HBF3.out.other (B' := w1.heap.size) (by omega) (.slice av' (ys.length + 1) cv'))
    refine hK _ _ ⟨⟨HBFf.out, HX13.out.other (by omega) _, HX23.out.other (by omega) _⟩, ?_⟩
    clear hK K5 r1 r2
    refine wdn ?_
    refine ⟨(HKP3.out.trans (KeepsOthers.setCell w3 _ _)).from _, ⟨⟨_, _, take_qr (by have := HZ.out; omega) HMAP.out (by rw [HX.out]), HB7f.out, HV3.out.box HB73.out (by decide) rfl _⟩, HBFf.out, HB13.out.other (by omega) _, HB23.out.other (by omega) _, HBEL3.out.setCell (p := ⟨w1.heap.size, 0, none⟩) (by simp; omega) _⟩⟩
  · refine wpOp_intro rfl (fun K1 hK => ?_)
    go_simp
    refine kc.mono ?_
    rintro ex V1 ⟨a3, c3, o3, r3, rfl, g3, g3', rr⟩
    have HB7' := Lib.hid (boxed_under HB7.out rr)
    have HBF' := Lib.hid (boxed_under HBF.out rr)
    have HB1' := Lib.hid (boxed_under HB1.out rr)
    have HB2' := Lib.hid (boxed_under HB2.out rr)
    have HX1' := Lib.hid (HX1.out.under rr)
    have HX2' := Lib.hid (HX2.out.under rr)
    have HV' := Lib.hid (HV.out.below rr)
    have HBEL' := Lib.hid (then_below HBEL.out rr)
    have HKP := Lib.hid ((KeepsOthers.drew W2).trans (keeps_below rr))
    clear kc rr HB7 HBF HB1 HB2 HX1 HX2 HV HBEL
    refine hK _ _ ⟨⟨HBF'.out, HX1'.out, HX2'.out⟩, ?_⟩
    clear hK K1
    refine two_op 0 5 ?_ ?_
    · have r1 := HB7'.out.cell
      refine wpOp_intro rfl (fun K2 hK => ?_)
      go_simp
      refine hK _ _ ⟨⟨HBF'.out, HX1'.out, HX2'.out⟩, ?_⟩
      clear hK K2 r1
      refine one_op 5 rfl (fun K3 hK => ?_)
      go_simp
      refine hK _ _ ⟨⟨HBF'.out.alloc _, HX1'.out.alloc _, HX2'.out.alloc _⟩, ?_⟩
      clear hK K3
      refine one_op 6 rfl (fun K4 hK => ?_)
      rw [if_pos (by rfl)]
      refine wp_append_rat hi hz0 hz1 hz2 V1 _ _ rfl w.heap.size (.slice av k cv) ys (qr X, (a3, c3), (o3, r3)) rfl rfl HV'.out ⟨g3, g3'⟩ HBEL'.out.size (by have := HYL.out; omega) ?_
      intro v' w3 hV3 hgrow
      obtain ⟨hKO, hBl, hBx, -⟩ := rat_append HV'.out HBEL'.out.size hgrow
      have HKP3 := Lib.hid (HKP.out.trans hKO)
      have hb7 := hBx _ _ _ (by decide) HB7'.out
      have hbf := hBx _ _ _ (by decide) HBF'.out
      have hb1 := hBx _ _ _ (by decide) HB1'.out
      have hb2 := hBx _ _ _ (by decide) HB2'.out
      have hx1 := grown_off (HX1'.out.alloc _) hgrow (fun e => by have := HLT.out _ e; omega)
      have hx2 := grown_off (HX2'.out.alloc _) hgrow (fun e => by have := HLT.out _ e; omega)
      have hbel3 := HBEL'.out.trans hBl
      obtain ⟨av', cv', ev'⟩ := hV3.form
      rw [List.length_append, List.length_singleton] at ev'
      subst ev'
      have HB73 := Lib.hid hb7
      have HBF3 := Lib.hid hbf
      have HB13 := Lib.hid hb1
      have HB23 := Lib.hid hb2
      have HX13 := Lib.hid hx1
      have HX23 := Lib.hid hx2
      have HV3 := Lib.hid hV3
      have HBEL3 := Lib.hid hbel3
      have r1 := hb7.cell
      have r2 := hb7.frozen
      clear hKO hBl hBx hb7 hbf hb1 hb2 hx1 hx2 hbel3 hV3 hgrow HB7' HBF' HB1' HB2' HX1' HX2' HV' HBEL' HKP
      refine hK _ _ ⟨⟨HBF3.out, HX13.out, HX23.out⟩, ?_⟩
      clear hK K4
      refine one_op 7 rfl (fun K5 hK => ?_)
      go_simp
      have HB7f := Lib.hid (HB73.out.set (.slice av' (ys.length + 1) cv'))
      have HBFf := Lib.hid (HBF3.out.other (B' := w1.heap.size) (by omega) (.slice av' (ys.length + 1) cv'))
      refine hK _ _ ⟨⟨HBFf.out, HX13.out.other (by omega) _, HX23.out.other (by omega) _⟩, ?_⟩
      clear hK K5 r1 r2
      refine wdn ?_
      refine ⟨(HKP3.out.trans (KeepsOthers.setCell w3 _ _)).from _, ⟨⟨_, _, take_qr (by have := HZ.out; omega) HMAP.out (by rw [HX.out]), HB7f.out, HV3.out.box HB73.out (by decide) rfl _⟩, HBFf.out, HB13.out.other (by omega) _, HB23.out.other (by omega) _, HBEL3.out.setCell (p := ⟨w1.heap.size, 0, none⟩) (by simp; omega) _⟩⟩
    · refine wpOp_intro rfl (fun K3 hK => ?_)
      go_simp
      refine hK _ _ ⟨⟨HBF'.out.alloc _, HX1'.out.alloc _, HX2'.out.alloc _⟩, ?_⟩
      clear hK K3
      refine wpAnyH_all (rs := [0]) (by kernel_rfl) (by simp) ?_
      intro i hii
      obtain rfl : i = 0 := by simpa using hii
      clear hii
      have r1 := (HB7'.out.alloc (.cells #[.bool (qr X).1, .slice a3 (qr X).2.1.length c3, .slice o3 (qr X).2.2.length r3] 44)).cell
      refine wpOp_intro rfl (fun K2 hK => ?_)
      go_simp
      refine hK _ _ ⟨⟨HBF'.out.alloc _, HX1'.out.alloc _, HX2'.out.alloc _⟩, ?_⟩
      clear hK K2 r1
      refine one_op 6 rfl (fun K4 hK => ?_)
      rw [if_pos (by rfl)]
      refine wp_append_rat hi hz0 hz1 hz2 V1 _ _ rfl w.heap.size (.slice av k cv) ys (qr X, (a3, c3), (o3, r3)) rfl rfl HV'.out ⟨g3, g3'⟩ HBEL'.out.size (by have := HYL.out; omega) ?_
      intro v' w3 hV3 hgrow
      obtain ⟨hKO, hBl, hBx, -⟩ := rat_append HV'.out HBEL'.out.size hgrow
      have HKP3 := Lib.hid (HKP.out.trans hKO)
      have hb7 := hBx _ _ _ (by decide) HB7'.out
      have hbf := hBx _ _ _ (by decide) HBF'.out
      have hb1 := hBx _ _ _ (by decide) HB1'.out
      have hb2 := hBx _ _ _ (by decide) HB2'.out
      have hx1 := grown_off (HX1'.out.alloc _) hgrow (fun e => by have := HLT.out _ e; omega)
      have hx2 := grown_off (HX2'.out.alloc _) hgrow (fun e => by have := HLT.out _ e; omega)
      have hbel3 := HBEL'.out.trans hBl
      obtain ⟨av', cv', ev'⟩ := hV3.form
      rw [List.length_append, List.length_singleton] at ev'
      subst ev'
      have HB73 := Lib.hid hb7
      have HBF3 := Lib.hid hbf
      have HB13 := Lib.hid hb1
      have HB23 := Lib.hid hb2
      have HX13 := Lib.hid hx1
      have HX23 := Lib.hid hx2
      have HV3 := Lib.hid hV3
      have HBEL3 := Lib.hid hbel3
      have r1 := hb7.cell
      have r2 := hb7.frozen
      clear hKO hBl hBx hb7 hbf hb1 hb2 hx1 hx2 hbel3 hV3 hgrow HB7' HBF' HB1' HB2' HX1' HX2' HV' HBEL' HKP
      refine hK _ _ ⟨⟨HBF3.out, HX13.out, HX23.out⟩, ?_⟩
      clear hK K4
      refine one_op 7 rfl (fun K5 hK => ?_)
      go_simp
      have HB7f := Lib.hid (HB73.out.set (.slice av' (ys.length + 1) cv'))
      have HBFf := Lib.hid (HBF3.out.other (B' := w1.heap.size) (by omega) (.slice av' (ys.length + 1) cv'))
      refine hK _ _ ⟨⟨HBFf.out, HX13.out.other (by omega) _, HX23.out.other (by omega) _⟩, ?_⟩
      clear hK K5 r1 r2
      refine wdn ?_
      refine ⟨(HKP3.out.trans (KeepsOthers.setCell w3 _ _)).from _, ⟨⟨_, _, take_qr (by have := HZ.out; omega) HMAP.out (by rw [HX.out]), HB7f.out, HV3.out.box HB73.out (by decide) rfl _⟩, HBFf.out, HB13.out.other (by omega) _, HB23.out.other (by omega) _, HBEL3.out.setCell (p := ⟨w1.heap.size, 0, none⟩) (by simp; omega) _⟩⟩
 case done =>
  rintro D W hD ⟨⟨v, ys, hmap, hbv, hV⟩, hbf, hb1, hb2, hbel⟩ hK
  rw [List.take_of_length_le (by have := HZ.out; omega)] at hmap
  have HMAP := Lib.hid hmap
  have HV := Lib.hid hV
  have HBEL := Lib.hid hbel
  obtain ⟨av, cv, rfl⟩ := hV.form
  have hc := hbv.cell
  clear hmap hV hbv hbf hb1 hb2 hbel
  go_wp2
  refine ⟨by simp, .inl ⟨_, _, rfl, run_takeDeferred hK, ?_⟩⟩
  refine ⟨_, results_tmp rfl _ _ _, _, rfl, ?_, below_left _ HBEL.out (by simp at hD; omega) hK rfl⟩
  have := (HV.out.off (grownBy_putObj' W D (.deferred none)) (offCells_putObj (M := 0) (Nat.zero_le _) hK rfl)).fresh
  rw [HMAP.out] at this
  exact this
 case stop =>
  rintro D c W _ h _
  exact h.elim
theorem v_addfn {w : World} {B : Nat} {X Y T : Rat} {p1 o1 p2 o2 pb ob : Option Addr} {q1 r1 q2 r2 qb rb : Nat} (hB : BoxN w B 44 #[.bool (qr T).1, .slice pb (qr T).2.1.length qb, .slice ob (qr T).2.2.length rb]) (hw : wt X + wt Y + wt T ≤ 9000)
  (g1 : Reads w (.slice p1 (qr X).2.1.length q1) (qr X).2.1) (g2 : Reads w (.slice o1 (qr X).2.2.length r1) (qr X).2.2) (g3 : Reads w (.slice p2 (qr Y).2.1.length q2) (qr Y).2.1) (g4 : Reads w (.slice o2 (qr Y).2.2.length r2) (qr Y).2.2) (g5 : Reads w (.slice pb (qr T).2.1.length qb) (qr T).2.1) (g6 : Reads w (.slice ob (qr T).2.2.length rb) (qr T).2.2) :
  Calls Tryz.prog 57 #[.agg #[.bool (qr X).1, .slice p1 (qr X).2.1.length q1, .slice o1 (qr X).2.2.length r1], .agg #[.bool (qr Y).1, .slice p2 (qr Y).2.1.length q2, .slice o2 (qr Y).2.2.length r2], .pointer (some ⟨B, 0, none⟩)] w (RAns w (X + Y * T)) := by
 have wp := wt_mul Y T
 have fX := fit_qr (X := X) (by omega)
 have fY := fit_qr (X := Y) (by omega)
 have fT := fit_qr (X := T) (by omega)
 have fP := fit_qr (X := Y * T) (by omega)
 have km := fun (W : World) {p1 o1 p2 o2 : Option Addr} {q1 r1 q2 r2 : Nat} (g1 : Reads W (.slice p1 (qr Y).2.1.length q1) (qr Y).2.1) (g2 : Reads W (.slice o1 (qr Y).2.2.length r1) (qr Y).2.2) (g3 : Reads W (.slice p2 (qr T).2.1.length q2) (qr T).2.1) (g4 : Reads W (.slice o2 (qr T).2.2.length r2) (qr T).2.2) =>
  r_mul (qr_can Y).is (qr_can T).is (qr_can (Y * T)) rfl fY.2.1 fY.2.2 fT.2.1 fT.2.2 g1 g2 g3 g4
 have ka := fun (W : World) {p1 o1 p2 o2 : Option Addr} {q1 r1 q2 r2 : Nat} (g1 : Reads W (.slice p1 (qr X).2.1.length q1) (qr X).2.1) (g2 : Reads W (.slice o1 (qr X).2.2.length r1) (qr X).2.2) (g3 : Reads W (.slice p2 (qr (Y * T)).2.1.length q2) (qr (Y * T)).2.1) (g4 : Reads W (.slice o2 (qr (Y * T)).2.2.length r2) (qr (Y * T)).2.2) =>
  r_add (qr_can X).is (qr_can (Y * T)).is (qr_can (X + Y * T)) rfl fX.2.1 fX.2.2 fP.2.1 fP.2.2 g1 g2 g3 g4
 have M : Mem w [(w.heap.size + 1 + 1, 44, [.bool false, .slice none 0 0, .slice none 0 0]), (w.heap.size + 1, 44, [.bool (qr Y).1, .slice p2 (qr Y).2.1.length q2, .slice o2 (qr Y).2.2.length r2]), (w.heap.size, 44, [.bool (qr X).1, .slice p1 (qr X).2.1.length q1, .slice o1 (qr X).2.2.length r1])]
   [(.slice ob (qr T).2.2.length rb, (qr T).2.2), (.slice pb (qr T).2.1.length qb, (qr T).2.1), (.slice o2 (qr Y).2.2.length r2, (qr Y).2.2), (.slice p2 (qr Y).2.1.length q2, (qr Y).2.1), (.slice o1 (qr X).2.2.length r1, (qr X).2.2), (.slice p1 (qr X).2.1.length q1, (qr X).2.1)]
   (((w.alloc (.cells #[.bool (qr X).1, .slice p1 (qr X).2.1.length q1, .slice o1 (qr X).2.2.length r1] 44)).alloc (.cells #[.bool (qr Y).1, .slice p2 (qr Y).2.1.length q2, .slice o2 (qr Y).2.2.length r2] 44)).alloc (.cells #[.bool false, .slice none 0 0, .slice none 0 0] 44)) := by
  have M := ((((((((((Mem.start w).add g1).add g2).add g3).add g4).add g5).add g6).new 44 [.bool (qr X).1, .slice p1 (qr X).2.1.length q1, .slice o1 (qr X).2.2.length r1]).new 44 [.bool (qr Y).1, .slice p2 (qr Y).2.1.length q2, .slice o2 (qr Y).2.2.length r2]).new 44 [.bool false, .slice none 0 0, .slice none 0 0])
  simpa only [World.size_alloc] using M
 clear g1 g2 g3 g4 g5 g6 fX fY fT fP wp hw
 unfold RAns
 obtain ⟨qZ, hqZ⟩ : ∃ q, q = qr (X + Y * T) := ⟨_, rfl⟩
 rw [← hqZ] at ka ⊢
 obtain ⟨qP, hqP⟩ : ∃ q, q = qr (Y * T) := ⟨_, rfl⟩
 rw [← hqP] at km ka
 clear hqZ hqP
 generalize qr X = qX at *
 generalize qr Y = qY at *
 generalize qr T = qT at *
 go_enter Tryz.func57, Tryz.ntmps57
 go_wp2
 refine region_mem (S := (fun W => BoxN W (w.heap.size) 44 #[.bool qX.1, .slice p1 qX.2.1.length q1, .slice o1 qX.2.2.length r1] ∧ BoxN W (w.heap.size + 1) 44 #[.bool qY.1, .slice p2 qY.2.1.length q2, .slice o2 qY.2.2.length r2] ∧ BoxN W B 44 #[.bool qT.1, .slice pb qT.2.1.length qb, .slice ob qT.2.2.length rb])) M (by kernel_rfl) ?_
 intro V0 M
 have hS0 : (fun W => BoxN W (w.heap.size) 44 #[.bool qX.1, .slice p1 qX.2.1.length q1, .slice o1 qX.2.2.length r1] ∧ BoxN W (w.heap.size + 1) 44 #[.bool qY.1, .slice p2 qY.2.1.length q2, .slice o2 qY.2.2.length r2] ∧ BoxN W B 44 #[.bool qT.1, .slice pb qT.2.1.length qb, .slice ob qT.2.2.length rb]) V0 := ⟨M.box 2 rfl, M.box 1 rfl, M.old hB⟩
 refine wtk 0 (.agg #[.bool qX.1, .slice p1 qX.2.1.length q1, .slice o1 qX.2.2.length r1]) rfl (fun _ _ _ h => h) (Or.inl ⟨by rfl, fun W3 hS => by obtain ⟨hS1, _, _⟩ := hS; have c0 := hS1.cell 0 _ rfl; have c1 := hS1.cell 1 _ rfl; have c2 := hS1.cell 2 _ rfl; go_simp⟩) hS0 ?_
 refine wtk 1 (.agg #[.bool qY.1, .slice p2 qY.2.1.length q2, .slice o2 qY.2.2.length r2]) rfl (fun _ _ _ h => h) (Or.inl ⟨by rfl, fun W3 hS => by obtain ⟨_, hS1, _⟩ := hS; have c0 := hS1.cell 0 _ rfl; have c1 := hS1.cell 1 _ rfl; have c2 := hS1.cell 2 _ rfl; go_simp⟩) hS0 ?_
 refine wtk 2 (.agg #[.bool qT.1, .slice pb qT.2.1.length qb, .slice ob qT.2.2.length rb]) rfl (fun _ _ _ h => h) (Or.inl ⟨by rfl, fun W3 hS => by obtain ⟨_, _, hS1⟩ := hS; have c0 := hS1.cell 0 _ rfl; have c1 := hS1.cell 1 _ rfl; have c2 := hS1.cell 2 _ rfl; go_simp⟩) hS0 ?_
 clear hS0
 try simp only [Act.put, List.setIfInBounds_toArray, List.set_cons_zero, List.set_cons_succ]
 refine one_op 3 rfl (fun K1 hK => ?_)
 go_simp
 refine (km _ (M.get 3 rfl) (M.get 2 rfl) (M.get 1 rfl) (M.get 0 rfl)).mono ?_
 rintro e V1 ⟨a1, c1, a1', c1', rfl, g, g', rr⟩
 have M' := ((M.up rr).add g).add g'
 clear M rr g g'
 have M := M'; clear M'
 refine hK _ _ ⟨⟨M.box 2 rfl, M.box 1 rfl, M.old hB⟩, ?_⟩
 clear hK K1
 refine one_op 4 rfl (fun K2 hK => ?_)
 go_simp
 refine (ka _ (M.get 7 rfl) (M.get 6 rfl) (M.get 1 rfl) (M.get 0 rfl)).mono ?_
 rintro e V2 ⟨a2, c2, a2', c2', rfl, g, g', rr⟩
 have M' := ((M.up rr).add g).add g'
 clear M rr g g'
 have M := M'; clear M'
 refine hK _ _ ⟨⟨M.box 2 rfl, M.box 1 rfl, M.old hB⟩, ?_⟩
 clear hK K2
 have f0_0 := M.fr 0 rfl 0; have f0_1 := M.fr 0 rfl 1; have f0_2 := M.fr 0 rfl 2
 have z0_0 := M.cell 0 rfl 0 rfl; have z0_1 := M.cell 0 rfl 1 rfl; have z0_2 := M.cell 0 rfl 2 rfl
 refine one_op 5 rfl (fun Ks4 hK => ?_)
 go_simp
 have M' := (((M.put 0 rfl rfl 0 (.bool qZ.1)).put 0 rfl rfl 1 (.slice a2 qZ.2.1.length c2)).put 0 rfl rfl 2 (.slice a2' qZ.2.2.length c2'))
 clear M f0_0 z0_0 f0_1 z0_1 f0_2 z0_2
 refine hK _ _ ⟨⟨M'.box 2 rfl, M'.box 1 rfl, M'.old hB⟩, ?_⟩
 clear hK Ks4
 refine wdn ?_
 go_wp2
 refine ret_boxN rfl rfl (M'.box 0 rfl) Tryz.underlying44 size_rat rfl ?_
 exact ⟨a2, c2, a2', c2', rfl, M'.get 1 rfl, M'.get 0 rfl, M'.below⟩
theorem ret_boxN_tmpV {fn : Func} {p q : Tmp} {ty t : TypeId} {R : Ending → World → Prop} {a : Act} {w : World} {B : Nat} {cs : Array Value} {x : Value} {fs : Array Field} (h : fn.results = #[.cell p ty, .tmp q]) (hp : a.tmps.getD p undef = .pointer (some ⟨B, 0, none⟩)) (hx : a.tmps.getD q undef = x) (hg : BoxN w B t cs)
    (hu : Tryz.prog.underlying ty = some (.struct fs)) (hi : (Tryz.prog.info? ty).map (·.size) = some cs.size) (hde : a.defers = []) (hR : R (.returned (.tuple #[.agg cs, x])) w) : bodyPost Tryz.prog fn R .ret a w := by
  refine bodyPost_ret (v := .tuple #[.agg cs, x]) ?_ hde hR
  rw [results_cell_tmp h, hp, hx]
  simp [asAddr, run_loadVar_row (P := Tryz.prog) w B t ty cs (0, 0) (.struct fs) hg hu rfl hi, Result.andThen]
theorem qr_at {xs : List Rat} {j : Nat} (h : j < xs.length) : (xs.map qr).getD j default = qr (xs.getD j 0) := by
 rw [List.getD_eq_getElem?_getD, List.getElem?_map, List.getD_eq_getElem?_getD, List.getElem?_eq_getElem h]; rfl
theorem zmul_at {xs ys : List Rat} {j : Nat} (h1 : j < xs.length) (h2 : j < ys.length) : (zmul xs ys).getD j 0 = xs.getD j 0 * ys.getD j 0 := by
 simp [zmul, List.getD_eq_getElem?_getD, List.getElem?_zipWith, List.getElem?_eq_getElem h1, List.getElem?_eq_getElem h2]
theorem axpy_at {t : Rat} {xs ys : List Rat} {j : Nat} (h1 : j < xs.length) (h2 : j < ys.length) : (axpy t xs ys).getD j 0 = xs.getD j 0 + ys.getD j 0 * t := by
 simp [axpy, List.getD_eq_getElem?_getD, List.getElem?_zipWith, List.getElem?_eq_getElem h1, List.getElem?_eq_getElem h2]
theorem wt_at {xs : List Rat} {j : Nat} (h : j < xs.length) : wt (xs.getD j 0) ≤ wts xs := by
 refine wt_mem ?_
 rw [List.getD_eq_getElem?_getD, List.getElem?_eq_getElem h]; exact List.getElem_mem h
theorem at_mem {xs : List Rat} {j : Nat} (h : j < xs.length) : xs.getD j 0 ∈ xs := by
 rw [List.getD_eq_getElem?_getD, List.getElem?_eq_getElem h]; exact List.getElem_mem h
theorem fit_each {xs : List Rat} (h : ∀ x ∈ xs, wt x ≤ 9999) : ∀ q ∈ xs.map qr, Fit q := by
 intro q hq; obtain ⟨x, hx, rfl⟩ := List.mem_map.1 hq; exact fit_qr (h x hx)
theorem v_mulfn {w : World} {xs ys : List Rat} {n : Nat} (hx : xs.length = n) (hy : ys.length = n) (hw : wts xs + wts ys ≤ 9000) :
  ∀ (W : World) (j : Nat) (z1 z2 : Zr), j < n → z1.1 = (xs.map qr).getD j default → z2.1 = (ys.map qr).getD j default → ZIn W z1 → ZIn W z2 → Below w.heap.size w W → Calls Tryz.prog 59 (#[zval z1, zval z2] ++ #[]) W (RAns W ((zmul xs ys).getD j 0)) := by
 intro W j z1 z2 hj e1 e2 i1 i2 _
 rw [qr_at (by omega)] at e1 e2
 have w1 := wt_at (xs := xs) (j := j) (by omega)
 have w2 := wt_at (xs := ys) (j := j) (by omega)
 rw [zmul_at (by omega) (by omega)]
 have hm := wt_mul (xs.getD j 0) (ys.getD j 0)
 generalize xs.getD j 0 = X at *
 generalize ys.getD j 0 = Y at *
 obtain ⟨q1, s1, t1⟩ := z1
 obtain ⟨q2, s2, t2⟩ := z2
 dsimp only at e1 e2
 subst e1 e2
 have fX := fit_qr (X := X) (by omega)
 have fY := fit_qr (X := Y) (by omega)
 exact r_mul (qr_can X).is (qr_can Y).is (qr_can (X * Y)) rfl fX.2.1 fX.2.2 fY.2.1 fY.2.2 i1.1 i1.2 i2.1 i2.2
theorem v_dot {w : World} {a1 a2 : Option Addr} {n c1 c2 : Nat} {xs ys : List Rat} (h1 : VReads w (.slice a1 n c1) (xs.map qr)) (h2 : VReads w (.slice a2 n c2) (ys.map qr)) (hw : wts xs + wts ys ≤ 8900) :
  Calls Tryz.prog 27 #[.slice a1 n c1, .slice a2 n c2] w fun e w' => ∃ a c a' c', e = .returned (.tuple #[.agg #[.bool (qr (dot xs ys)).1, .slice a (qr (dot xs ys)).2.1.length c, .slice a' (qr (dot xs ys)).2.2.length c'], .int .i64 0]) ∧ Reads w' (.slice a (qr (dot xs ys)).2.1.length c) (qr (dot xs ys)).2.1 ∧ Reads w' (.slice a' (qr (dot xs ys)).2.2.length c') (qr (dot xs ys)).2.2 ∧ Below w.heap.size w w' := by
 have al : Below w.heap.size w (w.alloc (.cells #[.bool false, .slice none 0 0, .slice none 0 0] 44)) := (Below.refl _ _).alloc (Nat.le_refl _) _
 have M : Mem w [(w.heap.size, 44, [.bool false, .slice none 0 0, .slice none 0 0])] [] (w.alloc (.cells #[.bool false, .slice none 0 0, .slice none 0 0] 44)) := (Mem.start w).new _ _
 have hx : xs.length = n := by have := h1.addr.1; simpa using this.symm
 have hy : ys.length = n := by have := h2.addr.1; simpa using this.symm
 have l1 := wts_len xs
 have l2 := wts_len ys
 have fx := fit_qrs (xs := xs) (by omega)
 have fy := fit_qrs (xs := ys) (by omega)
 have k1 := v_match true (by rw [all_qok_qr, all_qok_qr]; simp) (h1.below al) (h2.below al) ⟨fx, by simp; omega⟩ ⟨fy, by simp; omega⟩
 have hzl : (zmul xs ys).length = n := by simp [zmul, hx, hy]
 have hzw := wts_zmul xs ys
 have k2 := fun (W : World) (r : Below w.heap.size w W) => v_joined (h1.below r) (h2.below r) (by omega) hzl (enters_of Tryz.func59 (by kernel_rfl) rfl) (v_mulfn (w := W) hx hy (by omega))
 have k3 := fun (W : World) {a : Option Addr} {cap : Nat} (h : VReads W (.slice a n cap) ((zmul xs ys).map qr)) => v_sum n hzl.symm h (by omega)
 have hd : rsum (zmul xs ys) = dot xs ys := rfl
 rw [hd] at k3
 unfold RAns at k3
 generalize qr (dot xs ys) = q at *
 have ezl : ((zmul xs ys).map qr).length = n := by simp [hzl]
 generalize (zmul xs ys).map qr = zq at *
 clear h1 h2 hw hx hy l1 l2 fx fy hzl hzw hd
 go_enter Tryz.func27, Tryz.ntmps27
 go_wp2_with fail
 refine k1.mono ?_
 rintro e w1 ⟨rfl, rr⟩
 have M' := M.up rr
 clear M rr k1
 have M := M'; clear M'
 go_wp2_with fail
 refine (k2 _ M.below).mono ?_
 rintro e w2 ⟨v, rfl, hv, rr⟩
 have hr := hv.reads
 obtain ⟨av, cv, ev⟩ := hr.form
 rw [ezl] at ev
 subst ev
 have M' := M.up rr
 have k4 := k3 _ hr
 clear M rr k2 hv hr k3 ezl
 have M := M'; clear M'
 go_wp2_with fail
 refine k4.mono ?_
 rintro e w3 ⟨a3, c3, o3, r3, rfl, g, g', rr⟩
 have M' := ((M.up rr).add g).add g'
 clear M rr k4 g g'
 have f0 := M'.fr 0 rfl 0; have f1 := M'.fr 0 rfl 1; have f2 := M'.fr 0 rfl 2
 have z0 := M'.cell 0 rfl 0 rfl; have z1 := M'.cell 0 rfl 1 rfl; have z2 := M'.cell 0 rfl 2 rfl
 go_wp2_with fail
 have M := (((M'.put 0 rfl rfl 0 (.bool q.1)).put 0 rfl rfl 1 (.slice a3 q.2.1.length c3)).put 0 rfl rfl 2 (.slice o3 q.2.2.length r3))
 refine ret_boxN_tmpV rfl rfl rfl (M.box 0 rfl) Tryz.underlying44 size_rat rfl ?_
 exact ⟨a3, c3, o3, r3, rfl, M.get 1 rfl, M.get 0 rfl, M.below⟩
theorem v_axfn {w : World} {B : Nat} {T : Rat} {pb ob : Option Addr} {qb rb : Nat} {xs ys : List Rat} {n : Nat} (hB : BoxN w B 44 #[.bool (qr T).1, .slice pb (qr T).2.1.length qb, .slice ob (qr T).2.2.length rb]) (g5 : Reads w (.slice pb (qr T).2.1.length qb) (qr T).2.1) (g6 : Reads w (.slice ob (qr T).2.2.length rb) (qr T).2.2) (hx : xs.length = n) (hy : ys.length = n) (hwx : ∀ x ∈ xs, wt x ≤ 3000) (hwy : ∀ y ∈ ys, wt y ≤ 3000) (hwT : wt T ≤ 3000) :
  ∀ (W : World) (j : Nat) (z1 z2 : Zr), j < n → z1.1 = (xs.map qr).getD j default → z2.1 = (ys.map qr).getD j default → ZIn W z1 → ZIn W z2 → Below w.heap.size w W → Calls Tryz.prog 57 (#[zval z1, zval z2] ++ #[.pointer (some ⟨B, 0, none⟩)]) W (RAns W ((axpy T xs ys).getD j 0)) := by
 intro W j z1 z2 hj e1 e2 i1 i2 r
 rw [qr_at (by omega)] at e1 e2
 have w1 := hwx _ (at_mem (xs := xs) (j := j) (by omega))
 have w2 := hwy _ (at_mem (xs := ys) (j := j) (by omega))
 rw [axpy_at (by omega) (by omega)]
 generalize xs.getD j 0 = X at *
 generalize ys.getD j 0 = Y at *
 obtain ⟨q1, s1, t1⟩ := z1
 obtain ⟨q2, s2, t2⟩ := z2
 dsimp only at e1 e2
 subst e1 e2
 exact v_addfn (hB.under r) (by omega) i1.1 i1.2 i2.1 i2.2 (g5.below r) (g6.below r)
theorem v_addm {w : World} {a1 a2 : Option Addr} {n c1 c2 : Nat} {xs ys : List Rat} {T : Rat} {pb ob : Option Addr} {qb rb : Nat} (h1 : VReads w (.slice a1 n c1) (xs.map qr)) (h2 : VReads w (.slice a2 n c2) (ys.map qr)) (g5 : Reads w (.slice pb (qr T).2.1.length qb) (qr T).2.1) (g6 : Reads w (.slice ob (qr T).2.2.length rb) (qr T).2.2) (hwx : ∀ x ∈ xs, wt x ≤ 3000) (hwy : ∀ y ∈ ys, wt y ≤ 3000) (hwT : wt T ≤ 3000) (hn : n ≤ 60000) :
  Calls Tryz.prog 23 #[.slice a1 n c1, .slice a2 n c2, .agg #[.bool (qr T).1, .slice pb (qr T).2.1.length qb, .slice ob (qr T).2.2.length rb]] w fun e w' => ∃ v, e = .returned (.tuple #[v, .int .i64 0]) ∧ VFresh w' w.heap.size v ((axpy T xs ys).map qr) ∧ Below w.heap.size w w' := by
 have al : Below w.heap.size w (w.alloc (.cells #[.bool (qr T).1, .slice pb (qr T).2.1.length qb, .slice ob (qr T).2.2.length rb] 44)) := (Below.refl _ _).alloc (Nat.le_refl _) _
 have M : Mem w [(w.heap.size, 44, [.bool (qr T).1, .slice pb (qr T).2.1.length qb, .slice ob (qr T).2.2.length rb])] [(.slice ob (qr T).2.2.length rb, (qr T).2.2), (.slice pb (qr T).2.1.length qb, (qr T).2.1)] (w.alloc (.cells #[.bool (qr T).1, .slice pb (qr T).2.1.length qb, .slice ob (qr T).2.2.length rb] 44)) := (((Mem.start w).add g5).add g6).new _ _
 have hx : xs.length = n := by have := h1.addr.1; simpa using this.symm
 have hy : ys.length = n := by have := h2.addr.1; simpa using this.symm
 have fx := fit_each (xs := xs) (fun x hx => Nat.le_trans (hwx x hx) (by omega))
 have fy := fit_each (xs := ys) (fun x hx => Nat.le_trans (hwy x hx) (by omega))
 have fT := fit_qr (X := T) (by omega)
 have k1 := v_match true (by rw [all_qok_qr, all_qok_qr]; simp) (h1.below al) (h2.below al) ⟨fx, by simp; omega⟩ ⟨fy, by simp; omega⟩
 have hzl : (axpy T xs ys).length = n := by simp [axpy, hx, hy]
 have kc := fun (W : World) (g5 : Reads W (.slice pb (qr T).2.1.length qb) (qr T).2.1) (g6 : Reads W (.slice ob (qr T).2.2.length rb) (qr T).2.2) => rcheck_any (n := (qr T).1) g5 g6 fT.1.1 fT.1.2 (by have := fT.2.1; omega) (by have := fT.2.2; omega)
 rw [show rchk (qr T).1 (qr T).2.1 (qr T).2.2 = true from (qr_can T).chk] at kc
 have k2 := fun (W : World) (r : Below w.heap.size w W) {B : Nat} (hB : BoxN W B 44 #[.bool (qr T).1, .slice pb (qr T).2.1.length qb, .slice ob (qr T).2.2.length rb]) => v_joined (h1.below r) (h2.below r) (by omega) hzl (enters_of Tryz.func57 (by kernel_rfl) rfl) (v_axfn (w := W) hB (g5.below r) (g6.below r) hx hy hwx hwy hwT)
 generalize qr T = q at *
 have ezl : ((axpy T xs ys).map qr).length = n := by simp [hzl]
 generalize (axpy T xs ys).map qr = zq at *
 clear h1 h2 hwx hwy hwT hx hy fx fy hzl g5 g6 fT
 go_enter Tryz.func23, Tryz.ntmps23
 go_wp2_with fail
 refine k1.mono ?_
 rintro e w1 ⟨rfl, rr⟩
 have M' := M.up rr
 clear M rr k1
 have M := M'; clear M'
 have z0 := M.cell 0 rfl 0 rfl; have z1 := M.cell 0 rfl 1 rfl; have z2 := M.cell 0 rfl 2 rfl
 go_wp2_with fail
 refine (kc _ (M.get 1 rfl) (M.get 0 rfl)).mono ?_
 rintro e w2 ⟨rfl, rr⟩
 have M' := M.up rr
 clear M rr kc z0 z1 z2
 have M := M'; clear M'
 go_wp2_with fail
 refine (k2 _ M.below (M.box 0 rfl)).mono ?_
 rintro e w3 ⟨v, rfl, hv, rr⟩
 obtain ⟨av, cv, ev⟩ := hv.form
 rw [ezl] at ev
 subst ev
 have HV := Lib.hid (hv.mono M.below.size)
 have HB := Lib.hid (then_below M.below rr)
 clear M rr k2 hv
 go_wp2_with fail
 go_ret2
 exact ⟨_, rfl, HV.out, HB.out⟩
theorem scl_at {t : Rat} {qs : List Qr} {j : Nat} (h : j < qs.length) : (scl t (qs.map qval)).getD j 0 = qval (qs.getD j default) * t := by
 simp [scl, List.getD_eq_getElem?_getD, List.getElem?_eq_getElem h]
theorem rsg_zero (X Y : Rat) : rsg X Y = 0 ↔ X = Y := by
 unfold rsg
 constructor
 · intro h
   by_cases h1 : X < Y
   · simp [h1] at h
   · by_cases h2 : Y < X
     · simp [h1, h2] at h
     · exact Rat.le_antisymm (Rat.not_lt.1 h2) (Rat.not_lt.1 h1)
 · rintro rfl
   have h : ¬ X < X := Rat.lt_irrefl
   simp [h]
theorem lists_same {xs ys : List Rat} {n : Nat} (hx : xs.length = n) (hy : ys.length = n) (h : ∀ j, j < n → xs.getD j 0 = ys.getD j 0) : xs = ys := by
 refine List.ext_getElem (by omega) fun j h1 h2 => ?_
 have := h j (by omega)
 rwa [List.getD_eq_getElem?_getD, List.getD_eq_getElem?_getD, List.getElem?_eq_getElem h1, List.getElem?_eq_getElem h2] at this
def SInv (w : World) (v1 v2 : Value) (s : Nat) (xs ys : List Rat) (k : Nat) (W : World) : Prop :=
 (∀ j, j < k → xs.getD j 0 = ys.getD j 0) ∧ Boxed W w.heap.size 4 (.bool false) ∧ Boxed W s 30 v1 ∧ Boxed W (s + 1) 30 v2 ∧ Below w.heap.size w W
def SEnd (w : World) (xs ys : List Rat) (c : Code) (W : World) : Prop := c = .ret ∧ xs ≠ ys ∧ Boxed W w.heap.size 4 (.bool false) ∧ Below w.heap.size w W
def SMid (w : World) (v1 v2 : Value) (s : Nat) (B1 B2 : Nat) (c1 c2 : Array Value) (_ : Unit) (W : World) : Prop :=
 Boxed W w.heap.size 4 (.bool false) ∧ Boxed W s 30 v1 ∧ Boxed W (s + 1) 30 v2 ∧ Below w.heap.size w W ∧ BoxN W B1 44 c1 ∧ BoxN W B2 44 c2
theorem SMid.own {w : World} {v1 v2 : Value} {s B1 B2 : Nat} {c1 c2 : Array Value} {M : Nat} (hM : w.heap.size ≤ M) : OwnFrom M (SMid w v1 v2 s B1 B2 c1 c2) := by
 rintro u W W' row ⟨h1, h2, h3, h4, h5, h6⟩ hg hr
 exact ⟨keepBox h1 hg hr, keepBox h2 hg hr, keepBox h3 hg hr, keepBelow h4 (Nat.le_refl _) hM hg hr, keepBoxN h5 hg hr, keepBoxN h6 hg hr⟩
theorem v_samem {w : World} {a1 a2 : Option Addr} {n c1 c2 : Nat} {xs ys : List Rat} (R : Bool) (hR : R = decide (xs = ys)) (h1 : VReads w (.slice a1 n c1) (xs.map qr)) (h2 : VReads w (.slice a2 n c2) (ys.map qr)) (hwx : ∀ x ∈ xs, wt x ≤ 9999) (hwy : ∀ x ∈ ys, wt x ≤ 9999) (hn : n ≤ 60000) :
  Calls Tryz.prog 21 #[.slice a1 n c1, .slice a2 n c2] w fun e w' => e = .returned (.bool R) ∧ Below w.heap.size w w' := by
 have al : Below w.heap.size w (w.alloc (.cells #[.bool false] 4)) := (Below.refl _ _).alloc (Nat.le_refl _) _
 have hx : xs.length = n := by have := h1.addr.1; simpa using this.symm
 have hy : ys.length = n := by have := h2.addr.1; simpa using this.symm
 have fx := fit_each hwx
 have fy := fit_each hwy
 have k1 := v_match true (by rw [all_qok_qr, all_qok_qr]; simp) (h1.below al) (h2.below al) ⟨fx, by simp; omega⟩ ⟨fy, by simp; omega⟩
 have hd1 := h1.addr.2.1
 have hd2 := h2.addr.2.1
 obtain ⟨b1, o1, f, hA1, hf⟩ := h1.fn
 obtain ⟨b2, o2, g, hA2, hg⟩ := h2.fn
 have HF := Lib.hid hf
 have HG := Lib.hid hg
 have HA1 := Lib.hid hA1
 have HA2 := Lib.hid hA2
 have HXL := Lib.hid hx
 have HYL := Lib.hid hy
 have HR := Lib.hid hR
 have HWX := Lib.hid hwx
 have HWY := Lib.hid hwy
 have HB := Lib.hid (Boxed.new w 4 (.bool false))
 clear h1 h2 hf hg hA1 hA2 hx hy fx fy hR hwx hwy
 refine (callsIn_wide (n := 0)).1 ?_
 refine callsIn_of_wp_marks Tryz.func21 rfl trivial ?_ rfl
 simp only [Tryz.ntmps21, List.size_toArray, List.length_cons, List.length_nil, Nat.reduceAdd, Nat.reduceSub, Array.replicate_succ, Array.replicate_zero, List.push_toArray, List.append_toArray, List.nil_append, List.cons_append]
 refine wpIn_wide.2 ?_
 go_wp2_with fail
 refine k1.mono ?_
 rintro e w1 ⟨rfl, rr⟩
 have hb := boxed_under HB.out rr
 have hbel1 := then_below al rr
 have hs1 : w.heap.size + 1 ≤ w1.heap.size := by simpa using rr.size
 have HB1 := Lib.hid hb
 have HL1 := Lib.hid hbel1
 clear k1 rr al HB hb hbel1
 go_wp2_with ((go_at_call 53; refine (places_any _ _ _ _ _ _ _).mono ?_; rintro e w' ⟨rfl, rfl⟩))
 refine (wpIn_wide (n := 0)).1 ?_
 refine wp_rangeMid (gf := 101) rfl (enters_of Tryz.func101 (by kernel_rfl) rfl)
  (places_iter n b1 o1 b2 o2 c1 c2 w1.heap.size (w1.heap.size + 1) a1 a2 f g (by omega) (fun h => (HA1.out h).1) (fun h => (HA2.out h).1) hd1 hd2) (fun _ => rfl)
  (SInv w (.slice a1 n c1) (.slice a2 n c2) w1.heap.size xs ys) (SEnd w xs ys) ?own ?ownx
  (fun k W h => ⟨h.2.2.1.cell, h.2.2.2.1.cell, fun hk => ⟨(HF.out k hk).2.1.below (HA1.out (by omega)).2 h.2.2.2.2, (HG.out k hk).2.1.below (HA2.out (by omega)).2 h.2.2.2.2⟩⟩) ?start ?round ?done ?stop
 case own =>
  rintro k W W' row ⟨h0, h1, h2, h3, h4⟩ hg hr
  exact ⟨h0, keepBox h1 hg hr, keepBox h2 hg hr, keepBox h3 hg hr, keepBelow h4 (Nat.le_refl _) (by simp; omega) hg hr⟩
 case ownx =>
  rintro c W W' row ⟨h0, h1, h2, h3⟩ hg hr
  exact ⟨h0, h1, keepBox h2 hg hr, keepBelow h3 (Nat.le_refl _) (by simp; omega) hg hr⟩
 case start =>
  exact ⟨fun j hj => by omega, (HB1.out.alloc _).alloc _, (Boxed.new w1 _ _).alloc _, boxed_new1 w1 _ _ _, (HL1.out.alloc (by omega) _).alloc (by simp; omega) _⟩
 case round =>
  intro l k W hk hinv
  have hfk := HF.out k hk
  have hgk := HG.out k hk
  rw [qr_at (by have := HXL.out; omega)] at hfk
  rw [qr_at (by have := HYL.out; omega)] at hgk
  have w1' := HWX.out _ (at_mem (xs := xs) (j := k) (by have := HXL.out; omega))
  have w2' := HWY.out _ (at_mem (xs := ys) (j := k) (by have := HYL.out; omega))
  obtain ⟨X, hX⟩ : ∃ X, X = xs.getD k 0 := ⟨_, rfl⟩
  obtain ⟨Y, hY⟩ : ∃ Y, Y = ys.getD k 0 := ⟨_, rfl⟩
  rw [← hX] at hfk w1'
  rw [← hY] at hgk w2'
  have fX := fit_qr (X := X) w1'
  have fY := fit_qr (X := Y) w2'
  generalize f k = z1 at *
  generalize g k = z2 at *
  obtain ⟨q1, ⟨p, c⟩, p', c'⟩ := z1
  obtain ⟨q2, ⟨q, e⟩, q', e'⟩ := z2
  obtain ⟨e1, _, i1⟩ := hfk
  obtain ⟨e2, _, i2⟩ := hgk
  dsimp only at e1 e2
  subst e1 e2
  obtain ⟨z, hz⟩ : ∃ z, z = rsg X Y := ⟨_, rfl⟩
  have kc := fun (V : World) (r : Below w.heap.size w V) => r_cmp z hz.symm (qr_can X).is (qr_can Y).is fX.2.1 fX.2.2 fY.2.1 fY.2.2 (i1.below r).1 (i1.below r).2 (i2.below r).1 (i2.below r).2
  dsimp only at kc
  have hzz := rsg_zero X Y
  rw [← hz] at hzz
  have HZ := Lib.hid hzz
  have HX := Lib.hid hX
  have HY := Lib.hid hY
  dsimp only [zval]
  obtain ⟨hall, hb, hb1, hb2, hbel⟩ := hinv
  have hWs : w.heap.size ≤ W.heap.size := hbel.size
  have hWs2 : w1.heap.size + 1 < W.heap.size := (Array.getElem?_eq_some_iff.1 (show W.heap[w1.heap.size + 1]? = _ from hb2)).1
  generalize qr X = qX at *
  generalize qr Y = qY at *
  have hmid : SMid w (.slice a1 n c1) (.slice a2 n c2) w1.heap.size W.heap.size (W.heap.size + 1) #[.bool qX.1, .slice p qX.2.1.length c, .slice p' qX.2.2.length c'] #[.bool qY.1, .slice q qY.2.1.length e, .slice q' qY.2.2.length e'] () ((W.alloc (.cells #[.bool qX.1, .slice p qX.2.1.length c, .slice p' qX.2.2.length c'] 44)).alloc (.cells #[.bool qY.1, .slice q qY.2.1.length e, .slice q' qY.2.2.length e'] 44)) :=
    ⟨(hb.alloc _).alloc _, (hb1.alloc _).alloc _, (hb2.alloc _).alloc _, (hbel.alloc hWs _).alloc (by simp; omega) _, (BoxN.new W _ _).alloc _, BoxN.new1 W _ _ _⟩
  have HMID := Lib.hid hmid
  have HALL := Lib.hid hall
  clear fX fY w1' w2' i1 i2 hX hY hz hzz hall hb hb1 hb2 hbel hmid
  gi_wp2
  refine ⟨((KeepsOthers.alloc W _).trans (KeepsOthers.alloc _ _)).from _, _, HMID.out, SMid.own (by first | omega | (simp; omega)), ?_⟩
  rintro W2 ⟨hb, hb1, hb2, hbel, hx1, hx2⟩
  have x0 := hx1.cell 0 _ rfl
  have x1 := hx1.cell 1 _ rfl
  have x2 := hx1.cell 2 _ rfl
  have y0 := hx2.cell 0 _ rfl
  have y1 := hx2.cell 1 _ rfl
  have y2 := hx2.cell 2 _ rfl
  have HB := Lib.hid hb
  have HBA := Lib.hid hb1
  have HBB := Lib.hid hb2
  have HL := Lib.hid hbel
  have kc2 := kc W2 hbel
  clear hb hb1 hb2 hbel hx1 hx2 HMID kc
  gi_wp2_with fail
  refine ⟨trivial, rfl, ?_⟩
  refine ((Lets.round l).calls kc2).mono ?_
  rintro e w3 ⟨rfl, rr⟩
  have hb3 := boxed_under HB.out rr
  have HB3 := Lib.hid hb3
  have HBA3 := Lib.hid (boxed_under HBA.out rr)
  have HBB3 := Lib.hid (boxed_under HBB.out rr)
  have HL3 := Lib.hid (then_below HL.out rr)
  have HKO := Lib.hid (keeps_below rr)
  have r1 := hb3.cell
  have r2 := hb3.frozen
  clear rr hb3 kc2 x0 x1 x2 y0 y1 y2 HB HBA HBB HL
  by_cases h0 : z = 0
  · have hq : (z != 0) = false := by simp [h0]
    have HE := Lib.hid (HZ.out.1 h0)
    clear h0
    gi_wp2_with fail
    refine ⟨HKO.out.from _, fun j hj => ?_, HB3.out, HBA3.out, HBB3.out, HL3.out⟩
    by_cases hjk : j = k
    · subst hjk; rw [← HX.out, ← HY.out]; exact HE.out
    · exact HALL.out j (by omega)
  · have hq : (z != 0) = true := by simp [h0]
    have HE := Lib.hid (fun h => h0 (HZ.out.2 h))
    clear h0
    gi_wp2_with fail
    refine ⟨(HKO.out.trans (KeepsOthers.setCell _ _ _)).from _, rfl, ?_, HB3.out.set _, HL3.out.setCell (p := ⟨w.heap.size, 0, none⟩) (Nat.le_refl _) _⟩
    rintro rfl
    exact HE.out (by rw [HX.out, HY.out])
 case done =>
  rintro D W hD ⟨hall, hb, hb1, hb2, hbel⟩ hK
  have hR : R = true := by rw [HR.out]; exact decide_eq_true (lists_same HXL.out HYL.out hall)
  have HRR := Lib.hid hR
  have HB := Lib.hid hb
  have HL := Lib.hid hbel
  have r1 := hb.cell
  have r2 := hb.frozen
  clear hall hb hb1 hb2 hbel hR
  go_wp2
  have hK' := heap_box HB.out (.bool true) hK rfl
  have h6 := keepBox (M := 0) (HB.out.set (.bool true)) (grownBy_putObj' _ D (.deferred none)) (offCells_putObj (Nat.zero_le _) hK' rfl)
  refine ⟨by simp, .inl ⟨_, _, rfl, run_takeDeferred hK', ?_⟩⟩
  refine ⟨.bool true, ?_, by rw [HRR.out], below_left _ (HL.out.setCell (p := ⟨w.heap.size, 0, none⟩) (Nat.le_refl _) _) (by simp at hD; omega) hK' rfl⟩
  have h7 := h6.cell
  simp [results, Tryz.f21, go_sem, h7]
 case stop =>
  rintro D c W hD ⟨rfl, hne, h2, h3⟩ hK
  have hR : R = false := by rw [HR.out]; exact decide_eq_false hne
  have h6 := keepBox (M := 0) h2 (grownBy_putObj' _ D (.deferred none)) (offCells_putObj (Nat.zero_le _) hK rfl)
  gi_wp2
  refine ⟨by simp, .inl ⟨_, _, rfl, run_takeDeferred hK, ?_⟩⟩
  refine ⟨.bool false, ?_, by rw [hR], below_left _ h3 (by simp at hD; omega) hK rfl⟩
  have h7 := h6.cell
  simp [results, Tryz.f21, go_sem, h7]
theorem v_same {w : World} {a1 a2 : Option Addr} {n c1 c2 : Nat} {xs ys : List Rat} (R : Bool) (hR : R = decide (xs = ys)) (h1 : VReads w (.slice a1 n c1) (xs.map qr)) (h2 : VReads w (.slice a2 n c2) (ys.map qr)) (hwx : wts xs ≤ 9000) (hwy : wts ys ≤ 9000) :
  Calls Tryz.prog 21 #[.slice a1 n c1, .slice a2 n c2] w fun e w' => e = .returned (.bool R) ∧ Below w.heap.size w w' := by
 have hx : xs.length = n := by have := h1.addr.1; simpa using this.symm
 have l1 := wts_len xs
 exact v_samem R hR h1 h2 (fun x hx => Nat.le_trans (wt_mem hx) (by omega)) (fun x hx => Nat.le_trans (wt_mem hx) (by omega)) (by omega)
end
end Go.Proofs.YtgmbaamfobhceaaGreat
