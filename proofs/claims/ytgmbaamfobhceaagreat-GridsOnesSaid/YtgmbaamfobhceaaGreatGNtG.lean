/- The law package's own helpers over rows of fractions: how much is in one, however long. Copies of rows of fractions: what they are, and what .. -/
import Derived.BigQuiet
import Derived.Deep.QuietTactic
import Derived.Test.YtgmbaamfobhceaaGreatGVecF
import Derived.Test.YtgmbaamfobhceaaGreatGRTv
set_option linter.unusedSimpArgs false
set_option linter.unusedVariables false
set_option maxRecDepth 100000
set_option maxHeartbeats 4000000
namespace Go.Proofs.YtgmbaamfobhceaaGreat
section
open Go Go.Proofs Go.RowKit Go.Shelf Nu
attribute [local go_sem] Oper.semAt_some
def rsz (l d : Nat) : Nat := if 2 + l ≤ 1048576 then 2 + l + d else 2 + l
def ssz : Nat → List Qr → Nat
 | n, [] => n
 | n, q :: t => if n ≤ 1048576 then ssz (n + rsz q.2.1.length q.2.2.length) t else n
theorem ssz_ge (n : Nat) (qs : List Qr) : n ≤ ssz n qs := by
 induction qs generalizing n with
 | nil => exact Nat.le_refl _
 | cons q t ih =>
  simp only [ssz]
  split
  · have := ih (n + rsz q.2.1.length q.2.2.length); omega
  · exact Nat.le_refl _
def psum : List Qr → Nat
 | [] => 0
 | q :: t => q.2.1.length + q.2.2.length + 2 + psum t
theorem ssz_small {n M : Nat} {qs : List Qr} (hM : M ≤ 100000) (h : ssz n qs ≤ M) : n + psum qs ≤ M := by
 induction qs generalizing n with
 | nil => simpa [ssz, psum] using h
 | cons q t ih =>
  simp only [ssz] at h
  split at h
  · have h1 := ssz_ge (n + rsz q.2.1.length q.2.2.length) t
    have h2 := ih h
    have h3 : rsz q.2.1.length q.2.2.length = 2 + q.2.1.length + q.2.2.length := by
     unfold rsz; split
     · rfl
     · rename_i h4
       have h5 : rsz q.2.1.length q.2.2.length = 2 + q.2.1.length := if_neg h4
       rw [h5] at h1
       rw [h5] at h
       omega
    simp only [psum]
    omega
  · omega
def Big (q : Qr) : Prop := (Sm q.2.1 ∧ Sm q.2.2) ∧ q.2.1.length ≤ 70368744177664 ∧ q.2.2.length ≤ 70368744177664
theorem psum_mem {qs : List Qr} {q : Qr} (h : q ∈ qs) : q.2.1.length + q.2.2.length + 2 ≤ psum qs := by
 induction qs with
 | nil => cases h
 | cons y t ih =>
  simp only [psum]
  rcases List.mem_cons.1 h with rfl | h
  · omega
  · have := ih h; omega
theorem fit_of_small {qs : List Qr} {n M : Nat} (hM : M ≤ 9000) (hb : ∀ q ∈ qs, Big q) (h : ssz n qs ≤ M) : ∀ q ∈ qs, Fit q := by
 intro q hq
 have h1 := ssz_small (by omega) h
 have h2 := psum_mem hq
 exact ⟨(hb q hq).1, by omega, by omega⟩
theorem rl_qr (X : Rat) : (qr X).2.1.length + (qr X).2.2.length = rl X := rfl
theorem wts_psum (xs : List Rat) : wts xs ≤ psum (xs.map qr) := by
 induction xs with
 | nil => exact Nat.le_refl _
 | cons x t ih => have := wt_rl x; have := rl_qr x; show wt x + wts t ≤ (qr x).2.1.length + (qr x).2.2.length + 2 + psum (t.map qr); omega
theorem natSize_any (a : Option Addr) (n c : Nat) (w : World) : Calls Tryz.prog 55 #[.slice a n c] w fun e w' => e = .returned (.int .i64 (n : Int)) ∧ w' = w := by
 go_enter Tryz.func55, Tryz.ntmps55
 go_wp2
 go_ret
 exact ⟨rfl, rfl⟩
theorem intSize_any (b : Bool) (a : Option Addr) (n c : Nat) (w : World) (hn : n ≤ 70368744177664) : Calls Tryz.prog 54 #[.agg #[.bool b, .slice a n c]] w fun e w' => e = .returned (.int .i64 (1 + (n : Int))) ∧ Below w.heap.size w w' := by
 go_enter Tryz.func54, Tryz.ntmps54
 go_wp2_with (go_at_call 55; refine (natSize_any _ _ _ _).mono ?_; rintro e w1 ⟨rfl, rfl⟩)
 go_ret
 exact ⟨rfl, (Below.refl _ _).alloc (Nat.le_refl _) _⟩
theorem ratSize_any (b : Bool) (a a' : Option Addr) (n c m c' : Nat) (w : World) (hn : n ≤ 70368744177664) (hm : m ≤ 70368744177664) : Calls Tryz.prog 22 #[.agg #[.bool b, .slice a n c, .slice a' m c']] w fun e w' => e = .returned (.int .i64 (rsz n m : Nat)) ∧ Below w.heap.size w w' := by
 have hB : BoxN (w.alloc (.cells #[.bool b, .slice a n c, .slice a' m c'] 44)) w.heap.size 44 #[.bool b, .slice a n c, .slice a' m c'] := BoxN.new w _ _
 have al : Below w.heap.size w (w.alloc (.cells #[.bool b, .slice a n c, .slice a' m c'] 44)) := (Below.refl _ _).alloc (Nat.le_refl _) _
 obtain ⟨s, hs⟩ : ∃ s : Nat, s = 1 + n := ⟨_, rfl⟩
 have hs2 : (1 : Int) + (n : Int) = (s : Int) := by omega
 have k1 := intSize_any b a n c (w.alloc (.cells #[.bool b, .slice a n c, .slice a' m c'] 44)) hn
 rw [hs2] at k1
 have hs3 : s ≤ 70368744177665 := by omega
 obtain ⟨u, hu⟩ : ∃ u : Nat, u = 1 + s := ⟨_, rfl⟩
 have hu2 : (1 : Int) + (s : Int) = (u : Int) := by omega
 have hu3 : u ≤ 70368744177666 := by omega
 have HB := Lib.hid hB
 have HA := Lib.hid al
 by_cases h : u ≤ 1048576
 · have e0 : rsz n m = u + m := (if_pos (by omega)).trans (by omega)
   obtain ⟨r, hr⟩ : ∃ r : Nat, r = u + m := ⟨_, rfl⟩
   have hr2 : (u : Int) + (m : Int) = (r : Int) := by omega
   rw [e0, ← hr]
   have h2 : (u : Int) ≤ 1048576 := by omega
   clear e0 hB al hs hs2 hu hr h hn
   go_enter Tryz.func22, Tryz.ntmps22
   go_wp2_with fail
   refine k1.mono ?_
   rintro e w1 ⟨rfl, rr⟩
   have hx := HB.out.under rr
   have x2 := hx.cell 2 _ rfl
   have HL := Lib.hid (then_below HA.out rr)
   clear k1 rr hx HB HA
   go_wp2_with fail
   refine (natSize_any _ _ _ _).mono ?_
   rintro e w2 ⟨rfl, rfl⟩
   go_wp2_with fail
   go_ret
   exact ⟨rfl, HL.out⟩
 · have e0 : rsz n m = u := (if_neg (by omega)).trans (by omega)
   rw [e0]
   have h2 : ¬ (u : Int) ≤ 1048576 := by omega
   clear e0 hB al hs hs2 hu h hn
   go_enter Tryz.func22, Tryz.ntmps22
   go_wp2_with fail
   refine k1.mono ?_
   rintro e w1 ⟨rfl, rr⟩
   have HL := Lib.hid (then_below HA.out rr)
   clear k1 rr HB HA
   go_wp2_with fail
   go_ret
   exact ⟨rfl, HL.out⟩
theorem ssz_le (n : Nat) (qs : List Qr) (hq : ∀ q ∈ qs, Big q) (hn : n ≤ 200000000000000) : ssz n qs ≤ 200000000000000 := by
 induction qs generalizing n with
 | nil => exact hn
 | cons q t ih =>
  simp only [ssz]
  split
  · have h1 := hq q (by simp)
    refine ih _ (fun x hx => hq x (by simp [hx])) ?_
    have : rsz q.2.1.length q.2.2.length ≤ 2 + q.2.1.length + q.2.2.length := by unfold rsz; split <;> omega
    have := h1.2.1; have := h1.2.2
    omega
  · exact hn
theorem drop_cons {qs : List Qr} {k : Nat} (h : k < qs.length) : qs.drop k = qs.getD k default :: qs.drop (k + 1) := by
 rw [List.drop_eq_getElem_cons h]; congr 1
 rw [List.getD_eq_getElem?_getD, List.getElem?_eq_getElem h]; rfl
theorem ratsSize_any {w : World} {a : Option Addr} {n cap : Nat} {qs : List Qr} (h : VReads w (.slice a n cap) qs) (hq : ∀ q ∈ qs, Big q) (hn : n ≤ 70368744177664) :
  Calls Tryz.prog 17 #[.slice a n cap] w fun e w' => e = .returned (.int .i64 (ssz n qs : Nat)) ∧ Below w.heap.size w w' := by
 obtain ⟨hl, hcap, b, off, ha, hc⟩ := h.addr
 have HC := Lib.hid hc
 have HA := Lib.hid ha
 have HQ := Lib.hid hq
 have HL := Lib.hid hl
 clear h hc ha hq hl
 go_enter Tryz.func17, Tryz.ntmps17
 go_wp2
 go_loopw [3, 4] (fun s i wr => ∃ (k m : Nat), k ≤ n ∧ m ≤ 200000000000000 ∧ i = .int .i64 k ∧ s = .int .i64 m ∧ Hid (ssz m (qs.drop k) = ssz n qs) ∧ Below w.heap.size w wr) (fun _ i _ => n - (intOf i).toNat)
 case atStart => exact ⟨0, n, Nat.zero_le _, by omega, rfl, rfl, Lib.hid rfl, Below.refl _ _⟩
 case round =>
  obtain ⟨k, m, hk, hm, rfl, rfl, HS, hb⟩ := hrel
  have HB := Lib.hid hb
  clear hb
  by_cases hlt : k < n
  · by_cases hmm : m ≤ 1048576
    · obtain ⟨rfl, hbl⟩ := HA.out (by omega)
      have hk2 : k < qs.length := by have := HL.out; omega
      have hqat := (HC.out k _ (qs_at hk2)).below hbl HB.out
      have hbig := HQ.out _ (qs_mem hk2)
      have hst := HS.out
      rw [drop_cons hk2] at hst
      simp only [ssz, if_pos hmm] at hst
      generalize qs.getD k default = q at *
      obtain ⟨s, l1, d1⟩ := q
      obtain ⟨p, c, p', c', h0, h1, h2, g1, g2⟩ := hqat
      dsimp only at h0 h1 h2 hbig hst
      have kc := ratSize_any s p p' l1.length c d1.length c' wr hbig.2.1 hbig.2.2
      obtain ⟨r, hr⟩ : ∃ r, r = rsz l1.length d1.length := ⟨_, rfl⟩
      rw [← hr] at kc hst
      have hr2 : r ≤ 150000000000000 := by
       have := hbig.2.1; have := hbig.2.2
       have : rsz l1.length d1.length ≤ 2 + l1.length + d1.length := by unfold rsz; split <;> omega
       dsimp only at *
       omega
      obtain ⟨u, hu⟩ : ∃ u, u = m + r := ⟨_, rfl⟩
      rw [← hu] at hst
      have hu2 : (m : Int) + (r : Int) = (u : Int) := by omega
      have hu3 : u ≤ 200000000000000 := by omega
      have HST := Lib.hid hst
      have j1 : (k : Int) < (n : Int) := by omega
      have j2 : (m : Int) ≤ 1048576 := by omega
      have j3 : decide ((m : Int) ≤ 1048576) = true := decide_eq_true j2
      clear g1 g2 hbig hst hr hu hk2 HA HC
      go_wp2_with fail
      refine kc.mono ?_
      rintro e w1 ⟨rfl, rr⟩
      have HB1 := Lib.hid (then_below HB.out rr)
      clear kc rr HB
      go_wp2_with fail
      go_roundw
      case rel => exact ⟨k + 1, u, by omega, hu3, by simp, rfl, HST, HB1.out⟩
      case measure => simp [intOf]; omega
    · have hst := HS.out
      have hk2 : k < qs.length := by have := HL.out; omega
      rw [drop_cons hk2] at hst
      simp only [ssz, if_neg hmm] at hst
      have HST := Lib.hid hst
      have j1 : (k : Int) < (n : Int) := by omega
      have j2 : ¬ (m : Int) ≤ 1048576 := by omega
      have j3 : decide ((m : Int) ≤ 1048576) = false := decide_eq_false j2
      clear hst hk2 HA HC
      go_wp2_with fail
      go_ret
      exact ⟨by rw [← HST.out]; rfl, HB.out⟩
  · have hst := HS.out
    rw [List.drop_eq_nil_of_le (by have := HL.out; omega)] at hst
    simp only [ssz] at hst
    have HST := Lib.hid hst
    have j1 : ¬ (k : Int) < (n : Int) := by omega
    clear hst HA HC
    go_wp2_with fail
    go_ret
    exact ⟨by rw [← HST.out]; rfl, HB.out⟩
end
section
open Go Go.Proofs Go.RowKit Go.Shelf Nu
def Off (t : TypeId) (W W' : World) : Prop := W.heap.size ≤ W'.heap.size ∧ ∀ (g : Nat) (cur : Array Value) (u : TypeId) (fr : Nat × Nat), u ≠ t → W.heap[g]? = some (.cells cur u fr) → W'.heap[g]? = some (.cells cur u fr)
section
variable {t u : TypeId} {W W' V : World} {B n k : Nat} {v : Value} {xs : List Value}
theorem Off.refl (t : TypeId) (W : World) : Off t W W := ⟨Nat.le_refl _, fun _ _ _ _ _ e => e⟩
theorem Off.trans (h : Off t W W') (h' : Off t W' V) : Off t W V := ⟨Nat.le_trans h.1 h'.1, fun g cur u fr hu e => h'.2 g cur u fr hu (h.2 g cur u fr hu e)⟩
theorem Off.of_below (h : Below W.heap.size W W') : Off t W W' := ⟨h.size, fun g _ _ _ _ e => (h.block g (Array.getElem?_eq_some_iff.1 e).1).trans e⟩
theorem Off.alloc (W : World) (o : Obj) : Off t W (W.alloc o) := Off.of_below ((Below.refl _ _).alloc (Nat.le_refl _) o)
theorem Off.of_grown (ho : W.ownsRow B t k v n xs) (hg : W.grownBy W' v.ownBlock) : Off t W W' := by
 refine ⟨hg.size, fun g cur u fr hu e => ?_⟩
 refine (hg.block g (Array.getElem?_eq_some_iff.1 e).1 fun e1 => ?_).trans e
 rcases ho.2 with ⟨rfl, _⟩ | ⟨g', cap, cur', rfl, _, hgb, _⟩
 · cases e1
 · have e2 : g = g' := by simpa [Value.ownBlock] using e1
   subst e2
   rw [hgb] at e
   cases e
   exact hu rfl
theorem Off.put {b : Nat} {cs : Array Value} (h : BoxN W b t cs) (o : Nat) (x : Value) : Off t W (W.setCell ⟨b, o, none⟩ x) := by
 refine ⟨by simp, fun g cur u fr hu e => ?_⟩
 have hne : g ≠ b := by
  rintro rfl
  have h1 := (show W.heap[g]? = _ from h).symm.trans e
  cases h1
  exact hu rfl
 exact (Below.heap_setCell W ⟨b, o, none⟩ x g hne).trans e
theorem own_off (h : W.ownsRow B u k v n xs) (ho : Off t W W') (hu : u ≠ t) : W'.ownsRow B u k v n xs := by
 refine ⟨h.1, ?_⟩
 rcases h.2 with h | ⟨g, cap, cur, e, hB, hg, r⟩
 · exact .inl h
 · exact .inr ⟨g, cap, cur, e, hB, ho.2 g _ _ _ hu hg, r⟩
theorem own_le (h : W.ownsRow B u k v n xs) {B' : Nat} (hb : B' ≤ B) : W.ownsRow B' u k v n xs := by
 refine ⟨h.1, ?_⟩
 rcases h.2 with h | ⟨g, cap, cur, e, hB, r⟩
 · exact .inl h
 · exact .inr ⟨g, cap, cur, e, Nat.le_trans hb hB, r⟩
end
section
variable {W W' : World} {B g c : Nat}
theorem Tw.off {l : List Nat} {t : TypeId} (h : Tw W B g c l) (ho : Off t W W') (ht : 127 ≠ t) : Tw W' B g c l := own_off h ho ht
def ZTw (W : World) (B : Nat) (z : Zr) : Prop := ∃ g1 c1 g2 c2, z.2.1 = (some ⟨g1, 0, none⟩, c1) ∧ z.2.2 = (some ⟨g2, 0, none⟩, c2) ∧ Tw W B g1 c1 z.1.2.1 ∧ Tw W B g2 c2 z.1.2.2
theorem ZTw.off {z : Zr} {t : TypeId} (h : ZTw W B z) (ho : Off t W W') (ht : 127 ≠ t) : ZTw W' B z := by
 obtain ⟨g1, c1, g2, c2, e1, e2, h1, h2⟩ := h
 exact ⟨g1, c1, g2, c2, e1, e2, h1.off ho ht, h2.off ho ht⟩
theorem ZTw.below {z : Zr} (h : ZTw W B z) (hb : Below W.heap.size W W') : ZTw W' B z := by
 obtain ⟨g1, c1, g2, c2, e1, e2, h1, h2⟩ := h
 exact ⟨g1, c1, g2, c2, e1, e2, h1.below hb, h2.below hb⟩
theorem ZTw.mono {z : Zr} {B' : Nat} (h : ZTw W B z) (hb : B' ≤ B) : ZTw W B' z := by
 obtain ⟨g1, c1, g2, c2, e1, e2, h1, h2⟩ := h
 exact ⟨g1, c1, g2, c2, e1, e2, h1.mono hb, h2.mono hb⟩
theorem ZTw.zin {z : Zr} (h : ZTw W B z) : ZIn W z := by
 obtain ⟨g1, c1, g2, c2, e1, e2, h1, h2⟩ := h
 obtain ⟨q, a, b⟩ := z
 simp only at e1 e2 h1 h2
 subst e1; subst e2
 exact ⟨h1.fresh.reads, h2.fresh.reads⟩
def zmark (y : Sl) : Zr := ((false, [], [77]), (none, 0), y)
def TwR (W : World) (B g c : Nat) (qs : List Qr) : Prop := ∃ (zs : List Zr) (y : Sl), zs.map (·.1) = qs ∧ W.ownsRow B 44 3 (.slice (some ⟨g, 0, none⟩) (qs.length + 1) c) (qs.length + 1) (zcells (zs ++ [zmark y])) ∧ (∀ z ∈ zs, ZTw W B z) ∧ Fresh W B (.slice y.1 1 y.2) [77]
theorem TwR.off {qs : List Qr} {t : TypeId} (h : TwR W B g c qs) (ho : Off t W W') (ht : 127 ≠ t ∧ 44 ≠ t) : TwR W' B g c qs := by
 obtain ⟨zs, y, h1, h2, h3, h4⟩ := h
 exact ⟨zs, y, h1, own_off h2 ho ht.2, fun z hz => (h3 z hz).off ho ht.1, own_off h4 ho ht.1⟩
theorem TwR.below {qs : List Qr} (h : TwR W B g c qs) (hb : Below W.heap.size W W') : TwR W' B g c qs := by
 obtain ⟨zs, y, h1, h2, h3, h4⟩ := h
 exact ⟨zs, y, h1, own_below h2 hb, fun z hz => (h3 z hz).below hb, Fresh.below h4 hb⟩
theorem TwR.mono {qs : List Qr} {B' : Nat} (h : TwR W B g c qs) (hb : B' ≤ B) : TwR W B' g c qs := by
 obtain ⟨zs, y, h1, h2, h3, h4⟩ := h
 exact ⟨zs, y, h1, own_le h2 hb, fun z hz => (h3 z hz).mono hb, Fresh.mono h4 hb⟩
theorem TwR.cap {qs : List Qr} (h : TwR W B g c qs) : qs.length + 1 ≤ c ∧ B ≤ g ∧ g < W.heap.size := by
 obtain ⟨zs, y, h1, h2, h3, h4⟩ := h
 rcases h2.2 with ⟨e, _⟩ | ⟨g', cap, cur, e, hB, hg, hn, _⟩
 · cases e
 · cases e
   exact ⟨hn, hB, (Array.getElem?_eq_some_iff.1 hg).1⟩
theorem TwR.at {qs : List Qr} (h : TwR W B g c qs) {j : Nat} {q : Qr} (hq : qs[j]? = some q) : ∃ g1 c1 g2 c2, W.cell? ⟨g, j * 3, none⟩ = some (.bool q.1) ∧ W.cell? ⟨g, j * 3 + 1, none⟩ = some (.slice (some ⟨g1, 0, none⟩) q.2.1.length c1) ∧ W.cell? ⟨g, j * 3 + 2, none⟩ = some (.slice (some ⟨g2, 0, none⟩) q.2.2.length c2) ∧ Tw W B g1 c1 q.2.1 ∧ Tw W B g2 c2 q.2.2 := by
 obtain ⟨zs, y, h1, h2, h3, h4⟩ := h
 have hj := (List.getElem?_eq_some_iff.1 hq).1
 have hl : zs.length = qs.length := by rw [← h1, List.length_map]
 obtain ⟨z, hz, e⟩ : ∃ z, zs[j]? = some z ∧ z.1 = q := by rw [← h1] at hq; simpa [List.getElem?_map] using hq
 have key : ∀ i, i < 3 → W.cell? ⟨g, j * 3 + i, none⟩ = (zcell z)[i]? := fun i hi => by
  rw [World.ownsRow.cellAt h2 (j * 3 + i) (by omega), zcells_at _ j z (by rw [List.getElem?_append_left (by omega)]; exact hz) i hi]
 obtain ⟨g1, c1, g2, c2, e1, e2, k1, k2⟩ := h3 z (List.mem_of_getElem? hz)
 obtain ⟨q', a, b⟩ := z
 simp only at e e1 e2 k1 k2
 subst e; subst e1; subst e2
 exact ⟨g1, c1, g2, c2, key 0 (by omega), key 1 (by omega), key 2 (by omega), k1, k2⟩
end
end
section
open Go Go.Proofs Go.RowKit Go.Shelf Nu
set_option linter.unusedVariables false
set_option linter.unusedSimpArgs false
set_option maxRecDepth 100000
attribute [local go_sem] Oper.semAt_some
theorem VF.slice {W : World} {B n : Nat} {v : Value} {zs : List Zr} (h : VF W B v zs) (hn : zs.length = n + 1) : ∃ g c, v = .slice (some ⟨g, 0, none⟩) (n + 1) c ∧ n + 1 ≤ c ∧ (n : Int) ≤ (c : Int) := by
 rcases h.1.1.2 with ⟨_, h0⟩ | ⟨g, cap, cur, rfl, hb, hg, hc, _⟩
 · omega
 · exact ⟨g, cap, by rw [hn], by omega, by omega⟩
def LRd {α : Type} (k : Nat) (El : World → Nat → Nat → α → Prop) (W : World) (v : Value) (l : List α) : Prop :=
 ∃ a cap, v = .slice a l.length cap ∧ l.length ≤ cap ∧ (0 < l.length → ∃ b off, a = some ⟨b, off, none⟩ ∧ b < W.heap.size ∧ ∀ j x, l[j]? = some x → El W b (off + j * k) x)
section
variable {α : Type} {k : Nat} {El : World → Nat → Nat → α → Prop} {W W' : World} {v : Value} {l : List α}
theorem LRd.form (h : LRd k El W v l) : ∃ a cap, v = .slice a l.length cap ∧ l.length ≤ cap := by
 obtain ⟨a, cap, e, hc, _⟩ := h
 exact ⟨a, cap, e, hc⟩
theorem LRd.addr {a : Option Addr} {n cap : Nat} (h : LRd k El W (.slice a n cap) l) : n = l.length ∧ n ≤ cap ∧ (0 < n → ∃ b off, a = some ⟨b, off, none⟩ ∧ b < W.heap.size ∧ ∀ j x, l[j]? = some x → El W b (off + j * k) x) := by
 obtain ⟨a', cap', e, hc, h⟩ := h
 cases e
 exact ⟨rfl, hc, h⟩
theorem LRd.below (he : ∀ b o x, b < W.heap.size → El W b o x → El W' b o x) (h : LRd k El W v l) (hb : Below W.heap.size W W') : LRd k El W' v l := by
 obtain ⟨a, cap, e, hc, h⟩ := h
 refine ⟨a, cap, e, hc, fun h0 => ?_⟩
 obtain ⟨b, off, e1, h1, h2⟩ := h h0
 exact ⟨b, off, e1, Nat.lt_of_lt_of_le h1 hb.size, fun j x hx => he _ _ _ h1 (h2 j x hx)⟩
end
def GEl (W : World) (b o : Nat) (qs : List Qr) : Prop := ∃ u, W.cell? ⟨b, o, none⟩ = some u ∧ VReads W u qs
def BEl (W : World) (b o : Nat) (x : Bool) : Prop := W.cell? ⟨b, o, none⟩ = some (.bool x)
abbrev GridR (W : World) (v : Value) (rows : List (List Qr)) : Prop := LRd 1 GEl W v rows
abbrev BoolsR (W : World) (v : Value) (l : List Bool) : Prop := LRd 1 BEl W v l
theorem GridR.below {W W' : World} {v : Value} {l : List (List Qr)} (h : GridR W v l) (hb : Below W.heap.size W W') : GridR W' v l :=
 LRd.below (fun b o x h1 h2 => by obtain ⟨u, h3, h4⟩ := h2; exact ⟨u, (hb.cell (p := ⟨b, o, none⟩) h1).trans h3, h4.below hb⟩) h hb
theorem BoolsR.below {W W' : World} {v : Value} {l : List Bool} (h : BoolsR W v l) (hb : Below W.heap.size W W') : BoolsR W' v l :=
 LRd.below (fun b o x h1 h2 => (hb.cell (p := ⟨b, o, none⟩) h1).trans h2) h hb
def lsz {α : Type} (f : α → Nat) : Nat → List α → Nat
 | n, [] => n
 | n, x :: t => if n ≤ 1048576 then lsz f (n + f x) t else n
def lsum {α : Type} (f : α → Nat) : List α → Nat
 | [] => 0
 | x :: t => f x + lsum f t
theorem lsz_small {α : Type} (f : α → Nat) {n M : Nat} {l : List α} (hM : M ≤ 100000) (h : lsz f n l ≤ M) : n + lsum f l ≤ M := by
 induction l generalizing n with
 | nil => simpa [lsz, lsum] using h
 | cons x t ih =>
  simp only [lsz] at h
  split at h
  · have := ih h
    simp only [lsum]; omega
  · omega
theorem lsum_mem {α : Type} (f : α → Nat) {l : List α} {x : α} (h : x ∈ l) : f x ≤ lsum f l := by
 induction l with
 | nil => cases h
 | cons y t ih =>
  simp only [lsum]
  rcases List.mem_cons.1 h with rfl | h
  · omega
  · have := ih h; omega
theorem lsz_drop {α : Type} (f : α → Nat) {l : List α} {k n : Nat} {x : α} (hx : l[k]? = some x) (hn : n ≤ 1048576) : lsz f n (l.drop k) = lsz f (n + f x) (l.drop (k + 1)) := by
 have hk := (List.getElem?_eq_some_iff.1 hx).1
 rw [List.drop_eq_getElem_cons hk]
 simp only [lsz, if_pos hn]
 rw [List.getElem?_eq_getElem hk] at hx
 cases hx
 rfl
theorem lsz_stop {α : Type} (f : α → Nat) {l : List α} {k n : Nat} (hk : k < l.length) (hn : ¬ n ≤ 1048576) : lsz f n (l.drop k) = n := by
 rw [List.drop_eq_getElem_cons hk]
 simp only [lsz, if_neg hn]
def rsize (qs : List Qr) : Nat := ssz qs.length qs
def gsize (rows : List (List Qr)) : Nat := lsz rsize rows.length rows
def GBig (rows : List (List Qr)) : Prop := rows.length ≤ 70368744177664 ∧ ∀ qs ∈ rows, qs.length ≤ 70368744177664 ∧ ∀ q ∈ qs, Big q
theorem rsize_le {qs : List Qr} (h : qs.length ≤ 70368744177664 ∧ ∀ q ∈ qs, Big q) : rsize qs ≤ 200000000000000 := ssz_le _ _ h.2 (by have := h.1; omega)
theorem gridSize_any {w : World} {a : Option Addr} {n cap : Nat} {rows : List (List Qr)} (h : GridR w (.slice a n cap) rows) (hq : GBig rows) :
  Calls Tryz.prog 43 #[.slice a n cap] w fun e w' => e = .returned (.int .i64 (gsize rows : Nat)) ∧ Below w.heap.size w w' := by
 obtain ⟨hl, hcap, hA⟩ := h.addr
 have HA := Lib.hid hA
 have HQ := Lib.hid hq
 have HL := Lib.hid hl
 have hn : n ≤ 70368744177664 := by rw [hl]; exact hq.1
 have HG := Lib.hid (show gsize rows = lsz rsize n rows by rw [hl]; rfl)
 generalize gsize rows = G at *
 clear h hA hq hl
 go_enter Tryz.func43, Tryz.ntmps43
 go_wp2
 go_loopw [3, 4] (fun s i wr => ∃ (k m : Nat), k ≤ n ∧ m ≤ 400000000000000 ∧ i = .int .i64 k ∧ s = .int .i64 m ∧ Hid (lsz rsize m (rows.drop k) = G) ∧ Below w.heap.size w wr) (fun _ i _ => n - (intOf i).toNat)
 case atStart => exact ⟨0, n, Nat.zero_le _, by omega, rfl, rfl, Lib.hid HG.out.symm, Below.refl _ _⟩
 case round =>
  clear HG
  obtain ⟨k, m, hk, hm, rfl, rfl, HS, hb⟩ := hrel
  have HB := Lib.hid hb
  clear hb
  by_cases hlt : k < n
  · by_cases hmm : m ≤ 1048576
    · obtain ⟨b, off, rfl, hbl, hc⟩ := HA.out (by omega)
      obtain ⟨qs, hqs⟩ : ∃ qs, rows[k]? = some qs := ⟨_, List.getElem?_eq_getElem (by have := HL.out; omega)⟩
      obtain ⟨u, hu, hv⟩ := hc k qs hqs
      have hbig := HQ.out.2 _ (List.mem_of_getElem? hqs)
      have hst := HS.out
      rw [lsz_drop rsize hqs hmm] at hst
      have hu2 := (HB.out.cell (p := ⟨b, off + k * 1, none⟩) hbl).trans hu
      rw [Nat.mul_one] at hu2
      have hv2 := hv.below HB.out
      obtain ⟨a2, c2, rfl⟩ := hv.form
      have kc := Lib.hid (ratsSize_any hv2 hbig.2 hbig.1)
      obtain ⟨r, hr⟩ : ∃ r, r = rsize qs := ⟨_, rfl⟩
      have hr2 : r ≤ 200000000000000 := hr ▸ rsize_le hbig
      have kc := Lib.hid (show Calls Tryz.prog 17 #[.slice a2 qs.length c2] wr fun e w' => e = .returned (.int .i64 (r : Nat)) ∧ Below wr.heap.size wr w' from hr ▸ kc.out)
      rw [← hr] at hst
      obtain ⟨z, hz⟩ : ∃ z, z = m + r := ⟨_, rfl⟩
      rw [← hz] at hst
      have hz2 : (m : Int) + (r : Int) = (z : Int) := by omega
      have hz3 : z ≤ 400000000000000 := by omega
      have HST := Lib.hid hst
      have j1 : (k : Int) < (n : Int) := by omega
      have j2 : (m : Int) ≤ 1048576 := by omega
      have j3 : decide ((m : Int) ≤ 1048576) = true := decide_eq_true j2
      clear hv hv2 hu hbig hst hr hz hqs hc HA HQ
      go_wp2_with fail
      refine kc.out.mono ?_
      rintro e w1 ⟨rfl, rr⟩
      have HB1 := Lib.hid (then_below HB.out rr)
      clear kc rr HB
      go_wp2_with fail
      go_roundw
      case rel => exact ⟨k + 1, z, by omega, hz3, by simp, rfl, HST, HB1.out⟩
      case measure => simp [intOf]; omega
    · have hst := HS.out
      rw [lsz_stop rsize (by have := HL.out; omega) hmm] at hst
      have HST := Lib.hid hst
      have j1 : (k : Int) < (n : Int) := by omega
      have j2 : ¬ (m : Int) ≤ 1048576 := by omega
      have j3 : decide ((m : Int) ≤ 1048576) = false := decide_eq_false j2
      clear hst HA HQ
      go_wp2_with fail
      go_ret
      exact ⟨by rw [← HST.out]; rfl, HB.out⟩
  · have hst := HS.out
    rw [List.drop_eq_nil_of_le (by have := HL.out; omega)] at hst
    simp only [lsz] at hst
    have HST := Lib.hid hst
    have j1 : ¬ (k : Int) < (n : Int) := by omega
    clear hst HA HQ
    go_wp2_with fail
    go_ret
    exact ⟨by rw [← HST.out]; rfl, HB.out⟩
end
end Go.Proofs.YtgmbaamfobhceaaGreat
