/- The law package's own helpers over rows of fractions: how much is in one, however long. -/
import Derived.Test.YtbndmpdaloadjaaGreatGVecW
import Derived.BigQuiet
import Derived.Deep.QuietTactic
set_option linter.unusedSimpArgs false
set_option linter.unusedVariables false
set_option maxRecDepth 100000
set_option maxHeartbeats 4000000
namespace Go.Proofs.YtbndmpdaloadjaaGreat
open Go Go.Proofs Go.RowKit Go.Shelf Nu

attribute [local go_sem] Oper.semAt_some

def rsz (l d : Nat) : Nat := if 2 + l ≤ 1048576 then 2 + l + d else 2 + l
def ssz : Nat → List Qr → Nat
 | n, [] => n
 | n, q :: t => if n ≤ 1048576 then ssz (n + rsz q.2.1.length q.2.2.length) t else n
theorem ssz_ge (n : Nat) (qs : List Qr) : n ≤ ssz n qs := by
 induction qs generalizing n with
 | nil => exact Nat.le_refl _
 | cons q t ih =>
  simp only [ssz]
  split
  · have := ih (n + rsz q.2.1.length q.2.2.length); omega
  · exact Nat.le_refl _
/-- parts, of all together -/
def psum : List Qr → Nat
 | [] => 0
 | q :: t => q.2.1.length + q.2.2.length + 2 + psum t
theorem ssz_small {n M : Nat} {qs : List Qr} (hM : M ≤ 100000) (h : ssz n qs ≤ M) : n + psum qs ≤ M := by
 induction qs generalizing n with
 | nil => simpa [ssz, psum] using h
 | cons q t ih =>
  simp only [ssz] at h
  split at h
  · have h1 := ssz_ge (n + rsz q.2.1.length q.2.2.length) t
    have h2 := ih h
    have h3 : rsz q.2.1.length q.2.2.length = 2 + q.2.1.length + q.2.2.length := by
     unfold rsz; split
     · rfl
     · rename_i h4
       have h5 : rsz q.2.1.length q.2.2.length = 2 + q.2.1.length := if_neg h4
       rw [h5] at h1
       rw [h5] at h
       omega
    simp only [psum]
    omega
  · omega
/-- parts are parts, however many -/
def Big (q : Qr) : Prop := (Sm q.2.1 ∧ Sm q.2.2) ∧ q.2.1.length ≤ 70368744177664 ∧ q.2.2.length ≤ 70368744177664
theorem psum_mem {qs : List Qr} {q : Qr} (h : q ∈ qs) : q.2.1.length + q.2.2.length + 2 ≤ psum qs := by
 induction qs with
 | nil => cases h
 | cons y t ih =>
  simp only [psum]
  rcases List.mem_cons.1 h with rfl | h
  · omega
  · have := ih h; omega
theorem fit_of_small {qs : List Qr} {n M : Nat} (hM : M ≤ 9000) (hb : ∀ q ∈ qs, Big q) (h : ssz n qs ≤ M) : ∀ q ∈ qs, Fit q := by
 intro q hq
 have h1 := ssz_small (by omega) h
 have h2 := psum_mem hq
 exact ⟨(hb q hq).1, by omega, by omega⟩
theorem rl_qr (X : Rat) : (qr X).2.1.length + (qr X).2.2.length = rl X := rfl
theorem wts_psum (xs : List Rat) : wts xs ≤ psum (xs.map qr) := by
 induction xs with
 | nil => exact Nat.le_refl _
 | cons x t ih => have := wt_rl x; have := rl_qr x; show wt x + wts t ≤ (qr x).2.1.length + (qr x).2.2.length + 2 + psum (t.map qr); omega

theorem natSize_any (a : Option Addr) (n c : Nat) (w : World) : Calls Tryz.prog 65 #[.slice a n c] w fun e w' => e = .returned (.int .i64 (n : Int)) ∧ w' = w := by
 go_enter Tryz.func65, Tryz.ntmps65
 go_wp2
 go_ret
 exact ⟨rfl, rfl⟩
theorem intSize_any (b : Bool) (a : Option Addr) (n c : Nat) (w : World) (hn : n ≤ 70368744177664) : Calls Tryz.prog 64 #[.agg #[.bool b, .slice a n c]] w fun e w' => e = .returned (.int .i64 (1 + (n : Int))) ∧ Below w.heap.size w w' := by
 go_enter Tryz.func64, Tryz.ntmps64
 go_wp2_with (go_at_call 65; refine (natSize_any _ _ _ _).mono ?_; rintro e w1 ⟨rfl, rfl⟩)
 go_ret
 exact ⟨rfl, (Below.refl _ _).alloc (Nat.le_refl _) _⟩
theorem ratSize_any (b : Bool) (a a' : Option Addr) (n c m c' : Nat) (w : World) (hn : n ≤ 70368744177664) (hm : m ≤ 70368744177664) : Calls Tryz.prog 37 #[.agg #[.bool b, .slice a n c, .slice a' m c']] w fun e w' => e = .returned (.int .i64 (rsz n m : Nat)) ∧ Below w.heap.size w w' := by
 have hB : BoxN (w.alloc (.cells #[.bool b, .slice a n c, .slice a' m c'] 32)) w.heap.size 32 #[.bool b, .slice a n c, .slice a' m c'] := BoxN.new w _ _
 have al : Below w.heap.size w (w.alloc (.cells #[.bool b, .slice a n c, .slice a' m c'] 32)) := (Below.refl _ _).alloc (Nat.le_refl _) _
 obtain ⟨s, hs⟩ : ∃ s : Nat, s = 1 + n := ⟨_, rfl⟩
 have hs2 : (1 : Int) + (n : Int) = (s : Int) := by omega
 have k1 := intSize_any b a n c (w.alloc (.cells #[.bool b, .slice a n c, .slice a' m c'] 32)) hn
 rw [hs2] at k1
 have hs3 : s ≤ 70368744177665 := by omega
 obtain ⟨u, hu⟩ : ∃ u : Nat, u = 1 + s := ⟨_, rfl⟩
 have hu2 : (1 : Int) + (s : Int) = (u : Int) := by omega
 have hu3 : u ≤ 70368744177666 := by omega
 have HB := Lib.hid hB
 have HA := Lib.hid al
 by_cases h : u ≤ 1048576
 · have e0 : rsz n m = u + m := (if_pos (by omega)).trans (by omega)
   obtain ⟨r, hr⟩ : ∃ r : Nat, r = u + m := ⟨_, rfl⟩
   have hr2 : (u : Int) + (m : Int) = (r : Int) := by omega
   rw [e0, ← hr]
   have h2 : (u : Int) ≤ 1048576 := by omega
   clear e0 hB al hs hs2 hu hr h hn
   go_enter Tryz.func37, Tryz.ntmps37
   go_wp2_with fail
   refine k1.mono ?_
   rintro e w1 ⟨rfl, rr⟩
   have hx := HB.out.under rr
   have x2 := hx.cell 2 _ rfl
   have HL := Lib.hid (then_below HA.out rr)
   clear k1 rr hx HB HA
   go_wp2_with fail
   refine (natSize_any _ _ _ _).mono ?_
   rintro e w2 ⟨rfl, rfl⟩
   go_wp2_with fail
   go_ret
   exact ⟨rfl, HL.out⟩
 · have e0 : rsz n m = u := (if_neg (by omega)).trans (by omega)
   rw [e0]
   have h2 : ¬ (u : Int) ≤ 1048576 := by omega
   clear e0 hB al hs hs2 hu h hn
   go_enter Tryz.func37, Tryz.ntmps37
   go_wp2_with fail
   refine k1.mono ?_
   rintro e w1 ⟨rfl, rr⟩
   have HL := Lib.hid (then_below HA.out rr)
   clear k1 rr HB HA
   go_wp2_with fail
   go_ret
   exact ⟨rfl, HL.out⟩

theorem ssz_le (n : Nat) (qs : List Qr) (hq : ∀ q ∈ qs, Big q) (hn : n ≤ 200000000000000) : ssz n qs ≤ 200000000000000 := by
 induction qs generalizing n with
 | nil => exact hn
 | cons q t ih =>
  simp only [ssz]
  split
  · have h1 := hq q (by simp)
    refine ih _ (fun x hx => hq x (by simp [hx])) ?_
    have : rsz q.2.1.length q.2.2.length ≤ 2 + q.2.1.length + q.2.2.length := by unfold rsz; split <;> omega
    have := h1.2.1; have := h1.2.2
    omega
  · exact hn
theorem drop_cons {qs : List Qr} {k : Nat} (h : k < qs.length) : qs.drop k = qs.getD k default :: qs.drop (k + 1) := by
 rw [List.drop_eq_getElem_cons h]; congr 1
 rw [List.getD_eq_getElem?_getD, List.getElem?_eq_getElem h]; rfl

theorem ratsSize_any {w : World} {a : Option Addr} {n cap : Nat} {qs : List Qr} (h : VReads w (.slice a n cap) qs) (hq : ∀ q ∈ qs, Big q) (hn : n ≤ 70368744177664) :
  Calls Tryz.prog 13 #[.slice a n cap] w fun e w' => e = .returned (.int .i64 (ssz n qs : Nat)) ∧ Below w.heap.size w w' := by
 obtain ⟨hl, hcap, b, off, ha, hc⟩ := h.addr
 have HC := Lib.hid hc
 have HA := Lib.hid ha
 have HQ := Lib.hid hq
 have HL := Lib.hid hl
 clear h hc ha hq hl
 go_enter Tryz.func13, Tryz.ntmps13
 go_wp2
 go_loopw [3, 4] (fun s i wr => ∃ (k m : Nat), k ≤ n ∧ m ≤ 200000000000000 ∧ i = .int .i64 k ∧ s = .int .i64 m ∧ Hid (ssz m (qs.drop k) = ssz n qs) ∧ Below w.heap.size w wr) (fun _ i _ => n - (intOf i).toNat)
 case atStart => exact ⟨0, n, Nat.zero_le _, by omega, rfl, rfl, Lib.hid rfl, Below.refl _ _⟩
 case round =>
  obtain ⟨k, m, hk, hm, rfl, rfl, HS, hb⟩ := hrel
  have HB := Lib.hid hb
  clear hb
  by_cases hlt : k < n
  · by_cases hmm : m ≤ 1048576
    · obtain ⟨rfl, hbl⟩ := HA.out (by omega)
      have hk2 : k < qs.length := by have := HL.out; omega
      have hqat := (HC.out k _ (qs_at hk2)).below hbl HB.out
      have hbig := HQ.out _ (qs_mem hk2)
      have hst := HS.out
      rw [drop_cons hk2] at hst
      simp only [ssz, if_pos hmm] at hst
      generalize qs.getD k default = q at *
      obtain ⟨s, l1, d1⟩ := q
      obtain ⟨p, c, p', c', h0, h1, h2, g1, g2⟩ := hqat
      dsimp only at h0 h1 h2 hbig hst
      have kc := ratSize_any s p p' l1.length c d1.length c' wr hbig.2.1 hbig.2.2
      obtain ⟨r, hr⟩ : ∃ r, r = rsz l1.length d1.length := ⟨_, rfl⟩
      rw [← hr] at kc hst
      have hr2 : r ≤ 150000000000000 := by
       have := hbig.2.1; have := hbig.2.2
       have : rsz l1.length d1.length ≤ 2 + l1.length + d1.length := by unfold rsz; split <;> omega
       dsimp only at *
       omega
      obtain ⟨u, hu⟩ : ∃ u, u = m + r := ⟨_, rfl⟩
      rw [← hu] at hst
      have hu2 : (m : Int) + (r : Int) = (u : Int) := by omega
      have hu3 : u ≤ 200000000000000 := by omega
      have HST := Lib.hid hst
      have j1 : (k : Int) < (n : Int) := by omega
      have j2 : (m : Int) ≤ 1048576 := by omega
      have j3 : decide ((m : Int) ≤ 1048576) = true := decide_eq_true j2
      clear g1 g2 hbig hst hr hu hk2 HA HC
      go_wp2_with fail
      refine kc.mono ?_
      rintro e w1 ⟨rfl, rr⟩
      have HB1 := Lib.hid (then_below HB.out rr)
      clear kc rr HB
      go_wp2_with fail
      go_roundw
      case rel => exact ⟨k + 1, u, by omega, hu3, by simp, rfl, HST, HB1.out⟩
      case measure => simp [intOf]; omega
    · have hst := HS.out
      have hk2 : k < qs.length := by have := HL.out; omega
      rw [drop_cons hk2] at hst
      simp only [ssz, if_neg hmm] at hst
      have HST := Lib.hid hst
      have j1 : (k : Int) < (n : Int) := by omega
      have j2 : ¬ (m : Int) ≤ 1048576 := by omega
      have j3 : decide ((m : Int) ≤ 1048576) = false := decide_eq_false j2
      clear hst hk2 HA HC
      go_wp2_with fail
      go_ret
      exact ⟨by rw [← HST.out]; rfl, HB.out⟩
  · have hst := HS.out
    rw [List.drop_eq_nil_of_le (by have := HL.out; omega)] at hst
    simp only [ssz] at hst
    have HST := Lib.hid hst
    have j1 : ¬ (k : Int) < (n : Int) := by omega
    clear hst HA HC
    go_wp2_with fail
    go_ret
    exact ⟨by rw [← HST.out]; rfl, HB.out⟩
end Go.Proofs.YtbndmpdaloadjaaGreat
