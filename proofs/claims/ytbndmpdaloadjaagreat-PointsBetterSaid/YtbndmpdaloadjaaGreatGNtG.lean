/- Lists of anything, as they are handed over; how much is in a grid, and in a norm. -/
import Derived.Test.YtbndmpdaloadjaaGreatGNtS
import Derived.Test.YtbndmpdaloadjaaGreatGNtL
set_option linter.unusedSimpArgs false
set_option linter.unusedVariables false
set_option maxHeartbeats 4000000
namespace Go.Proofs.YtbndmpdaloadjaaGreat
open Go Go.Proofs Go.RowKit Go.Shelf Nu
set_option linter.unusedVariables false
set_option linter.unusedSimpArgs false
set_option maxRecDepth 100000

attribute [local go_sem] Oper.semAt_some

/-- the slice value v reads as the list l: each of its elements lies in k cells -/
def LRd {α : Type} (k : Nat) (El : World → Nat → Nat → α → Prop) (W : World) (v : Value) (l : List α) : Prop :=
 ∃ a cap, v = .slice a l.length cap ∧ l.length ≤ cap ∧ (0 < l.length → ∃ b off, a = some ⟨b, off, none⟩ ∧ b < W.heap.size ∧ ∀ j x, l[j]? = some x → El W b (off + j * k) x)
section
variable {α : Type} {k : Nat} {El : World → Nat → Nat → α → Prop} {W W' : World} {v : Value} {l : List α}
theorem LRd.form (h : LRd k El W v l) : ∃ a cap, v = .slice a l.length cap ∧ l.length ≤ cap := by
 obtain ⟨a, cap, e, hc, _⟩ := h
 exact ⟨a, cap, e, hc⟩
theorem LRd.addr {a : Option Addr} {n cap : Nat} (h : LRd k El W (.slice a n cap) l) : n = l.length ∧ n ≤ cap ∧ (0 < n → ∃ b off, a = some ⟨b, off, none⟩ ∧ b < W.heap.size ∧ ∀ j x, l[j]? = some x → El W b (off + j * k) x) := by
 obtain ⟨a', cap', e, hc, h⟩ := h
 cases e
 exact ⟨rfl, hc, h⟩
theorem LRd.below (he : ∀ b o x, b < W.heap.size → El W b o x → El W' b o x) (h : LRd k El W v l) (hb : Below W.heap.size W W') : LRd k El W' v l := by
 obtain ⟨a, cap, e, hc, h⟩ := h
 refine ⟨a, cap, e, hc, fun h0 => ?_⟩
 obtain ⟨b, off, e1, h1, h2⟩ := h h0
 exact ⟨b, off, e1, Nat.lt_of_lt_of_le h1 hb.size, fun j x hx => he _ _ _ h1 (h2 j x hx)⟩
end
/-- a cell that holds a row of fractions; a truth -/
def GEl (W : World) (b o : Nat) (qs : List Qr) : Prop := ∃ u, W.cell? ⟨b, o, none⟩ = some u ∧ VReads W u qs
def BEl (W : World) (b o : Nat) (x : Bool) : Prop := W.cell? ⟨b, o, none⟩ = some (.bool x)
abbrev GridR (W : World) (v : Value) (rows : List (List Qr)) : Prop := LRd 1 GEl W v rows
abbrev BoolsR (W : World) (v : Value) (l : List Bool) : Prop := LRd 1 BEl W v l
theorem GridR.below {W W' : World} {v : Value} {l : List (List Qr)} (h : GridR W v l) (hb : Below W.heap.size W W') : GridR W' v l :=
 LRd.below (fun b o x h1 h2 => by obtain ⟨u, h3, h4⟩ := h2; exact ⟨u, (hb.cell (p := ⟨b, o, none⟩) h1).trans h3, h4.below hb⟩) h hb
theorem BoolsR.below {W W' : World} {v : Value} {l : List Bool} (h : BoolsR W v l) (hb : Below W.heap.size W W') : BoolsR W' v l :=
 LRd.below (fun b o x h1 h2 => (hb.cell (p := ⟨b, o, none⟩) h1).trans h2) h hb

/-- how much is in a list, counted with an early end -/
def lsz {α : Type} (f : α → Nat) : Nat → List α → Nat
 | n, [] => n
 | n, x :: t => if n ≤ 1048576 then lsz f (n + f x) t else n
theorem lsz_le {α : Type} (f : α → Nat) (n : Nat) (l : List α) (hf : ∀ x ∈ l, f x ≤ 300000000000000) (hn : n ≤ 400000000000000) : lsz f n l ≤ 400000000000000 := by
 induction l generalizing n with
 | nil => exact hn
 | cons x t ih =>
  simp only [lsz]
  split
  · exact ih _ (fun y hy => hf y (by simp [hy])) (by have := hf x (by simp); omega)
  · exact hn
/-- .. of all together, where that is small -/
def lsum {α : Type} (f : α → Nat) : List α → Nat
 | [] => 0
 | x :: t => f x + lsum f t
theorem lsz_small {α : Type} (f : α → Nat) {n M : Nat} {l : List α} (hM : M ≤ 100000) (h : lsz f n l ≤ M) : n + lsum f l ≤ M := by
 induction l generalizing n with
 | nil => simpa [lsz, lsum] using h
 | cons x t ih =>
  simp only [lsz] at h
  split at h
  · have := ih h
    simp only [lsum]; omega
  · omega
theorem lsum_mem {α : Type} (f : α → Nat) {l : List α} {x : α} (h : x ∈ l) : f x ≤ lsum f l := by
 induction l with
 | nil => cases h
 | cons y t ih =>
  simp only [lsum]
  rcases List.mem_cons.1 h with rfl | h
  · omega
  · have := ih h; omega
theorem lsz_drop {α : Type} (f : α → Nat) {l : List α} {k n : Nat} {x : α} (hx : l[k]? = some x) (hn : n ≤ 1048576) : lsz f n (l.drop k) = lsz f (n + f x) (l.drop (k + 1)) := by
 have hk := (List.getElem?_eq_some_iff.1 hx).1
 rw [List.drop_eq_getElem_cons hk]
 simp only [lsz, if_pos hn]
 rw [List.getElem?_eq_getElem hk] at hx
 cases hx
 rfl
theorem lsz_stop {α : Type} (f : α → Nat) {l : List α} {k n : Nat} (hk : k < l.length) (hn : ¬ n ≤ 1048576) : lsz f n (l.drop k) = n := by
 rw [List.drop_eq_getElem_cons hk]
 simp only [lsz, if_neg hn]
def rsize (qs : List Qr) : Nat := ssz qs.length qs
def gsize (rows : List (List Qr)) : Nat := lsz rsize rows.length rows
/-- lists may be as long as any -/
def GBig (rows : List (List Qr)) : Prop := rows.length ≤ 70368744177664 ∧ ∀ qs ∈ rows, qs.length ≤ 70368744177664 ∧ ∀ q ∈ qs, Big q
theorem rsize_le {qs : List Qr} (h : qs.length ≤ 70368744177664 ∧ ∀ q ∈ qs, Big q) : rsize qs ≤ 200000000000000 := ssz_le _ _ h.2 (by have := h.1; omega)

theorem gridSize_any {w : World} {a : Option Addr} {n cap : Nat} {rows : List (List Qr)} (h : GridR w (.slice a n cap) rows) (hq : GBig rows) :
  Calls Tryz.prog 35 #[.slice a n cap] w fun e w' => e = .returned (.int .i64 (gsize rows : Nat)) ∧ Below w.heap.size w w' := by
 obtain ⟨hl, hcap, hA⟩ := h.addr
 have HA := Lib.hid hA
 have HQ := Lib.hid hq
 have HL := Lib.hid hl
 have hn : n ≤ 70368744177664 := by rw [hl]; exact hq.1
 have HG := Lib.hid (show gsize rows = lsz rsize n rows by rw [hl]; rfl)
 generalize gsize rows = G at *
 clear h hA hq hl
 go_enter Tryz.func35, Tryz.ntmps35
 go_wp2
 go_loopw [3, 4] (fun s i wr => ∃ (k m : Nat), k ≤ n ∧ m ≤ 400000000000000 ∧ i = .int .i64 k ∧ s = .int .i64 m ∧ Hid (lsz rsize m (rows.drop k) = G) ∧ Below w.heap.size w wr) (fun _ i _ => n - (intOf i).toNat)
 case atStart => exact ⟨0, n, Nat.zero_le _, by omega, rfl, rfl, Lib.hid HG.out.symm, Below.refl _ _⟩
 case round =>
  clear HG
  obtain ⟨k, m, hk, hm, rfl, rfl, HS, hb⟩ := hrel
  have HB := Lib.hid hb
  clear hb
  by_cases hlt : k < n
  · by_cases hmm : m ≤ 1048576
    · obtain ⟨b, off, rfl, hbl, hc⟩ := HA.out (by omega)
      obtain ⟨qs, hqs⟩ : ∃ qs, rows[k]? = some qs := ⟨_, List.getElem?_eq_getElem (by have := HL.out; omega)⟩
      obtain ⟨u, hu, hv⟩ := hc k qs hqs
      have hbig := HQ.out.2 _ (List.mem_of_getElem? hqs)
      have hst := HS.out
      rw [lsz_drop rsize hqs hmm] at hst
      have hu2 := (HB.out.cell (p := ⟨b, off + k * 1, none⟩) hbl).trans hu
      rw [Nat.mul_one] at hu2
      have hv2 := hv.below HB.out
      obtain ⟨a2, c2, rfl⟩ := hv.form
      have kc := Lib.hid (ratsSize_any hv2 hbig.2 hbig.1)
      obtain ⟨r, hr⟩ : ∃ r, r = rsize qs := ⟨_, rfl⟩
      have hr2 : r ≤ 200000000000000 := hr ▸ rsize_le hbig
      have kc := Lib.hid (show Calls Tryz.prog 13 #[.slice a2 qs.length c2] wr fun e w' => e = .returned (.int .i64 (r : Nat)) ∧ Below wr.heap.size wr w' from hr ▸ kc.out)
      rw [← hr] at hst
      obtain ⟨z, hz⟩ : ∃ z, z = m + r := ⟨_, rfl⟩
      rw [← hz] at hst
      have hz2 : (m : Int) + (r : Int) = (z : Int) := by omega
      have hz3 : z ≤ 400000000000000 := by omega
      have HST := Lib.hid hst
      have j1 : (k : Int) < (n : Int) := by omega
      have j2 : (m : Int) ≤ 1048576 := by omega
      have j3 : decide ((m : Int) ≤ 1048576) = true := decide_eq_true j2
      clear hv hv2 hu hbig hst hr hz hqs hc HA HQ
      go_wp2_with fail
      refine kc.out.mono ?_
      rintro e w1 ⟨rfl, rr⟩
      have HB1 := Lib.hid (then_below HB.out rr)
      clear kc rr HB
      go_wp2_with fail
      go_roundw
      case rel => exact ⟨k + 1, z, by omega, hz3, by simp, rfl, HST, HB1.out⟩
      case measure => simp [intOf]; omega
    · have hst := HS.out
      rw [lsz_stop rsize (by have := HL.out; omega) hmm] at hst
      have HST := Lib.hid hst
      have j1 : (k : Int) < (n : Int) := by omega
      have j2 : ¬ (m : Int) ≤ 1048576 := by omega
      have j3 : decide ((m : Int) ≤ 1048576) = false := decide_eq_false j2
      clear hst HA HQ
      go_wp2_with fail
      go_ret
      exact ⟨by rw [← HST.out]; rfl, HB.out⟩
  · have hst := HS.out
    rw [List.drop_eq_nil_of_le (by have := HL.out; omega)] at hst
    simp only [lsz] at hst
    have HST := Lib.hid hst
    have j1 : ¬ (k : Int) < (n : Int) := by omega
    clear hst HA HQ
    go_wp2_with fail
    go_ret
    exact ⟨by rw [← HST.out]; rfl, HB.out⟩
theorem boolsSize_any (a : Option Addr) (n c : Nat) (w : World) : Calls Tryz.prog 36 #[.slice a n c] w fun e w' => e = .returned (.int .i64 (n : Int)) ∧ Below w.heap.size w w' := by
 go_enter Tryz.func36, Tryz.ntmps36
 go_wp2
 go_ret
 exact ⟨rfl, Below.refl _ _⟩
end Go.Proofs.YtbndmpdaloadjaaGreat
