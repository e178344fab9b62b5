/- Lines: the program's reader: a line of what is kept; what is kept grows, and is cleared. -/
import Derived.Test.YthpbcfoaabacgaaGreatDoorLnCa
import Derived.Deep.RegionLaw
import Derived.BigRegion
namespace Go.Proofs.YthpbcfoaabacgaaGreatDoor
open Go Go.Proofs Go.RowKit Go.Shelf
set_option linter.unusedVariables false
set_option linter.unusedSimpArgs false
set_option linter.unnecessarySimpa false

attribute [local go_sem] Oper.semAt_some
set_option maxRecDepth 100000
namespace Ln
theorem cut_short (l : List UInt8) : (cut l).length ≤ l.length := by
  unfold cut
  split
  · rw [List.length_dropLast]; omega
  · exact Nat.le_refl _
theorem cut_long (l : List UInt8) : l.length ≤ (cut l).length + 1 := by
  unfold cut
  split
  · rw [List.length_dropLast]; omega
  · omega
theorem cut_take (l : List UInt8) : cut l = l.take (cut l).length := by
  unfold cut
  split
  · rw [List.length_dropLast, List.dropLast_eq_take]
  · rw [List.take_length]
/-- too long is too long, whatever is kept of it -/
theorem line_kept (l : List UInt8) : line (l.take 70002) = line l := by
  by_cases h : l.length ≤ 70002
  · rw [List.take_of_length_le h]
  · have h1 : may (cut l) = false := by
      unfold may
      rw [decide_eq_false (by have := cut_long l; omega), Bool.and_false]
    have h2 : may (cut (l.take 70002)) = false := by
      unfold may
      rw [decide_eq_false (by have := cut_long (l.take 70002); rw [List.length_take] at this; omega), Bool.and_false]
    unfold line
    rw [h1, h2]
    rfl
theorem take_both (a b : List UInt8) : (a ++ b).take 70002 = a.take 70002 ++ b.take (70002 - (a.take 70002).length) := by
  rw [List.take_append, List.length_take]
  congr 2
  omega
end Ln
/-- bytes.TrimSuffix of a byte 13 -/
theorem trim13_any {W : World} {a : Option Addr} {c : Nat} {l : List UInt8} {B : Nat} (hv : RdC W (.slice a l.length c) l.length (bcells l)) (hl : l.length ≤ 100000000) (hB : W.cell? ⟨B, 0, none⟩ = some (.int .u8 13)) :
    Calls Tryz.prog 60 #[.slice a l.length c, .slice (some ⟨B, 0, none⟩) 1 1] W fun e w' => e = .returned (.slice a (Ln.cut l).length c) ∧ w' = W := by
  obtain ⟨a', c', e, hac, ha⟩ := hv
  cases e
  have hz : Lib.bytesOf (l.map fun x => (x.toNat : Int)) = l := by
    unfold Lib.bytesOf
    rw [List.map_map]
    have : ((fun n : Int => UInt8.ofNat n.toNat) ∘ fun x : UInt8 => (x.toNat : Int)) = id := by
      funext x
      simp
    rw [this, List.map_id]
  have h1 : Lib.BytesIn W a l.length (l.map fun x => (x.toNat : Int)) := fun hn => by
    obtain ⟨b, off, rfl, _, hg⟩ := ha hn
    refine ⟨b, off, rfl, fun i hi => ?_⟩
    rw [hg i _ (bcells_get (List.getElem?_eq_getElem hi))]
    simp [bcell, hi]
  have h2 : Lib.BytesIn W (some ⟨B, 0, none⟩) 1 [13] := fun _ => ⟨B, 0, rfl, fun i hi => by
    obtain rfl : i = 0 := by omega
    exact hB⟩
  have := Any.bytes_TrimSuffix_all YthpbcfoaabacgaaGreatDoor.tsL a (some ⟨B, 0, none⟩) l.length c 1 1 (l.map fun x => (x.toNat : Int)) [13] W (by simp) rfl hac (by omega) h1 h2
  refine this.mono fun e w' ⟨he, hw⟩ => ⟨he.trans ?_, hw⟩
  have hs : Lib.hasSuffix l [13] = decide (l.getLast? = some 13) := by
    unfold Lib.hasSuffix
    rw [Bool.eq_iff_iff, List.isSuffixOf_iff_suffix, decide_eq_true_iff]
    constructor
    · rintro ⟨t, rfl⟩; simp
    · intro h
      obtain ⟨hne, h⟩ := List.getLast?_eq_some_iff.1 h
      exact ⟨hne, h.symm⟩
  by_cases h0 : l = []
  · subst h0
    unfold Lib.trimSuffixV
    split
    · unfold Lib.bytesTrimSuffix Lib.sliceTo
      simp [Lib.bytesOf, Lib.hasSuffix, Ln.cut]
    · rfl
  · obtain ⟨b, off, rfl, _, _⟩ := ha (List.length_pos_iff.2 h0)
    unfold Lib.trimSuffixV Lib.bytesTrimSuffix Lib.sliceTo
    simp only [hz]
    rw [show Lib.bytesOf [13] = ([13] : List UInt8) from rfl, hs]
    unfold Ln.cut
    by_cases h : l.getLast? = some 13
    · rw [decide_eq_true h, if_pos h, List.length_dropLast]; simp
    · rw [decide_eq_false h, if_neg h]; rfl
set_option maxHeartbeats 4000000 in
/-- a line of what is kept -/
theorem pline_any {W : World} {P base : Nat} {kb : Value} {cur : List UInt8} (h : PR W P base kb cur) :
    Calls Tryz.prog 19 #[.pointer (some ⟨P, 0, none⟩)] W fun e w' => e = .returned (.tuple #[scell (Ln.line cur).1, .bool (!(Ln.line cur).2)]) ∧ Below W.heap.size W w' := by
  have hP := h.lt
  have c1 := h.c1
  rw [← Ln.line_kept]
  have hrow := h.row
  obtain ⟨K, hK⟩ : ∃ K, K = cur.take 70002 := ⟨_, rfl⟩
  have hKl : K.length ≤ 70002 := by rw [hK, List.length_take]; omega
  rw [← hK] at hrow ⊢
  obtain ⟨a, c, rfl⟩ := lform_row hrow
  clear hK h
  have b1 : Below W.heap.size W (W.alloc (.cells #[.int .u8 13] 5)) := (Below.refl _ _).alloc (Nat.le_refl _) _
  have hr : RdC (W.alloc (.cells #[.int .u8 13] 5)) (.slice a K.length c) K.length (bcells K) := (own_rdc hrow).below b1
  have HT := Lib.hid (trim13_any (B := W.heap.size) hr (by omega) (by rw [World.cell?_alloc_new]; rfl))
  have hcut := lrdc_cut hr (Ln.cut K).length (Ln.cut_short K)
  rw [← Ln.cut_take] at hcut
  have HM := Lib.hid (maybe_any hcut (by have := Ln.cut_short K; omega))
  have hcv := lconv_of hcut
  have HB := Lib.hid b1
  have hmx : ∀ q, (convert 42 9 (.slice a (Ln.cut K).length c)).run Tryz.prog ((W.alloc (.cells #[.int .u8 13] 5)).drewN q) = .ok (.string ⟨(Ln.cut K).toArray⟩) ((W.alloc (.cells #[.int .u8 13] 5)).drewN q) := fun q => lconv_of (W := (W.alloc (.cells #[.int .u8 13] 5)).drewN q) hcut
  have HX := Lib.hid hmx
  clear hr hcut hrow b1 hcv hmx
  obtain ⟨S, hS⟩ : ∃ S : ByteArray, S = ⟨(Ln.cut K).toArray⟩ := ⟨_, rfl⟩
  rw [← hS] at HX
  have HS := Lib.hid (show Value.string S = scell (Ln.cut K) by rw [hS]; rfl)
  obtain ⟨M, hM⟩ : ∃ M, M = (Ln.cut K).length := ⟨_, rfl⟩
  rw [← hM] at HT HM HX
  obtain ⟨N, hN⟩ : ∃ N, N = K.length := ⟨_, rfl⟩
  rw [← hN] at HT
  rw [← hN] at c1
  have HLN := Lib.hid (show Ln.line K = bif Ln.may (Ln.cut K) then (Ln.cut K, false) else ([], true) from by unfold Ln.line; cases Ln.may (Ln.cut K) <;> rfl)
  obtain ⟨B, hB⟩ : ∃ B, B = Ln.may (Ln.cut K) := ⟨_, rfl⟩
  rw [← hB] at HM HLN
  clear hS hM hN hB hKl
  cases B with
  | true =>
    go_enter Tryz.func19, Tryz.ntmps19
    go_wp2_with (go_at_call 60; refine HT.out.mono ?_; rintro e w' ⟨rfl, rfl⟩)
    go_wp2_with (go_at_call 61; refine HM.out.mono ?_; rintro e w' ⟨rfl, q, rfl⟩; have hx := HX.out q)
    go_ret2
    exact ⟨by rw [show (Ln.line K).1 = Ln.cut K by rw [HLN.out]; rfl, show (Ln.line K).2 = false by rw [HLN.out]; rfl, ← HS.out]; rfl, below_drewN HB.out q⟩
  | false =>
    go_enter Tryz.func19, Tryz.ntmps19
    go_wp2_with (go_at_call 60; refine HT.out.mono ?_; rintro e w' ⟨rfl, rfl⟩)
    go_wp2_with (go_at_call 61; refine HM.out.mono ?_; rintro e w' ⟨rfl, q, rfl⟩)
    go_ret2
    exact ⟨by rw [show (Ln.line K).1 = [] by rw [HLN.out]; rfl, show (Ln.line K).2 = true by rw [HLN.out]; rfl]; rfl, below_drewN HB.out q⟩
end Go.Proofs.YthpbcfoaabacgaaGreatDoor
