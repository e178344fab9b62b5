/- A number's digits, the lowest first: what each call of the closure answers. -/
import Derived.Deep.QuietTactic
import Derived.BigQuiet
import Derived.Test.YtimdinmhphihkaaGreatDoorGPart
namespace Go.Proofs.YtimdinmhphihkaaGreatDoor
open Go Go.Proofs Go.RowKit Go.Shelf Nu

/-- the closure's three variables: V is what is still to be told -/
def DigInv (W : World) (base s : Nat) (V : Nat) : Prop :=
  ∃ (v : Value) (R : List Nat) (low ready : Nat), Boxed W s 23 v ∧ Boxed W (s + 1) 90 (.int .u32 low) ∧ Boxed W (s + 1 + 1) 3 (.int .i64 ready) ∧ Fresh W base v R ∧ Sm R ∧ chk R = true ∧ R.length ≤ 100000 ∧
    low < 10 ^ ready ∧ ready ≤ 9 ∧ V = val R * 10 ^ ready + low ∧ (v.ownBlock = none ∨ ∃ g, v.ownBlock = some g ∧ g < s)

/-- what lies behind the closure's variables is as it was -/
def Over (s : Nat) (w w' : World) : Prop := ∀ b, s + 3 ≤ b → b < w.heap.size → w'.heap[b]? = w.heap[b]?
theorem Over.set {s B : Nat} {w w' : World} (h : Over s w w') (hB : B < s + 3) (u : Value) : Over s w (w'.setCell ⟨B, 0, none⟩ u) := fun b h1 h2 => (Below.heap_setCell w' ⟨B, 0, none⟩ u b (by show b ≠ B; omega)).trans (h b h1 h2)
theorem Over.refl (s : Nat) (w : World) : Over s w w := fun _ _ _ => rfl
theorem Over.row {s size n : Nat} {w w' : World} {e : TypeId} {v : Value} {xs : List Value} (h : Over s w w') (hr : w.ownsRow (s + 3) e size v n xs) : w'.ownsRow (s + 3) e size v n xs := by
  refine ⟨hr.1, ?_⟩
  rcases hr.2 with hn | ⟨g, cap, cur, rfl, hb, hg, rest⟩
  · exact .inl hn
  · exact .inr ⟨g, cap, cur, rfl, hb, (h g hb (Array.getElem?_eq_some_iff.1 hg).1).trans hg, rest⟩

theorem chk_val_zero {R : List Nat} (hs : Sm R) (hc : chk R = true) : val R = 0 ↔ R = [] := by
  constructor
  · intro h
    have := digs_val hs hc
    rw [h, digs_zero] at this
    exact this.symm
  · rintro rfl; rfl

/-- one digit -/
theorem dig_step {R low ready : Nat} (hl : low < 10 ^ (ready + 1)) : (R * 10 ^ (ready + 1) + low) % 10 = low % 10 ∧ (R * 10 ^ (ready + 1) + low) / 10 = R * 10 ^ ready + low / 10 ∧ low / 10 < 10 ^ ready := by
  rw [Nat.pow_succ] at *
  generalize 10 ^ ready = P at *
  have e : R * (P * 10) + low = low + 10 * (R * P) := by grind
  rw [e]
  refine ⟨by omega, by omega, by omega⟩

theorem dig_close {w : World} {base s low ready n : Nat} {v bv cv : Value} {L : List Nat} (hv : Boxed w s 23 v) (hlow : Boxed w (s + 1) 90 bv) (hr : Boxed w (s + 1 + 1) 3 cv) (hF : Fresh w base v L) (hs : Sm L) (hc : chk L = true) (hL : L.length ≤ 100000)
    (hl : low < 10 ^ ready) (hr9 : ready ≤ 9) (ho : v.ownBlock = none ∨ ∃ g, v.ownBlock = some g ∧ g < s) :
    DigInv (((w.setCell ⟨s + 1, 0, none⟩ (.int .u32 (low : Nat))).setCell ⟨s + 1 + 1, 0, none⟩ (.int .i64 (ready : Nat))).drewN n) base s (val L * 10 ^ ready + low) := by
  have hne : ∀ b, s ≤ b → b ≤ s + 2 → v.ownBlock = none ∨ v.ownBlock ≠ some b := fun b hb hb' => by
    rcases ho with h | ⟨g, h, hg⟩
    · exact .inl h
    · exact .inr (by rw [h]; intro e; injection e; omega)
  have hk1 : Fresh (w.setCell ⟨s + 1, 0, none⟩ (.int .u32 (low : Nat))) base v L := World.ownsRow.kept hF (grownBy_setCell' _ (s + 1) _) (hne (s + 1) (by omega) (by omega))
  have hk : Fresh ((w.setCell ⟨s + 1, 0, none⟩ (.int .u32 (low : Nat))).setCell ⟨s + 1 + 1, 0, none⟩ (.int .i64 (ready : Nat))) base v L := World.ownsRow.kept hk1 (grownBy_setCell' _ (s + 1 + 1) _) (hne (s + 1 + 1) (by omega) (by omega))
  exact ⟨v, L, low, ready, (hv.other (by omega) _).other (by omega) _, (hlow.set _).other (by omega) _, (hr.other (by omega) _).set _,
    hk, hs, hc, hL, hl, hr9, rfl, ho⟩
theorem below_dig {w : World} {base s n : Nat} (hb : base ≤ s) (a b : Value) : Below base w (((w.setCell ⟨s + 1, 0, none⟩ a).setCell ⟨s + 1 + 1, 0, none⟩ b).drewN n) :=
  have h := ((Below.refl base w).setCell (p := ⟨s + 1, 0, none⟩) (show base ≤ s + 1 by omega) a).setCell (p := ⟨s + 1 + 1, 0, none⟩) (show base ≤ s + 1 + 1 by omega) b
  ⟨h.os, h.tape, h.output, h.size, h.block⟩

set_option maxHeartbeats 4000000 in
/-- a call where ready is not 0 -/
theorem digits_call_ready {w : World} {base s low ready : Nat} {v : Value} {L : List Nat} (hv : Boxed w s 23 v) (hlow : Boxed w (s + 1) 90 (.int .u32 low)) (hr : Boxed w (s + 1 + 1) 3 (.int .i64 (ready + 1 : Nat))) (hF : Fresh w base v L) (hs : Sm L) (hc : chk L = true) (hL : L.length ≤ 100000)
    (hl : low < 10 ^ (ready + 1)) (hr9 : ready + 1 ≤ 9) (hb : base ≤ s) (ho : v.ownBlock = none ∨ ∃ g, v.ownBlock = some g ∧ g < s) (M : Bool) (hM : M = (val L * 10 ^ ready + low / 10 != 0)) :
    Calls Tryz.prog 216 #[.pointer (some ⟨s + 1 + 1, 0, none⟩), .pointer (some ⟨s, 0, none⟩), .pointer (some ⟨s + 1, 0, none⟩)] w fun e w' => e = .returned (.tuple #[.int .u8 (48 + (low : Int) % 10), .bool M]) ∧ DigInv w' base s (val L * 10 ^ ready + low / 10) ∧ Below base w w' ∧ Over s w w' := by
  have hl9 : low < 1000000000 := Nat.lt_of_lt_of_le hl (Nat.le_trans (Nat.pow_le_pow_right (by decide) hr9) (by decide))
  have hstep := (dig_step (R := val L) hl).2.2
  have hpos : 0 < 10 ^ ready := Nat.pow_pos (by decide)
  have hclose := fun n => dig_close (n := n) hv hlow hr hF hs hc hL hstep (by omega) ho
  have hbelow := fun n => below_dig (w := w) (n := n) hb (.int .u32 ((low : Int) / 10)) (.int .i64 (ready : Int))
  rw [show (((low / 10 : Nat)) : Int) = (low : Int) / 10 by omega] at hclose
  have HC := Lib.hid hclose
  have HB := Lib.hid hbelow
  have HO := Lib.hid (((Over.refl s w).set (show s + 1 < s + 3 by omega) (.int .u32 ((low : Int) / 10))).set (show s + 1 + 1 < s + 3 by omega) (.int .i64 (ready : Int)))
  have HM := Lib.hid hM
  have hcv := chk_val_zero hs hc
  obtain ⟨a, cap, hva⟩ := hF.reads.form
  subst hva
  have q1 := hv.cell
  have q2 := hlow.cell
  have q3 := hr.cell
  have q4 := hlow.frozen
  have q5 := hr.frozen
  rw [show ((ready + 1 : Nat) : Int) = (ready : Int) + 1 by omega] at q3
  have hz : (((ready : Int) + 1) == 0) = false := by simp; omega
  clear hl hclose hbelow hM hstep
  have hcases : (low / 10 ≠ 0 ∧ M = true) ∨ (low / 10 = 0 ∧ L.length = 0 ∧ M = false) ∨ (low / 10 = 0 ∧ L.length ≠ 0 ∧ M = true) := by
    rw [HM.out]
    by_cases h0 : low / 10 = 0
    · by_cases hn : L.length = 0
      · have : val L = 0 := hcv.2 (List.eq_nil_of_length_eq_zero hn)
        exact .inr (.inl ⟨h0, hn, by rw [this, h0]; simp⟩)
      · have : val L ≠ 0 := fun h => hn (by rw [hcv.1 h]; rfl)
        have : val L * 10 ^ ready ≠ 0 := Nat.mul_ne_zero this (by omega)
        exact .inr (.inr ⟨h0, hn, by simp; omega⟩)
    · exact .inl ⟨h0, by simp; omega⟩
  clear hcv hpos
  rcases hcases with ⟨h0, rfl⟩ | ⟨h0, hn, rfl⟩ | ⟨h0, hn, rfl⟩
  · have ht : (((low : Int) / 10) != 0) = true := by simp; omega
    clear h0
    go_enter Tryz.func216, Tryz.ntmps216
    go_wp2
    go_quiet (fail)
    go_wp2
    go_ret2
    exact ⟨rfl, HC.out _, HB.out _, HO.out⟩
  · have ht : (((low : Int) / 10) != 0) = false := by rw [show (low : Int) / 10 = 0 by omega]; rfl
    have ht2 : ((L.length : Int) != 0) = false := by rw [hn]; rfl
    clear h0 hn
    go_enter Tryz.func216, Tryz.ntmps216
    go_wp2
    go_quiet (fail)
    go_wp2
    go_ret2
    exact ⟨rfl, HC.out _, HB.out _, HO.out⟩
  · have ht : (((low : Int) / 10) != 0) = false := by rw [show (low : Int) / 10 = 0 by omega]; rfl
    have ht2 : ((L.length : Int) != 0) = true := bne_iff_ne.2 (by omega)
    clear h0 hn
    go_enter Tryz.func216, Tryz.ntmps216
    go_wp2
    go_quiet (fail)
    go_wp2
    go_ret2
    exact ⟨rfl, HC.out _, HB.out _, HO.out⟩

theorem Fresh.keptBox {W : World} {base B : Nat} {v : Value} {l : List Nat} (h : Fresh W base v l) (hne : v.ownBlock = none ∨ v.ownBlock ≠ some B) (u : Value) : Fresh (W.setCell ⟨B, 0, none⟩ u) base v l := World.ownsRow.kept h (grownBy_setCell' W B u) hne

theorem boxGrown {W W' : World} {B g : Nat} {t : TypeId} {v : Value} (h : Boxed W B t v) (hg : W.grownBy W' (some g)) (hne : B ≠ g) : Boxed W' B t v := h.kept hg (by intro e; cases e; exact hne rfl)

set_option maxHeartbeats 4000000 in
/-- a call where ready is 0: the next nine digits are split off first -/
theorem digits_call_split {w : World} {base s cap lo : Nat} {a0 : Option Addr} {L R : List Nat} (hv : Boxed w s 23 (.slice a0 L.length cap)) (hlow : Boxed w (s + 1) 90 (.int .u32 (0 : Nat))) (hr : Boxed w (s + 1 + 1) 3 (.int .i64 (0 : Nat))) (hs : Sm L) (hL : L.length ≤ 100000)
    (hb : base ≤ s) (hx : lo < 4294967296) (hlo : lo = val L % 1000000000) (hR : R = digs (val L / 1000000000)) (M : Bool) (hM : M = (val L / 10 != 0))
    (kt : Calls Tryz.prog 201 #[.slice a0 L.length cap, .int .u32 (1000000000 : Nat)] w fun e w' => ∃ a' c', e = .returned (.tuple #[.slice a' R.length c', .int .u32 lo]) ∧ Fresh w' base (.slice a' R.length c') R ∧ Below base w w' ∧ (∀ b t v, s ≤ b → b ≤ s + 2 → Boxed w b t v → Boxed w' b t v) ∧ Over s w w' ∧ ((Value.slice a' R.length c').ownBlock = none ∨ ∃ g, (Value.slice a' R.length c').ownBlock = some g ∧ g < s)) :
    Calls Tryz.prog 216 #[.pointer (some ⟨s + 1 + 1, 0, none⟩), .pointer (some ⟨s, 0, none⟩), .pointer (some ⟨s + 1, 0, none⟩)] w fun e w' => e = .returned (.tuple #[.int .u8 (48 + (val L : Int) % 10), .bool M]) ∧ DigInv w' base s (val L / 10) ∧ Below base w w' ∧ Over s w w' := by
  have q1 := hv.cell
  have q3 := hr.cell
  have HM := Lib.hid hM
  have HR := Lib.hid hR
  have HLO := Lib.hid hlo
  clear hM hR hlo
  go_enter Tryz.func216, Tryz.ntmps216
  go_wp2_with (go_at_call 201; refine kt.mono ?_; clear kt; rintro e w' ⟨a', c', rfl, hF', hB', hg', hov, ho'⟩; have hv' := hg' _ _ _ (by omega) (by omega) hv; have hlow' := hg' _ _ _ (by omega) (by omega) hlow; have hr' := hg' _ _ _ (by omega) (by omega) hr; clear hv hlow hr hg' q1 q3; have q1 := hv'.frozen; have q2 := hlow'.frozen; have q3 := hr'.frozen; have q4 := hv'.cell; have q5 := hlow'.cell; have q6 := hr'.cell)
  have hne : ∀ b, s ≤ b → b ≤ s + 2 → (Value.slice a' R.length c').ownBlock = none ∨ (Value.slice a' R.length c').ownBlock ≠ some b := fun b hb hb' => by
    rcases ho' with h | ⟨g, h, hg⟩
    · exact .inl h
    · exact .inr (by rw [h]; intro e; injection e; omega)
  have hR := HR.out
  have hlo := HLO.out
  have e8 : lo < 10 ^ (8 + 1) := by rw [hlo]; exact Nat.mod_lt _ (by decide)
  have hvR : val R = val L / 1000000000 := by rw [hR, val_digs]
  have hst := dig_step (R := val R) e8
  have eV : val R * 10 ^ (8 + 1) + lo = val L := by rw [hvR, hlo]; omega
  rw [eV] at hst
  have hsR : Sm R := by rw [hR]; exact sm_digs _
  have hcR : chk R = true := by rw [hR]; exact chk_digs _
  have hlR : R.length ≤ 100000 := by rw [hR]; exact Nat.le_trans (digs_length_le (Nat.lt_of_le_of_lt (Nat.div_le_self _ _) (val_lt hs))) hL
  have w1 := hF'.keptBox (hne s (by omega) (by omega)) (Value.slice a' R.length c')
  have w2 := w1.keptBox (hne (s + 1) (by omega) (by omega)) (.int .u32 lo)
  have w3 := w2.keptBox (hne (s + 1 + 1) (by omega) (by omega)) (.int .i64 9)
  have b1 := ((hv'.set (Value.slice a' R.length c')).other (show s ≠ s + 1 by omega) (.int .u32 lo)).other (show s ≠ s + 1 + 1 by omega) (.int .i64 9)
  have b2 := ((hlow'.other (show s + 1 ≠ s by omega) (Value.slice a' R.length c')).set (.int .u32 lo)).other (show s + 1 ≠ s + 1 + 1 by omega) (.int .i64 9)
  have b3 := ((hr'.other (show s + 1 + 1 ≠ s by omega) (Value.slice a' R.length c')).other (show s + 1 + 1 ≠ s + 1 by omega) (.int .u32 lo)).set (.int .i64 9)
  have hclose := fun n => dig_close (n := n) b1 b2 b3 w3 hsR hcR hlR hst.2.2 (by omega) ho'
  have hbelow := fun n => below_dig (w := ((w'.setCell ⟨s, 0, none⟩ (Value.slice a' R.length c')).setCell ⟨s + 1, 0, none⟩ (.int .u32 lo)).setCell ⟨s + 1 + 1, 0, none⟩ (.int .i64 9)) (n := n) hb (.int .u32 ((lo : Int) / 10)) (.int .i64 (8 : Int))
  have hbw := fun n => (((hB'.setCell (p := ⟨s, 0, none⟩) hb (Value.slice a' R.length c')).setCell (p := ⟨s + 1, 0, none⟩) (show base ≤ s + 1 by omega) (.int .u32 lo)).setCell (p := ⟨s + 1 + 1, 0, none⟩) (show base ≤ s + 1 + 1 by omega) (.int .i64 9)).trans (hbelow n)
  have hM2 := HM.out
  rw [hst.2.1] at hM2
  rw [show (((lo / 10 : Nat)) : Int) = (lo : Int) / 10 by omega, ← hst.2.1] at hclose
  clear HM HR HLO hR hlo w1 w2 w3 hbelow hvR eV e8
  have hd' := hst.1
  have hd : (48 : Int) + (lo : Int) % 10 = 48 + (val L : Int) % 10 := by omega
  have t1 := ((b1.other (show s ≠ s + 1 by omega) (.int .u32 ((lo : Int) / 10))).other (show s ≠ s + 1 + 1 by omega) (.int .i64 8)).cell
  have t2 := ((b2.set (.int .u32 ((lo : Int) / 10))).other (show s + 1 ≠ s + 1 + 1 by omega) (.int .i64 8)).cell
  have hcv := chk_val_zero hsR hcR
  have hpos : 0 < 10 ^ 8 := by decide
  have hcases : (lo / 10 ≠ 0 ∧ M = true) ∨ (lo / 10 = 0 ∧ R.length = 0 ∧ M = false) ∨ (lo / 10 = 0 ∧ R.length ≠ 0 ∧ M = true) := by
    rw [hM2]
    by_cases h0 : lo / 10 = 0
    · by_cases hn : R.length = 0
      · have : val R = 0 := hcv.2 (List.eq_nil_of_length_eq_zero hn)
        exact .inr (.inl ⟨h0, hn, by rw [this, h0]; simp⟩)
      · have : val R ≠ 0 := fun h => hn (by rw [hcv.1 h]; rfl)
        have : val R * 10 ^ 8 ≠ 0 := Nat.mul_ne_zero this (by omega)
        exact .inr (.inr ⟨h0, hn, by simp; omega⟩)
    · exact .inl ⟨h0, by simp; omega⟩
  have HD := Lib.hid hd
  have HC := Lib.hid hclose
  have HB := Lib.hid hbw
  have HO := Lib.hid (((((hov.set (show s < s + 3 by omega) (Value.slice a' R.length c')).set (show s + 1 < s + 3 by omega) (.int .u32 lo)).set (show s + 1 + 1 < s + 3 by omega) (.int .i64 9)).set (show s + 1 < s + 3 by omega) (.int .u32 ((lo : Int) / 10))).set (show s + 1 + 1 < s + 3 by omega) (.int .i64 8))
  clear hM2 hd hd' hclose hbw hcv hst b1 b2 b3
  rcases hcases with ⟨h0, rfl⟩ | ⟨h0, hn, rfl⟩ | ⟨h0, hn, rfl⟩
  · have ht : (((lo : Int) / 10) != 0) = true := by simp; omega
    go_quiet (fail)
    go_wp2
    go_ret2
    rw [HD.out]
    exact ⟨rfl, HC.out _, HB.out _, HO.out⟩
  · have ht : (((lo : Int) / 10) != 0) = false := by rw [show (lo : Int) / 10 = 0 by omega]; rfl
    have ht2 : ((R.length : Int) != 0) = false := by rw [hn]; rfl
    clear h0 hn
    go_quiet (fail)
    go_wp2
    go_ret2
    rw [HD.out]
    exact ⟨rfl, HC.out _, HB.out _, HO.out⟩
  · have ht : (((lo : Int) / 10) != 0) = false := by rw [show (lo : Int) / 10 = 0 by omega]; rfl
    have ht2 : ((R.length : Int) != 0) = true := bne_iff_ne.2 (by omega)
    clear h0 hn
    go_quiet (fail)
    go_wp2
    go_ret2
    rw [HD.out]
    exact ⟨rfl, HC.out _, HB.out _, HO.out⟩

theorem digits_call {w : World} {base s V : Nat} (h : DigInv w base s V) (hb : base ≤ s) :
    Calls Tryz.prog 216 #[.pointer (some ⟨s + 1 + 1, 0, none⟩), .pointer (some ⟨s, 0, none⟩), .pointer (some ⟨s + 1, 0, none⟩)] w fun e w' => e = .returned (.tuple #[.int .u8 (48 + (V : Int) % 10), .bool (V / 10 != 0)]) ∧ DigInv w' base s (V / 10) ∧ Below base w w' ∧ Over s w w' := by
  obtain ⟨v, L, low, ready, hv, hlow, hr, hF, hs, hc, hL, hl, hr9, hV, ho⟩ := h
  rcases ready with _ | ready
  · have hl0 : low = 0 := by simpa using hl
    subst hl0
    have hV' : V = val L := by simpa using hV
    subst hV'
    have hx : val L % 1000000000 < 4294967296 := by omega
    rcases hF.form with ⟨rfl, hnil⟩ | ⟨g, cap, rfl, hfg⟩
    · subst hnil
      refine digits_call_split (cap := 0) (L := []) (R := []) hv hlow hr hs hL hb hx rfl (by rw [val]; exact digs_zero.symm) _ rfl ?_
      refine (divPart_nil (dv := 1000000000) (by decide) (by decide)).mono ?_
      rintro e w' ⟨rfl, hw⟩
      exact ⟨none, 0, rfl, Fresh.nil w' base, hw.mono (by have := hv.lt; omega), fun b t v h1 h2 h3 => below_box hw h3.lt h3, fun b h1 h2 => hw.block b h2, .inl rfl⟩
    · have hg : g < s := by
        rcases ho with h | ⟨g', h, h'⟩
        · cases h
        · cases h; exact h'
      refine digits_call_split (R := digs (val L / 1000000000)) hv hlow hr hs hL hb hx rfl rfl _ rfl ?_
      refine (divPart_full (dv := 1000000000) hF hL hs (by decide) (by decide)).mono ?_
      rintro e w' ⟨v', rfl, h2, h3, h4, h5⟩
      obtain ⟨a', c', rfl⟩ := h2.reads.form
      exact ⟨a', c', rfl, h2, h3, fun b t v h1 h2 h3 => boxGrown h3 h4 (by omega), fun b h1 h2 => h4.block b h2 (by intro e; cases e; omega), by rcases h5 with h | h; exact .inl h; exact .inr ⟨g, h, hg⟩⟩
  · have hst := dig_step (R := val L) hl
    rw [← hV] at hst
    have hd : (48 : Int) + (V : Int) % 10 = 48 + (low : Int) % 10 := by have := hst.1; omega
    rw [hd, hst.2.1]
    exact digits_call_ready hv hlow hr hF hs hc hL hl hr9 hb ho _ rfl

end Go.Proofs.YtimdinmhphihkaaGreatDoor
