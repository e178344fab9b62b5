/- Ledgers: what the laws' walks hang on: which tenant; two ledgers; what is left. -/
import Derived.Test.YtegfjndlkjfepaaLgA
namespace Go.Proofs.Ytegfjndlkjfepaa
open Go Go.Proofs Go.RowKit Go.Shelf
set_option linter.unusedVariables false

theorem q_else {c : Prop} [Decidable c] {A B : Prop} (hc : ¬ c) (h : B) : if c then A else B := by rw [if_neg hc]; exact h
theorem MayT.rates {ts : List Ten} (h : MayT ts) {i : Nat} {t : Ten} (ht : ts[i]? = some t) : 1 ≤ t.r ∧ t.r ≤ 1073741824 := (tenB_sizes (h.each i t ht).1).2.2
theorem rates_getD {ts : List Ten} {K : Nat} {x : Ten} {R : Int} (h : ts[K]? = some x) (e : x.r = R) : (ts.map (·.r)).getD K 0 = R := by
  rw [List.getD_eq_getElem?_getD, List.getElem?_map, h, ← e]; rfl
theorem pick_any {w : World} {a : Option Addr} {N c q : Nat} {ts : List Ten} (h : Tens w (.slice a N c) ts) (hq : q < 256) (hN : N = ts.length) (h1 : 1 ≤ ts.length) :
    ∃ (K : Nat) (R : Int) (b off : Nat) (x : Ten), K < N ∧ (q : Int) % (N : Int) = (K : Int) ∧ a = some ⟨b, off, none⟩ ∧ ts[K]? = some x ∧ x.r = R ∧ ∀ W, Below w.heap.size w W → W.cell? ⟨b, off + K * 3 + 2, none⟩ = some (.int .i64 R) := by
  obtain ⟨b, off, rfl, hb, hc⟩ := h.cells.2.2 (by omega)
  have hK : q % N < N := Nat.mod_lt _ (by omega)
  have hx := List.getElem?_eq_getElem (l := ts) (i := q % N) (by omega)
  obtain ⟨hat, _⟩ := hc _ _ hx
  exact ⟨q % N, _, b, off, _, hK, rfl, rfl, hx, rfl, fun W hW => (hat.below hb hW).2.2⟩
section
variable {ts : List Ten} {lf : List Int} {K : Nat} {n R : Int}
theorem leftV_nat (hK : K < ts.length) (h : lf.getD K 0 = R) : leftV ts lf (K : Int) = R := by
  unfold leftV
  rw [if_pos ⟨by omega, by omega⟩, Int.toNat_natCast, h]
theorem spend_zero (h : spendE ts lf (K : Int) n = 0) : 0 ≤ n ∧ n ≤ lf.getD K 0 := by
  unfold spendE at h
  rw [Int.toNat_natCast] at h
  split at h
  · split at h
    · omega
    · omega
  · omega
theorem spendL_err {k : Int} (h : spendE ts lf k n ≠ 0) : spendL ts lf k n = lf := by unfold spendL; rw [if_neg h]
theorem getD_set {K : Nat} {y : Int} (h : K < lf.length) : (lf.set K y).getD K 0 = y := by
  rw [List.getD_eq_getElem?_getD, List.getElem?_set_self h]; rfl
theorem leftV_spend (hK : K < ts.length) (hl : lf.length = ts.length) (h : spendE ts lf (K : Int) n = 0) (hR : lf.getD K 0 = R) : leftV ts (spendL ts lf (K : Int) n) (K : Int) = R - n := by
  unfold spendL
  rw [if_pos h, Int.toNat_natCast, hR]
  exact leftV_nat hK (getD_set (by omega))
theorem getD_other {i K : Nat} {y : Int} (h : i ≠ K) : (lf.set K y).getD i 0 = lf.getD i 0 := by
  rw [List.getD_eq_getElem?_getD, List.getElem?_set_ne (fun e => h e.symm), ← List.getD_eq_getElem?_getD]
theorem spendL_other {i : Nat} (hi : i ≠ K) : (spendL ts lf (K : Int) n).getD i 0 = lf.getD i 0 := by
  unfold spendL
  split
  · rw [Int.toNat_natCast]; exact getD_other hi
  · rfl
end
theorem left_is {W : World} {P base : Nat} {own : Nat → Prop} {ts : List Ten} {lf : List Int} (h : LD W P base own ts lf) {k R : Int} (hk : kOK k) (e : leftV ts lf k = R) :
    Calls Try.prog 14 #[.pointer (some ⟨P, 0, none⟩), .int .i64 k] W fun e W' => e = .returned (.int .i64 R) ∧ W = W' := by
  subst e
  exact left_any h hk
theorem drewN_below (W : World) (d : Nat) : Below W.heap.size W (W.drewN d) := below_drewN (Below.refl _ _) d
theorem left_q {W : World} {d P base : Nat} {own : Nat → Prop} {ts : List Ten} {lf : List Int} (h : LD (W.drewN d) P base own ts lf) {k R : Int} (hk : kOK k) (e : leftV ts lf k = R) :
    Calls Try.prog 14 #[.pointer (some ⟨P, 0, none⟩), .int .i64 k] (W.drewN d) fun e W' => e = .returned (.int .i64 R) ∧ ∃ m, W' = (W.drewN d).drewN m :=
  (left_is h hk e).mono fun e W' ⟨h1, h2⟩ => ⟨h1, 0, h2.symm⟩
/-- two ledgers -/
structure L2 (w W : World) (P X Q Y : Nat) (own owQ : Nat → Prop) (ts : List Ten) (lf lg : List Int) : Prop where
  lx : LD W P X own ts lf
  ly : LD W Q Y owQ ts lg
  bel : Below w.heap.size w W
  bx : w.heap.size ≤ X
  by' : w.heap.size ≤ Y
  dis : ∀ g, own g → ¬ owQ g
section
variable {w W W' : World} {P X Q Y b o : Nat} {own owQ : Nat → Prop} {ts : List Ten} {lf lg lh : List Int} {R : Int}
theorem L2.onX (h : L2 w W P X Q Y own owQ ts lf lg) (hl : LD W' P X own ts lh) (hk : Kp W W' own) (hb : Below X W W') : L2 w W' P X Q Y own owQ ts lh lg :=
  ⟨hl, h.ly.keep ⟨hk.1, fun g hg hn => hk.2 g hg (fun ho => hn (h.dis g ho))⟩, h.bel.trans (hb.mono h.bx), h.bx, h.by', h.dis⟩
theorem L2.onY (h : L2 w W P X Q Y own owQ ts lf lg) (hl : LD W' Q Y owQ ts lh) (hk : Kp W W' owQ) (hb : Below Y W W') : L2 w W' P X Q Y own owQ ts lf lh :=
  ⟨h.lx.keep ⟨hk.1, fun g hg hn => hk.2 g hg (fun ho => hn (fun hx => h.dis g hx ho))⟩, hl, h.bel.trans (hb.mono h.by'), h.bx, h.by', h.dis⟩
theorem L2.drew (h : L2 w W P X Q Y own owQ ts lf lg) : L2 w W.drew P X Q Y own owQ ts lf lg :=
  ⟨h.lx.below (B := 0) (Below.refl _ _).drew, h.ly.below (B := 0) (Below.refl _ _).drew, h.bel.drew, h.bx, h.by', h.dis⟩
theorem L2.drewN (h : L2 w W P X Q Y own owQ ts lf lg) (d : Nat) : L2 w (W.drewN d) P X Q Y own owQ ts lf lg :=
  ⟨h.lx.below (B := 0) (drewN_below W d), h.ly.below (B := 0) (drewN_below W d), below_drewN h.bel d, h.bx, h.by', h.dis⟩
theorem L2.all (h : L2 w W P X Q Y own owQ ts lf lg) (hc : ∀ W, Below w.heap.size w W → W.cell? ⟨b, o, none⟩ = some (.int .i64 R)) : W.cell? ⟨b, o, none⟩ = some (.int .i64 R) ∧ L2 w W P X Q Y own owQ ts lf lg := ⟨hc W h.bel, h⟩
theorem L2.of2 (h : W.cell? ⟨b, o, none⟩ = some (.int .i64 R) ∧ L2 w W P X Q Y own owQ ts lf lg) : L2 w W P X Q Y own owQ ts lf lg := h.2
end
end Go.Proofs.Ytegfjndlkjfepaa
