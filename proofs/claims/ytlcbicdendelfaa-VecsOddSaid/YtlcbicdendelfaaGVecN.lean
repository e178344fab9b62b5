/- Rows of small whole numbers: what comes of them. -/
import Derived.Test.YtlcbicdendelfaaGVecO
namespace Go.Proofs.Ytlcbicdendelfaa
open Go Go.Proofs Go.RowKit Go.Shelf Nu

def idot : List Int → List Int → Int
  | a :: l, b :: m => a * b + idot l m
  | [], _ => 0
  | _ :: _, [] => 0
theorem ints_cons (z : Int) (l : List Int) : ints (z :: l) = (z : Rat) :: ints l := rfl
theorem dot_ints (a b : List Int) : dot (ints a) (ints b) = ((idot a b : Int) : Rat) := by
  induction a generalizing b with
  | nil => rfl
  | cons x a ih =>
    cases b with
    | nil => rfl
    | cons y b => show (x : Rat) * (y : Rat) + dot (ints a) (ints b) = ((x * y + idot a b : Int) : Rat); rw [ih b]; push_cast; rfl
theorem axpy_ints (t : Int) (a b : List Int) : axpy (t : Rat) (ints a) (ints b) = ints (List.zipWith (fun x y => x + y * t) a b) := by
  induction a generalizing b with
  | nil => rfl
  | cons x a ih =>
    cases b with
    | nil => rfl
    | cons y b => show ((x : Rat) + (y : Rat) * (t : Rat)) :: axpy (t : Rat) (ints a) (ints b) = ((x + y * t : Int) : Rat) :: ints (List.zipWith (fun x y => x + y * t) a b); rw [ih b]; push_cast; rfl
theorem scl_ints (t : Int) (a : List Int) : scl (t : Rat) (ints a) = ints (a.map fun x => x * t) := by
  induction a with
  | nil => rfl
  | cons x a ih => show ((x : Rat) * (t : Rat)) :: scl (t : Rat) (ints a) = ((x * t : Int) : Rat) :: ints (a.map fun x => x * t); rw [ih]; push_cast; rfl
theorem zeros_ints (n : Nat) : zeros n = ints (List.replicate n 0) := by
  induction n with
  | zero => rfl
  | succ n ih => show (0 : Rat) :: zeros n = ((0 : Int) : Rat) :: ints (List.replicate n 0); rw [ih]; rfl
theorem wts_ints (zs : List Int) (h : ∀ z ∈ zs, -1000 ≤ z ∧ z ≤ 1000) : wts (ints zs) = zs.length := by
  induction zs with
  | nil => rfl
  | cons z t ih =>
    have h1 := h z (by simp)
    show wt (z : Rat) + wts (ints t) = t.length + 1
    rw [ih (fun x hx => h x (by simp [hx])), wt_int z (by omega)]; omega
theorem qrows_ints (zs : List Int) (h : ∀ z ∈ zs, -1000 ≤ z ∧ z ≤ 1000) (hl : zs.length ≤ 100) : qrows ((ints zs).map qr) :=
  ⟨fit_qrs (by rw [wts_ints zs h]; omega), by simp [ints]; omega⟩
theorem map_qval_ints (zs : List Int) : ((ints zs).map qr).map qval = ints zs := map_qval_qr _

section
variable {W : World}
theorem o_of {b : Nat} (hb : W.heap.size = b) (zs : List Int) {vs : Array Value} (hv : vs = (zs.map fun z => Value.int .i64 z).toArray) {m : Nat} (hm : m = zs.length) (hl : zs.length ≤ 10) (hz : ∀ z ∈ zs, -1000 ≤ z ∧ z ≤ 1000) :
    Calls Try.prog 40 #[.slice (some ⟨b, 0, none⟩) m m] (W.alloc (.cells vs 2)) fun e w' => ∃ a c, e = .returned (.slice a m c) ∧ VReads w' (.slice a m c) ((ints zs).map qr) ∧ Below W.heap.size W w' := by
  subst hb
  exact (v_of zs hv hm hl hz).mono fun e w' h => by
    obtain ⟨v, rfl, hf, r⟩ := h
    have hr := hf.reads
    obtain ⟨a, c, rfl⟩ := hr.form
    have e : ((ints zs).map qr).length = m := by simp [ints, hm]
    rw [e] at hr ⊢
    exact ⟨a, c, rfl, hr, r⟩
theorem o_rat (z : Int) (h1 : -1000 ≤ z) (h2 : z ≤ 1000) : Calls Try.prog 19 #[.int .i64 z] W (RAns W (z : Rat)) := r_of z (qr_can _) (by omega) (by omega)
theorem o_dot {a1 a2 : Option Addr} {n c1 c2 : Nat} {zs ys : List Int} (X : Int) (hX : idot zs ys = X) (hz : ∀ z ∈ zs, -1000 ≤ z ∧ z ≤ 1000) (hy : ∀ z ∈ ys, -1000 ≤ z ∧ z ≤ 1000) (hl : zs.length + ys.length ≤ 100) (h1 : VReads W (.slice a1 n c1) ((ints zs).map qr)) (h2 : VReads W (.slice a2 n c2) ((ints ys).map qr)) :
    Calls Try.prog 17 #[.slice a1 n c1, .slice a2 n c2] W fun e w' => ∃ a c a' c', e = .returned (.tuple #[.agg #[.bool (qr (X : Rat)).1, .slice a (qr (X : Rat)).2.1.length c, .slice a' (qr (X : Rat)).2.2.length c'], .int .i64 0]) ∧ Reads w' (.slice a (qr (X : Rat)).2.1.length c) (qr (X : Rat)).2.1 ∧ Reads w' (.slice a' (qr (X : Rat)).2.2.length c') (qr (X : Rat)).2.2 ∧ Below W.heap.size W w' := by
  have := v_dot h1 h2 (by rw [wts_ints zs hz, wts_ints ys hy]; omega)
  rw [dot_ints, hX] at this
  exact this
theorem o_same {a1 a2 : Option Addr} {n c1 c2 : Nat} {zs : List Int} (hz : ∀ z ∈ zs, -1000 ≤ z ∧ z ≤ 1000) (hl : zs.length ≤ 100) (h1 : VReads W (.slice a1 n c1) ((ints zs).map qr)) (h2 : VReads W (.slice a2 n c2) ((ints zs).map qr)) :
    Calls Try.prog 23 #[.slice a1 n c1, .slice a2 n c2] W fun e w' => e = .returned (.bool true) ∧ Below W.heap.size W w' :=
  v_same true (by simp) h1 h2 (by rw [wts_ints zs hz]; omega) (by rw [wts_ints zs hz]; omega)
theorem o_add {a1 a2 : Option Addr} {n c1 c2 : Nat} {zs ys : List Int} (t : Int) {pb ob : Option Addr} {qb rb : Nat} (us : List Int) (hu : List.zipWith (fun x y => x + y * t) zs ys = us) (hn : us.length = n) (ht : -1000 ≤ t ∧ t ≤ 1000) (hz : ∀ z ∈ zs, -1000 ≤ z ∧ z ≤ 1000) (hy : ∀ z ∈ ys, -1000 ≤ z ∧ z ≤ 1000) (hl : zs.length + ys.length ≤ 100) (h1 : VReads W (.slice a1 n c1) ((ints zs).map qr)) (h2 : VReads W (.slice a2 n c2) ((ints ys).map qr))
    (g5 : Reads W (.slice pb (qr (t : Rat)).2.1.length qb) (qr (t : Rat)).2.1) (g6 : Reads W (.slice ob (qr (t : Rat)).2.2.length rb) (qr (t : Rat)).2.2) :
    Calls Try.prog 18 #[.slice a1 n c1, .slice a2 n c2, .agg #[.bool (qr (t : Rat)).1, .slice pb (qr (t : Rat)).2.1.length qb, .slice ob (qr (t : Rat)).2.2.length rb]] W fun e w' => ∃ a c, e = .returned (.tuple #[.slice a n c, .int .i64 0]) ∧ VReads w' (.slice a n c) ((ints us).map qr) ∧ Below W.heap.size W w' :=
  (v_add h1 h2 g5 g6 (by rw [wts_ints zs hz, wts_ints ys hy, wt_int t (by omega)]; exact ⟨by omega, by omega, by omega⟩)).mono fun e w' h => by
    obtain ⟨v, rfl, hf, r⟩ := h
    rw [axpy_ints, hu] at hf
    have hr := hf.reads
    obtain ⟨a, c, rfl⟩ := hr.form
    have e : ((ints us).map qr).length = n := by simp [ints, hn]
    rw [e] at hr ⊢
    exact ⟨a, c, rfl, hr, r⟩
theorem o_scale {a1 : Option Addr} {n c1 : Nat} {zs : List Int} (t : Int) {pb ob : Option Addr} {qb rb : Nat} (us : List Int) (hu : (zs.map fun x => x * t) = us) (hn : us.length = n) (ht : -1000 ≤ t ∧ t ≤ 1000) (hz : ∀ z ∈ zs, -1000 ≤ z ∧ z ≤ 1000) (hl : zs.length ≤ 100) (h1 : VReads W (.slice a1 n c1) ((ints zs).map qr))
    (g5 : Reads W (.slice pb (qr (t : Rat)).2.1.length qb) (qr (t : Rat)).2.1) (g6 : Reads W (.slice ob (qr (t : Rat)).2.2.length rb) (qr (t : Rat)).2.2) :
    Calls Try.prog 20 #[.slice a1 n c1, .agg #[.bool (qr (t : Rat)).1, .slice pb (qr (t : Rat)).2.1.length qb, .slice ob (qr (t : Rat)).2.2.length rb]] W fun e w' => ∃ a c, e = .returned (.slice a n c) ∧ VReads w' (.slice a n c) ((ints us).map qr) ∧ Below W.heap.size W w' := by
  have hf := fit_qr (X := (t : Rat)) (by rw [wt_int t (by omega)]; omega)
  exact (v_scale h1 (qrows_ints zs hz hl) (qr_can _).is hf.2.1 hf.2.2 g5 g6).mono fun e w' h => by
    obtain ⟨v, rfl, hf, r⟩ := h
    rw [map_qval_ints, scl_ints, hu] at hf
    have hr := hf.reads
    obtain ⟨a, c, rfl⟩ := hr.form
    have e : ((ints us).map qr).length = n := by simp [ints, hn]
    rw [e] at hr ⊢
    exact ⟨a, c, rfl, hr, r⟩
theorem o_zero (n : Nat) (z : Int) (hz : z = (n : Int)) (hn : n ≤ 100) : Calls Try.prog 24 #[.int .i64 z] W fun e w' => ∃ a c, e = .returned (.slice a n c) ∧ VReads w' (.slice a n c) ((ints (List.replicate n 0)).map qr) ∧ Below W.heap.size W w' := by
  subst hz
  exact (v_zero n (by omega)).mono fun e w' h => by
    obtain ⟨v, rfl, hf, r⟩ := h
    rw [zeros_ints] at hf
    have hr := hf.reads
    obtain ⟨a, c, rfl⟩ := hr.form
    have e : ((ints (List.replicate n 0)).map qr).length = n := by simp [ints]
    rw [e] at hr ⊢
    exact ⟨a, c, rfl, hr, r⟩
theorem o_none {b : Nat} (hb : W.heap.size = b) : VReads (W.alloc (.cells #[.bool false, .slice none 0 0, .slice none 0 0] 43)) (.slice (some ⟨b, 0, none⟩) 1 1) [(false, [], [])] := by
  subst hb
  have hB : BoxN (W.alloc (.cells #[.bool false, .slice none 0 0, .slice none 0 0] 43)) W.heap.size 43 #[.bool false, .slice none 0 0, .slice none 0 0] := BoxN.new W _ _
  refine .inr (.inl ⟨W.heap.size, 0, 1, rfl, hB.lt, Nat.le_refl _, fun j q hq => ?_⟩)
  match j with
  | 0 =>
    obtain rfl : (false, [], []) = q := by simpa using hq
    exact ⟨none, 0, none, 0, hB.cell 0 _ rfl, hB.cell 1 _ rfl, hB.cell 2 _ rfl, Reads.nil _, Reads.nil _⟩
  | j + 1 => simp at hq
theorem q_none : qrows [(false, [], [])] := ⟨by
  intro q hq
  obtain rfl : q = (false, [], []) := by simpa using hq
  exact ⟨⟨Sm.nil, Sm.nil⟩, by simp, by simp⟩, by simp⟩
theorem k_none : [((false, [], []) : Qr)].all qok = false := by decide
theorem t_eleven : (⟨#[49, 49]⟩ : ByteArray) = rtxt ((11 : Int) : Rat) := by decide +kernel
end
end Go.Proofs.Ytlcbicdendelfaa
