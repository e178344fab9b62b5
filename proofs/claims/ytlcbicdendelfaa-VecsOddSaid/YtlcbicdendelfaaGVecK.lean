/- Rows of fractions: the contracts as the laws want them. -/
import Derived.Test.YtlcbicdendelfaaGVecV
import Derived.Test.YtlcbicdendelfaaGRatSame
namespace Go.Proofs.Ytlcbicdendelfaa
open Go Go.Proofs Go.RowKit Go.Shelf Nu

/-- a row of fractions that may be, not too great -/
theorem row_of {n : Nat} {qs : List Qr} (hn : n = qs.length) (hb : ∀ q ∈ qs, Big q) (hg : ssz n qs ≤ 300) (hk : qs.all qok = true) : ∃ xs : List Rat, qs = xs.map qr ∧ xs.length = n ∧ wts xs ≤ 300 := by
  have hf := fit_of_small hb hg
  refine ⟨qs.map qval, fits_eq hf hk, by simp [hn], ?_⟩
  have h1 := wts_psum (qs.map qval)
  rw [← fits_eq hf hk] at h1
  have := ssz_small hg
  omega
theorem qrows_of {n : Nat} {qs : List Qr} (hn : n = qs.length) (h30 : n ≤ 30) (hb : ∀ q ∈ qs, Big q) (hg : ssz n qs ≤ 300) : qrows qs := ⟨fit_of_small hb hg, by omega⟩
theorem gbig_no {t : GI} (h : gbig t = false) : t.2.1 ≤ 30 ∧ ssz t.2.1 t.2.2.2 ≤ 300 := by
  simp only [gbig, Bool.or_eq_false_iff, decide_eq_false_iff_not] at h
  omega
theorem gok0 (W : World) : ∀ t ∈ ([] : List GI), GOK W t := fun _ h => by cases h
theorem gokc {W : World} {x : GI} {l : List GI} (h : GOK W x) (k : ∀ t ∈ l, GOK W t) : ∀ t ∈ x :: l, GOK W t := fun t ht => by
  rcases List.mem_cons.1 ht with rfl | ht
  · exact h
  · exact k t ht
theorem each_of {xs : List Rat} {k m : Nat} (h : wts xs ≤ k) (hk : k ≤ m) : ∀ x ∈ xs, wt x ≤ m := fun _ hx => Nat.le_trans (wt_mem hx) (Nat.le_trans h hk)
theorem each_axpy {T : Rat} {xs ys : List Rat} {a b c m : Nat} (hx : ∀ x ∈ xs, wt x ≤ a) (hy : ∀ y ∈ ys, wt y ≤ b) (hT : wt T ≤ c) (hm : a + b + c ≤ m) : ∀ z ∈ axpy T xs ys, wt z ≤ m := by
  induction xs generalizing ys with
  | nil => intro z hz; cases hz
  | cons x xs ih =>
    cases ys with
    | nil => intro z hz; cases hz
    | cons y ys =>
      intro z hz
      rcases List.mem_cons.1 (show z ∈ (x + y * T) :: axpy T xs ys from hz) with rfl | hz
      · have h1 := wt_add x (y * T)
        have h2 := wt_mul y T
        have := hx x (by simp); have := hy y (by simp)
        omega
      · exact ih (fun x hx' => hx x (by simp [hx'])) (fun y hy' => hy y (by simp [hy'])) z hz
theorem each_scl {T : Rat} {xs : List Rat} {a c m : Nat} (hx : ∀ x ∈ xs, wt x ≤ a) (hT : wt T ≤ c) (hm : a + c ≤ m) : ∀ z ∈ scl T xs, wt z ≤ m := by
  intro z hz
  obtain ⟨x, hx', rfl⟩ := List.mem_map.1 hz
  have := wt_mul x T
  have := hx x hx'
  omega
theorem each_zeros {n m : Nat} (hm : 1 ≤ m) : ∀ z ∈ zeros n, wt z ≤ m := by
  intro z hz
  rw [List.eq_of_mem_replicate hz, wt_zero]; exact hm
theorem sl_eq {p : Option Addr} {n m c : Nat} (h : n = m) : Value.slice p n c = .slice p m c := by rw [h]

section
variable {W : World}
theorem k_dot {a1 a2 : Option Addr} {n c1 c2 : Nat} {xs ys : List Rat} (D : Rat) (hD : dot xs ys = D) (hw : wts xs + wts ys ≤ 8900) (h1 : VReads W (.slice a1 n c1) (xs.map qr)) (h2 : VReads W (.slice a2 n c2) (ys.map qr)) :
    Calls Try.prog 17 #[.slice a1 n c1, .slice a2 n c2] W fun e w' => ∃ a c a' c', e = .returned (.tuple #[.agg #[.bool (qr D).1, .slice a (qr D).2.1.length c, .slice a' (qr D).2.2.length c'], .int .i64 0]) ∧ Reads w' (.slice a (qr D).2.1.length c) (qr D).2.1 ∧ Reads w' (.slice a' (qr D).2.2.length c') (qr D).2.2 ∧ Below W.heap.size W w' := by
  subst hD; exact v_dot h1 h2 hw
theorem wt_dot (xs ys : List Rat) : wt (dot xs ys) ≤ wts xs + wts ys + 1 := Nat.le_trans (wt_rsum _) (by have := wts_zmul xs ys; omega)
theorem k_sign {p1 o1 : Option Addr} {q1 r1 : Nat} (D : Rat) (z : Int) (hz : rsg D 0 = z) (hf : wt D ≤ 9999) (g1 : Reads W (.slice p1 (qr D).2.1.length q1) (qr D).2.1) (g2 : Reads W (.slice o1 (qr D).2.2.length r1) (qr D).2.2) :
    Calls Try.prog 21 #[.agg #[.bool (qr D).1, .slice p1 (qr D).2.1.length q1, .slice o1 (qr D).2.2.length r1]] W fun e w' => e = .returned (.int .i64 z) ∧ Below W.heap.size W w' := by
  have f := fit_qr hf
  exact r_sign z (qr_can D).is hz (by have := f.2.1; omega) (by have := f.2.2; omega) g1 g2
theorem k_zero (n : Nat) (hn : n ≤ 100) : Calls Try.prog 24 #[.int .i64 (n : Int)] W fun e w' => ∃ a c, e = .returned (.slice a n c) ∧ VReads w' (.slice a n c) ((zeros n).map qr) ∧ Below W.heap.size W w' :=
  (v_zero n (by omega)).mono fun e w' h => by
    obtain ⟨v, rfl, hf, r⟩ := h
    have hr := hf.reads
    obtain ⟨a, c, rfl⟩ := hr.form
    have e : ((zeros n).map qr).length = n := by simp [zeros]
    rw [e] at hr ⊢
    exact ⟨a, c, rfl, hr, r⟩
theorem k_add {a1 a2 : Option Addr} {n c1 c2 : Nat} {xs ys : List Rat} (T : Rat) {pb ob : Option Addr} {qb rb : Nat} (us : List Rat) (hu : axpy T xs ys = us) (hwx : ∀ x ∈ xs, wt x ≤ 3000) (hwy : ∀ y ∈ ys, wt y ≤ 3000) (hwT : wt T ≤ 3000) (hn : n ≤ 60000) (h1 : VReads W (.slice a1 n c1) (xs.map qr)) (h2 : VReads W (.slice a2 n c2) (ys.map qr))
    (g5 : Reads W (.slice pb (qr T).2.1.length qb) (qr T).2.1) (g6 : Reads W (.slice ob (qr T).2.2.length rb) (qr T).2.2) :
    Calls Try.prog 18 #[.slice a1 n c1, .slice a2 n c2, .agg #[.bool (qr T).1, .slice pb (qr T).2.1.length qb, .slice ob (qr T).2.2.length rb]] W fun e w' => ∃ a c, e = .returned (.tuple #[.slice a n c, .int .i64 0]) ∧ VReads w' (.slice a n c) (us.map qr) ∧ Below W.heap.size W w' := by
  have hx : xs.length = n := by have := h1.addr.1; simpa using this.symm
  have hy : ys.length = n := by have := h2.addr.1; simpa using this.symm
  exact (v_addm h1 h2 g5 g6 hwx hwy hwT hn).mono fun e w' h => by
    obtain ⟨v, rfl, hf, r⟩ := h
    rw [hu] at hf
    have hr := hf.reads
    obtain ⟨a, c, rfl⟩ := hr.form
    have e : (us.map qr).length = n := by rw [← hu]; simp [axpy, hx, hy]
    rw [e] at hr ⊢
    exact ⟨a, c, rfl, hr, r⟩
theorem k_scale {a1 : Option Addr} {n c1 : Nat} {xs : List Rat} (T : Rat) {pb ob : Option Addr} {qb rb : Nat} (us : List Rat) (hu : scl T xs = us) (hwx : ∀ x ∈ xs, wt x ≤ 9999) (hwT : wt T ≤ 9999) (hn : n ≤ 60000) (h1 : VReads W (.slice a1 n c1) (xs.map qr))
    (g5 : Reads W (.slice pb (qr T).2.1.length qb) (qr T).2.1) (g6 : Reads W (.slice ob (qr T).2.2.length rb) (qr T).2.2) :
    Calls Try.prog 20 #[.slice a1 n c1, .agg #[.bool (qr T).1, .slice pb (qr T).2.1.length qb, .slice ob (qr T).2.2.length rb]] W fun e w' => ∃ a c, e = .returned (.slice a n c) ∧ VReads w' (.slice a n c) (us.map qr) ∧ Below W.heap.size W w' := by
  have hx : xs.length = n := by have := h1.addr.1; simpa using this.symm
  have f := fit_qr (X := T) hwT
  exact (v_scale h1 ⟨fit_each hwx, by simp; omega⟩ (qr_can T).is f.2.1 f.2.2 g5 g6).mono fun e w' h => by
    obtain ⟨v, rfl, hf, r⟩ := h
    rw [map_qval_qr, hu] at hf
    have hr := hf.reads
    obtain ⟨a, c, rfl⟩ := hr.form
    have e : (us.map qr).length = n := by rw [← hu]; simp [scl, hx]
    rw [e] at hr ⊢
    exact ⟨a, c, rfl, hr, r⟩
theorem k_mul {p1 o1 p2 o2 : Option Addr} {q1 r1 q2 r2 : Nat} (X Y Z : Rat) (hZ : X * Y = Z) (hX : wt X ≤ 9999) (hY : wt Y ≤ 9999) (g1 : Reads W (.slice p1 (qr X).2.1.length q1) (qr X).2.1) (g2 : Reads W (.slice o1 (qr X).2.2.length r1) (qr X).2.2) (g3 : Reads W (.slice p2 (qr Y).2.1.length q2) (qr Y).2.1) (g4 : Reads W (.slice o2 (qr Y).2.2.length r2) (qr Y).2.2) :
    Calls Try.prog 46 #[.agg #[.bool (qr X).1, .slice p1 (qr X).2.1.length q1, .slice o1 (qr X).2.2.length r1], .agg #[.bool (qr Y).1, .slice p2 (qr Y).2.1.length q2, .slice o2 (qr Y).2.2.length r2]] W (RAns W Z) := by
  have f := fit_qr hX; have f' := fit_qr hY
  exact r_mul (qr_can X).is (qr_can Y).is (qr_can Z) hZ.symm f.2.1 f.2.2 f'.2.1 f'.2.2 g1 g2 g3 g4
theorem k_radd {p1 o1 p2 o2 : Option Addr} {q1 r1 q2 r2 : Nat} (X Y Z : Rat) (hZ : X + Y = Z) (hX : wt X ≤ 9999) (hY : wt Y ≤ 9999) (g1 : Reads W (.slice p1 (qr X).2.1.length q1) (qr X).2.1) (g2 : Reads W (.slice o1 (qr X).2.2.length r1) (qr X).2.2) (g3 : Reads W (.slice p2 (qr Y).2.1.length q2) (qr Y).2.1) (g4 : Reads W (.slice o2 (qr Y).2.2.length r2) (qr Y).2.2) :
    Calls Try.prog 48 #[.agg #[.bool (qr X).1, .slice p1 (qr X).2.1.length q1, .slice o1 (qr X).2.2.length r1], .agg #[.bool (qr Y).1, .slice p2 (qr Y).2.1.length q2, .slice o2 (qr Y).2.2.length r2]] W (RAns W Z) := by
  have f := fit_qr hX; have f' := fit_qr hY
  exact r_add (qr_can X).is (qr_can Y).is (qr_can Z) hZ.symm f.2.1 f.2.2 f'.2.1 f'.2.2 g1 g2 g3 g4
theorem k_of (z : Int) (h1 : -1000 ≤ z) (h2 : z ≤ 1000) : Calls Try.prog 19 #[.int .i64 z] W (RAns W (z : Rat)) := r_of z (qr_can _) (by omega) (by omega)
theorem k_one {q : Qr} {a b : Option Addr} {c d m : Nat} (hm : W.heap.size = m) (g1 : Reads W (.slice a q.2.1.length c) q.2.1) (g2 : Reads W (.slice b q.2.2.length d) q.2.2) (u : Big q) : GOK (W.alloc (.cells #[.bool q.1, .slice a q.2.1.length c, .slice b q.2.2.length d] 43)) (some ⟨m, 0, none⟩, 1, 1, [q]) := by
  subst hm
  have hB : BoxN (W.alloc (.cells #[.bool q.1, .slice a q.2.1.length c, .slice b q.2.2.length d] 43)) W.heap.size 43 #[.bool q.1, .slice a q.2.1.length c, .slice b q.2.2.length d] := BoxN.new W _ _
  have al : Below W.heap.size W (W.alloc (.cells #[.bool q.1, .slice a q.2.1.length c, .slice b q.2.2.length d] 43)) := (Below.refl _ _).alloc (Nat.le_refl _) _
  refine ⟨.inr (.inl ⟨W.heap.size, 0, 1, rfl, hB.lt, Nat.le_refl _, fun j x hx => ?_⟩), fun x hx => ?_⟩
  · match j with
    | 0 =>
      obtain rfl : q = x := by simpa using hx
      exact ⟨a, c, b, d, hB.cell 0 _ rfl, hB.cell 1 _ rfl, hB.cell 2 _ rfl, g1.below al, g2.below al⟩
    | j + 1 => simp at hx
  · obtain rfl : x = q := by simpa using hx
    exact u
theorem k_two {q r : Qr} {a b a' b' : Option Addr} {c d c' d' m : Nat} (hm : W.heap.size = m) (g1 : Reads W (.slice a q.2.1.length c) q.2.1) (g2 : Reads W (.slice b q.2.2.length d) q.2.2) (u : Big q) (g3 : Reads W (.slice a' r.2.1.length c') r.2.1) (g4 : Reads W (.slice b' r.2.2.length d') r.2.2) (v : Big r) :
    GOK (W.alloc (.cells #[.bool q.1, .slice a q.2.1.length c, .slice b q.2.2.length d, .bool r.1, .slice a' r.2.1.length c', .slice b' r.2.2.length d'] 43)) (some ⟨m, 0, none⟩, 2, 2, [q, r]) := by
  subst hm
  have hB : BoxN (W.alloc (.cells #[.bool q.1, .slice a q.2.1.length c, .slice b q.2.2.length d, .bool r.1, .slice a' r.2.1.length c', .slice b' r.2.2.length d'] 43)) W.heap.size 43 #[.bool q.1, .slice a q.2.1.length c, .slice b q.2.2.length d, .bool r.1, .slice a' r.2.1.length c', .slice b' r.2.2.length d'] := BoxN.new W _ _
  have al : Below W.heap.size W (W.alloc (.cells #[.bool q.1, .slice a q.2.1.length c, .slice b q.2.2.length d, .bool r.1, .slice a' r.2.1.length c', .slice b' r.2.2.length d'] 43)) := (Below.refl _ _).alloc (Nat.le_refl _) _
  refine ⟨.inr (.inl ⟨W.heap.size, 0, 2, rfl, hB.lt, Nat.le_refl _, fun j x hx => ?_⟩), fun x hx => ?_⟩
  · match j with
    | 0 =>
      obtain rfl : q = x := by simpa using hx
      exact ⟨a, c, b, d, hB.cell 0 _ rfl, hB.cell 1 _ rfl, hB.cell 2 _ rfl, g1.below al, g2.below al⟩
    | 1 =>
      obtain rfl : r = x := by simpa using hx
      exact ⟨a', c', b', d', hB.cell 3 _ rfl, hB.cell 4 _ rfl, hB.cell 5 _ rfl, g3.below al, g4.below al⟩
    | j + 2 => simp at hx
  · simp only [List.mem_cons, List.not_mem_nil, or_false] at hx
    rcases hx with rfl | rfl
    · exact u
    · exact v
theorem k_great {b : Nat} (hb : W.heap.size = b) (zs : List GI) {vs : Array Value} (hv : vs = (zs.map gival).toArray) {m : Nat} (hm : m = zs.length) (hl : zs.length ≤ 10) (hz : ∀ t ∈ zs, GOK W t) (R : Bool) (hR : R = zs.any gbig) :
    Calls Try.prog 15 #[.slice (some ⟨b, 0, none⟩) m m] (W.alloc (.cells vs 38)) fun e w' => e = .returned (.bool R) ∧ Below W.heap.size W w' := by
  subst hb; exact v_great zs hv hm hl hz R hR
theorem k_rcheck {p1 o1 : Option Addr} {q1 r1 : Nat} (q : Qr) (R : Bool) (hR : qok q = R) (hf : Fit q) (g1 : Reads W (.slice p1 q.2.1.length q1) q.2.1) (g2 : Reads W (.slice o1 q.2.2.length r1) q.2.2) :
    Calls Try.prog 22 #[.agg #[.bool q.1, .slice p1 q.2.1.length q1, .slice o1 q.2.2.length r1]] W fun e w' => e = .returned (.bool R) ∧ Below W.heap.size W w' := by
  subst hR
  exact rcheck_any g1 g2 hf.1.1 hf.1.2 (by have := hf.2.1; omega) (by have := hf.2.2; omega)
/-- so many times, by a fraction that may not be -/
theorem k_scaleq {a1 : Option Addr} {n c1 : Nat} {xs : List Rat} (q : Qr) (hf : Fit q) {pb ob : Option Addr} {qb rb : Nat} (us : List Rat) (hu : scl (qval q) xs = us) (hwx : ∀ x ∈ xs, wt x ≤ 9999) (hn : n ≤ 60000) (h1 : VReads W (.slice a1 n c1) (xs.map qr))
    (g5 : Reads W (.slice pb q.2.1.length qb) q.2.1) (g6 : Reads W (.slice ob q.2.2.length rb) q.2.2) :
    Calls Try.prog 20 #[.slice a1 n c1, .agg #[.bool q.1, .slice pb q.2.1.length qb, .slice ob q.2.2.length rb]] W fun e w' => ∃ a c, e = .returned (.slice a n c) ∧ VReads w' (.slice a n c) (us.map qr) ∧ Below W.heap.size W w' := by
  have hx : xs.length = n := by have := h1.addr.1; simpa using this.symm
  exact (v_scale h1 ⟨fit_each hwx, by simp; omega⟩ hf.is hf.2.1 hf.2.2 g5 g6).mono fun e w' h => by
    obtain ⟨v, rfl, hf, r⟩ := h
    rw [map_qval_qr, hu] at hf
    have hr := hf.reads
    obtain ⟨a, c, rfl⟩ := hr.form
    have e : (us.map qr).length = n := by rw [← hu]; simp [scl, hx]
    rw [e] at hr ⊢
    exact ⟨a, c, rfl, hr, r⟩
theorem k_mulq {p1 o1 p2 o2 : Option Addr} {q1 r1 q2 r2 : Nat} (p q : Qr) (Z : Rat) (hZ : qval p * qval q = Z) (f : Fit p) (f' : Fit q) (g1 : Reads W (.slice p1 p.2.1.length q1) p.2.1) (g2 : Reads W (.slice o1 p.2.2.length r1) p.2.2) (g3 : Reads W (.slice p2 q.2.1.length q2) q.2.1) (g4 : Reads W (.slice o2 q.2.2.length r2) q.2.2) :
    Calls Try.prog 46 #[.agg #[.bool p.1, .slice p1 p.2.1.length q1, .slice o1 p.2.2.length r1], .agg #[.bool q.1, .slice p2 q.2.1.length q2, .slice o2 q.2.2.length r2]] W (RAns W Z) :=
  r_mul f.is f'.is (qr_can Z) hZ.symm f.2.1 f.2.2 f'.2.1 f'.2.2 g1 g2 g3 g4
end
theorem big_qr (X : Rat) (h : wt X ≤ 9999) : Big (qr X) := by
  have f := fit_qr h
  exact ⟨f.1, by have := f.2.1; omega, by have := f.2.2; omega⟩
theorem one_small {q : Qr} (h : ssz 1 [q] ≤ 300) : q.2.1.length + q.2.2.length ≤ 300 := by
  have := ssz_small h; simp only [psum] at this; omega
theorem one_fit {q : Qr} (u : Big q) (h : ssz 1 [q] ≤ 300) : Fit q := ⟨u.1, by have := one_small h; omega, by have := one_small h; omega⟩
theorem one_rat {q : Qr} (u : Big q) (h : ssz 1 [q] ≤ 300) (hk : qok q = true) : ∃ X : Rat, q = qr X ∧ wt X ≤ 301 := by
  have e := (one_fit u h).eq hk
  refine ⟨qval q, e, ?_⟩
  have h1 := wt_rl (qval q)
  have h2 := rl_qr (qval q)
  rw [← e] at h2
  have := one_small h
  omega
end Go.Proofs.Ytlcbicdendelfaa
