/- Rows of fractions: all of one together, by halves. -/
import Derived.Test.YtbndmpdaloadjaaGreatGVecC
set_option linter.unusedSimpArgs false
set_option linter.unusedVariables false
set_option maxRecDepth 100000
set_option maxHeartbeats 8000000
namespace Go.Proofs.YtbndmpdaloadjaaGreat
open Go Go.Proofs Go.RowKit Go.Shelf Nu

attribute [local go_sem] Oper.semAt_some

/-- what a call that makes a fraction answers -/
def RAns (w : World) (X : Rat) (e : Ending) (w' : World) : Prop :=
 ∃ a c a' c', e = .returned (.agg #[.bool (qr X).1, .slice a (qr X).2.1.length c, .slice a' (qr X).2.2.length c']) ∧ Reads w' (.slice a (qr X).2.1.length c) (qr X).2.1 ∧ Reads w' (.slice a' (qr X).2.2.length c') (qr X).2.2 ∧ Below w.heap.size w w'

theorem v_sum : ∀ (n : Nat) {w : World} {a : Option Addr} {cap : Nat} {xs : List Rat} (_ : n = xs.length) (_ : VReads w (.slice a n cap) (xs.map qr)) (_ : wts xs ≤ 9000),
   Calls Tryz.prog 69 #[.slice a n cap] w (RAns w (rsum xs)) := by
 intro n
 induction n using Nat.strongRecOn with
 | ind n ih =>
 intro w a cap xs hn h hw
 have M : Mem w [(w.heap.size, 32, [.bool false, .slice none 0 0, .slice none 0 0])] [] (w.alloc (.cells #[.bool false, .slice none 0 0, .slice none 0 0] 32)) := (Mem.start w).new _ _
 have hcs : n = 0 ∨ n = 1 ∨ 2 ≤ n := by omega
 rcases hcs with rfl | rfl | h2
 · obtain rfl : xs = [] := List.eq_nil_of_length_eq_zero hn.symm
   have k0 := fun (W : World) => r_of (w := W) (s := (qr 0).1) (L := (qr 0).2.1) (D := (qr 0).2.2) 0 (qr_can 0) (by omega) (by omega)
   show Calls _ _ _ _ (RAns w 0)
   unfold RAns
   clear ih h hw hn
   obtain ⟨q, hq⟩ : ∃ q, q = qr 0 := ⟨_, rfl⟩
   rw [← hq] at k0
   have HQ := Lib.hid hq
   clear hq
   go_enter Tryz.func69, Tryz.ntmps69
   go_wp2_with fail
   refine (k0 _).mono ?_
   rintro e w1 ⟨a1, c1, o1, r1, rfl, g, g', rr⟩
   have M' := ((M.up rr).add g).add g'
   clear M rr g g' k0
   have f0 := M'.fr 0 rfl 0; have f1 := M'.fr 0 rfl 1; have f2 := M'.fr 0 rfl 2
   have z0 := M'.cell 0 rfl 0 rfl; have z1 := M'.cell 0 rfl 1 rfl; have z2 := M'.cell 0 rfl 2 rfl
   go_wp2_with fail
   have M := (((M'.put 0 rfl rfl 0 (.bool q.1)).put 0 rfl rfl 1 (.slice a1 q.2.1.length c1)).put 0 rfl rfl 2 (.slice o1 q.2.2.length r1))
   refine ret_boxN rfl rfl (M.box 0 rfl) Tryz.underlying32 size_rat rfl ?_
   rw [← HQ.out]
   exact ⟨a1, c1, o1, r1, rfl, M.get 1 rfl, M.get 0 rfl, M.below⟩
 · obtain ⟨X, rfl⟩ : ∃ X, xs = [X] := by
    match xs, hn with
    | [X], _ => exact ⟨X, rfl⟩
   obtain ⟨hl, hcap, b, off, hA, hB⟩ := h.addr
   obtain ⟨rfl, hbl⟩ := hA (by omega)
   have hX : rsum [X] = X := by show X + 0 = X; grind
   rw [hX]
   have hB0 := hB 0 (qr X) rfl
   rw [show off + 0 * 3 = off by omega] at hB0
   obtain ⟨p, c, p', c', h0, h1, h2, g, g'⟩ := hB0
   unfold RAns
   generalize qr X = q at *
   obtain ⟨s, l, d⟩ := q
   dsimp only at h0 h1 h2 g g' ⊢
   clear ih h hw hn hA hB hl hX
   go_enter Tryz.func69, Tryz.ntmps69
   go_wp2_with fail
   refine ret_boxN rfl rfl (BoxN.new w 32 #[.bool s, .slice p l.length c, .slice p' d.length c']) Tryz.underlying32 size_rat rfl ?_
   have al : Below w.heap.size w (w.alloc (.cells #[.bool s, .slice p l.length c, .slice p' d.length c'] 32)) := (Below.refl _ _).alloc (Nat.le_refl _) _
   exact ⟨p, c, p', c', rfl, g.below al, g'.below al, al⟩
 · have hb : wts (xs.take (n / 2)) + wts (xs.drop (n / 2)) = wts xs := wts_take_drop _ _
   have hs : rsum (xs.take (n / 2)) + rsum (xs.drop (n / 2)) = rsum xs := rsum_take_drop _ _
   obtain ⟨m, hm⟩ : ∃ m, m = n / 2 := ⟨_, rfl⟩
   rw [← hm] at hb hs
   have hm1 : 0 < m := by omega
   have hm2 : m < n := by omega
   have hcap' : n ≤ cap := h.addr.2.1
   have j0 : ((n : Int) == 0) = false := beq_eq_false_iff_ne.2 (by omega)
   have j1 : ((n : Int) == 1) = false := beq_eq_false_iff_ne.2 (by omega)
   have j2 : (m : Int) ≤ (n : Int) := by omega
   have j3 : (n : Int) ≤ (cap : Int) := by omega
   have j4 : (0 : Int) ≤ (m : Int) := by omega
   have j5 : (m : Int) ≤ (cap : Int) := by omega
   have j6 : m ≤ n := by omega
   have j8 : ¬ cap = m := by omega
   have j7 : n ≤ cap := hcap'
   obtain ⟨hl, hcap, b, off, hA, _⟩ := h.addr
   obtain ⟨rfl, hbl⟩ := hA (by omega)
   have g1 := h.take m (by omega)
   have g2 := h.drop m (n - m) (cap - m) (off + m * 3) rfl rfl rfl (by omega) (by omega)
   rw [← List.map_take] at g1
   rw [← List.map_drop] at g2
   have l1 : (xs.take m).length = m := by rw [List.length_take]; omega
   have l2 : (xs.drop m).length = n - m := by rw [List.length_drop]; omega
   have k1 := fun (W : World) (r : Below w.heap.size w W) => ih m hm2 (w := W) l1.symm (g1.below r) (by omega)
   have k2 := fun (W : World) (r : Below w.heap.size w W) => ih (n - m) (by omega) (w := W) l2.symm (g2.below r) (by omega)
   have w1 := wt_rsum (xs.take m)
   have w2 := wt_rsum (xs.drop m)
   have hxl := wts_len xs
   have hn9 : n ≤ 9000 := by omega
   generalize rsum (xs.take m) = X at *
   generalize rsum (xs.drop m) = Y at *
   generalize rsum xs = Z at *
   have f1 := fit_qr (X := X) (by omega)
   have f2 := fit_qr (X := Y) (by omega)
   have k3 := fun (W : World) {p1 o1 p2 o2 : Option Addr} {q1 r1 q2 r2 : Nat} (g1 : Reads W (.slice p1 (qr X).2.1.length q1) (qr X).2.1) (g2 : Reads W (.slice o1 (qr X).2.2.length r1) (qr X).2.2) (g3 : Reads W (.slice p2 (qr Y).2.1.length q2) (qr Y).2.1) (g4 : Reads W (.slice o2 (qr Y).2.2.length r2) (qr Y).2.2) =>
    r_add (qr_can X).is (qr_can Y).is (qr_can Z) hs.symm f1.2.1 f1.2.2 f2.2.1 f2.2.2 g1 g2 g3 g4
   have hdv : (n : Int) / 2 = (m : Int) := by omega
   unfold RAns at k1 k2
   clear ih g1 g2 h hA hs hb w1 w2 f1 f2 hw l1 l2 hl hn hxl hm hcap'
   go_enter Tryz.func69, Tryz.ntmps69
   go_wp2_with fail
   refine region_mem (S := fun _ => True) M (by kernel_rfl) ?_
   intro V0 M
   have hS0 : (fun _ : World => True) V0 := trivial
   refine wpAnyH_take (i := 0) (oi := ⟨_, _, _, _, _, _⟩) (v := .slice (some ⟨b, off, none⟩) n cap) rfl (by kernel_rfl) (by kernel_rfl) (by kernel_rfl) (fun _ _ _ h => h) (Or.inl ⟨by rfl, fun W3 hS => by go_simp⟩) hS0 ?_
   refine wpAnyH_take (i := 1) (oi := ⟨_, _, _, _, _, _⟩) (v := .int .i64 (m : Int)) rfl (by kernel_rfl) (by kernel_rfl) (by kernel_rfl) (fun _ _ _ h => h) (Or.inl ⟨by rfl, fun W3 hS => by go_simp⟩) hS0 ?_
   refine wpAnyH_take (i := 4) (oi := ⟨_, _, _, _, _, _⟩) (v := .slice (some ⟨b, off, none⟩) n cap) rfl (by kernel_rfl) (by kernel_rfl) (by kernel_rfl) (fun _ _ _ h => h) (Or.inl ⟨by rfl, fun W3 hS => by go_simp⟩) hS0 ?_
   refine wpAnyH_take (i := 5) (oi := ⟨_, _, _, _, _, _⟩) (v := .int .i64 (m : Int)) rfl (by kernel_rfl) (by kernel_rfl) (by kernel_rfl) (fun _ _ _ h => h) (Or.inl ⟨by rfl, fun W3 hS => by go_simp⟩) hS0 ?_
   refine wpAnyH_take (i := 2) (oi := ⟨_, _, _, _, _, _⟩) (v := .slice (some ⟨b, off, none⟩) m cap) rfl (by kernel_rfl) (by kernel_rfl) (by kernel_rfl) (fun _ _ _ h => h) (Or.inl ⟨by rfl, fun W3 hS => by go_simp⟩) hS0 ?_
   refine wpAnyH_take (i := 6) (oi := ⟨_, _, _, _, _, _⟩) (v := .slice (some ⟨b, off + m * 3, none⟩) (n - m) (cap - m)) rfl (by kernel_rfl) (by kernel_rfl) (by kernel_rfl) (fun _ _ _ h => h) (Or.inl ⟨by rfl, fun W3 hS => by go_simp⟩) hS0 ?_
   clear hS0
   try simp only [Act.put, List.setIfInBounds_toArray, List.set_cons_zero, List.set_cons_succ]
   refine wpAnyH_all (rs := [3]) (by kernel_rfl) (by simp) ?_
   intro i hi
   obtain rfl : i = 3 := by simpa using hi
   refine wpOp_intro rfl (fun K1 hK => ?_)
   clear hi
   go_simp
   refine (k1 _ M.below).mono ?_
   rintro e V1 ⟨a1, c1, o1, r1, rfl, g, g', rr⟩
   have M' := ((M.up rr).add g).add g'
   clear M rr g g'
   have M := M'; clear M'
   refine hK _ _ ⟨trivial, ?_⟩
   clear hK K1
   refine wpAnyH_all (rs := [7]) (by kernel_rfl) (by simp) ?_
   intro i hi
   obtain rfl : i = 7 := by simpa using hi
   refine wpOp_intro rfl (fun K2 hK => ?_)
   clear hi
   go_simp
   refine (k2 _ M.below).mono ?_
   rintro e V2 ⟨a2, c2, o2, r2, rfl, g, g', rr⟩
   have M' := ((M.up rr).add g).add g'
   clear M rr g g'
   have M := M'; clear M'
   refine hK _ _ ⟨trivial, ?_⟩
   clear hK K2
   refine wpAnyH_all (rs := [8]) (by kernel_rfl) (by simp) ?_
   intro i hi
   obtain rfl : i = 8 := by simpa using hi
   refine wpOp_intro rfl (fun K3 hK => ?_)
   clear hi
   go_simp
   refine (k3 _ (M.get 3 rfl) (M.get 2 rfl) (M.get 1 rfl) (M.get 0 rfl)).mono ?_
   rintro e V3 ⟨a3, c3, o3, r3, rfl, g, g', rr⟩
   have M' := ((M.up rr).add g).add g'
   clear M rr g g'
   have M := M'; clear M'
   refine hK _ _ ⟨trivial, ?_⟩
   clear hK K3
   have f0_0 := M.fr 0 rfl 0; have f0_1 := M.fr 0 rfl 1; have f0_2 := M.fr 0 rfl 2
   have z0_0 := M.cell 0 rfl 0 rfl; have z0_1 := M.cell 0 rfl 1 rfl; have z0_2 := M.cell 0 rfl 2 rfl
   refine wpAnyH_all (rs := [9]) (by kernel_rfl) (by simp) ?_
   intro i hi
   obtain rfl : i = 9 := by simpa using hi
   refine wpOp_intro rfl (fun Ks4 hK => ?_)
   clear hi
   go_simp
   have M' := (((M.put 0 rfl rfl 0 (.bool (qr Z).1)).put 0 rfl rfl 1 (.slice a3 (qr Z).2.1.length c3)).put 0 rfl rfl 2 (.slice o3 (qr Z).2.2.length r3))
   clear M f0_0 z0_0 f0_1 z0_1 f0_2 z0_2
   have M := M'; clear M'
   refine hK _ _ ⟨trivial, ?_⟩
   clear hK Ks4
   refine wpAnyH_done (by kernel_rfl) ?_ _
   go_wp2
   refine ret_boxN rfl rfl (M.box 0 rfl) Tryz.underlying32 size_rat rfl ?_
   exact ⟨a3, c3, o3, r3, rfl, M.get 1 rfl, M.get 0 rfl, M.below⟩
end Go.Proofs.YtbndmpdaloadjaaGreat
