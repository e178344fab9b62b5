/- Division by a number of two parts at least, part by part from the top, as the program does it. -/
import Derived.Laws.ResultCell
import Derived.Deep.DeepCutAuto
import Derived.Test.YtgmbaamfobhceaaGreatGDiv
import Derived.Test.YtgmbaamfobhceaaGreatGCmp
set_option linter.unusedSimpArgs false
set_option linter.unusedVariables false
set_option maxRecDepth 100000
set_option maxHeartbeats 16000000
namespace Go.Proofs.YtgmbaamfobhceaaGreat
open Go Go.Proofs Go.RowKit Go.Shelf Nu
attribute [local go_sem] Oper.semAt_some
theorem bx_below {W W' : World} {b : Nat} {t : TypeId} {v : Value} (h : Boxed W b t v) (hb : Below W.heap.size W W') : Boxed W' b t v := below_box hb h.lt h
theorem Fresh.at {W : World} {base g n c : Nat} {l : List Nat} (h : Fresh W base (.slice (some ⟨g, 0, none⟩) n c) l) : base ≤ g ∧ g < W.heap.size ∧ n = l.length ∧ n ≤ c := by
 rcases h.2 with ⟨h1, _⟩ | ⟨g', cap, cur, e, hb, hg, hn, _⟩
 · cases h1
 · simp only [Value.slice.injEq, Option.some.injEq, Addr.mk.injEq, and_true] at e
   obtain ⟨rfl, rfl, rfl⟩ := e
   exact ⟨hb, (Array.getElem?_eq_some_iff.1 hg).1, rfl, hn⟩
theorem moveUp_form {w : World} {va : Value} {A : List Nat} {sh N : Nat} (hA : Reads w va A) (hlA : A.length ≤ 100000) (hSA : Sm A) (hsh : sh ≤ 31) (hN : N = A.length + 1) :
   Calls Tryz.prog 172 #[va, .int .u64 sh] w fun e w' => ∃ (g c : Nat) (l : List Nat), e = .returned (.slice (some ⟨g, 0, none⟩) N c) ∧ Fresh w' w.heap.size (.slice (some ⟨g, 0, none⟩) N c) l ∧ Hid (l.length = N ∧ Sm l ∧ val l = val A * 2 ^ sh) ∧ N ≤ c ∧ Below w.heap.size w w' := by
 refine (moveUp_any hA hlA hSA hsh).mono ?_
 rintro e w' ⟨v, l, rfl, f, h1, h2, h3, hb⟩
 rcases f.form with ⟨_, h⟩ | ⟨g, c, rfl, _, _, hc, _⟩
 · rw [h] at h1; simp at h1
 · have : l.length = N := by omega
   rw [this] at f hc
   exact ⟨g, c, l, by rw [this], f, Lib.hid ⟨this, h2, h3⟩, hc, hb⟩
def MS (w V : World) (N M : Nat) (x y : Option Nat) (f1 f2 : Option (Nat × Nat × List Nat)) : Prop :=
 Below w.heap.size w V ∧ Boxed V w.heap.size 40 (.slice none 0 0) ∧
 (∀ b, x = some b → Boxed V b 40 (.slice none 0 0) ∧ w.heap.size < b) ∧ (∀ b, y = some b → Boxed V b 40 (.slice none 0 0) ∧ w.heap.size < b) ∧ (∀ a b, x = some a → y = some b → a ≠ b) ∧
 (∀ g c l, f1 = some (g, c, l) → Fresh V w.heap.size (.slice (some ⟨g, 0, none⟩) N c) l) ∧ (∀ g c l, f2 = some (g, c, l) → Fresh V w.heap.size (.slice (some ⟨g, 0, none⟩) M c) l) ∧
 (∀ g c l g' c' l', f1 = some (g, c, l) → f2 = some (g', c', l') → g ≠ g')
section
variable {w V V' : World} {N M : Nat} {x y : Option Nat} {f1 f2 : Option (Nat × Nat × List Nat)}
theorem MS.start : MS w (w.alloc (.cells #[.slice none 0 0] 40)).drew N M none none none none :=
 ⟨((Below.refl w.heap.size w).alloc (Nat.le_refl _) _).drew, Boxed.new w _ _, by simp, by simp, by simp, by simp, by simp, by simp⟩
theorem MS.lt (h : MS w V N M x y f1 f2) : w.heap.size < V.heap.size := h.2.1.lt
theorem MS.below (h : MS w V N M x y f1 f2) : Below w.heap.size w V := h.1
theorem MS.allocX (h : MS w V N M none y f1 f2) : MS w (V.alloc (.cells #[.slice none 0 0] 40)) N M (some V.heap.size) y f1 f2 := by
 have hl := h.lt
 obtain ⟨h1, h2, h3, h4, h5, h6, h7, h8⟩ := h
 refine ⟨h1.alloc (by omega) _, h2.alloc _, fun b e => ?_, fun b e => ⟨(h4 b e).1.alloc _, (h4 b e).2⟩, fun a b e1 e2 => ?_, fun g c l e => (h6 g c l e).alloc _, fun g c l e => (h7 g c l e).alloc _, h8⟩
 · cases e; exact ⟨Boxed.new V _ _, by omega⟩
 · cases e1; have := (h4 b e2).1.lt; omega
theorem MS.allocY (h : MS w V N M x none f1 f2) : MS w (V.alloc (.cells #[.slice none 0 0] 40)) N M x (some V.heap.size) f1 f2 := by
 have hl := h.lt
 obtain ⟨h1, h2, h3, h4, h5, h6, h7, h8⟩ := h
 refine ⟨h1.alloc (by omega) _, h2.alloc _, fun b e => ⟨(h3 b e).1.alloc _, (h3 b e).2⟩, fun b e => ?_, fun a b e1 e2 => ?_, fun g c l e => (h6 g c l e).alloc _, fun g c l e => (h7 g c l e).alloc _, h8⟩
 · cases e; exact ⟨Boxed.new V _ _, by omega⟩
 · cases e2; have := (h3 a e1).1.lt; omega
theorem MS.call1 (h : MS w V N M x y none none) (r : Below V.heap.size V V') {g c : Nat} {l : List Nat} (F : Fresh V' V.heap.size (.slice (some ⟨g, 0, none⟩) N c) l) : MS w V' N M x y (some (g, c, l)) none := by
 have hl := h.lt
 obtain ⟨h1, h2, h3, h4, h5, h6, h7, h8⟩ := h
 refine ⟨then_below h1 r, bx_below h2 r, fun b e => ⟨bx_below (h3 b e).1 r, (h3 b e).2⟩, fun b e => ⟨bx_below (h4 b e).1 r, (h4 b e).2⟩, h5, fun g' c' l' e => ?_, by simp, by simp⟩
 cases e; exact F.mono (by omega)
theorem MS.call2 {t : Nat × Nat × List Nat} (h : MS w V N M x y (some t) none) (r : Below V.heap.size V V') {g c : Nat} {l : List Nat} (F : Fresh V' V.heap.size (.slice (some ⟨g, 0, none⟩) M c) l) : MS w V' N M x y (some t) (some (g, c, l)) := by
 have hl := h.lt
 obtain ⟨h1, h2, h3, h4, h5, h6, h7, h8⟩ := h
 refine ⟨then_below h1 r, bx_below h2 r, fun b e => ⟨bx_below (h3 b e).1 r, (h3 b e).2⟩, fun b e => ⟨bx_below (h4 b e).1 r, (h4 b e).2⟩, h5, fun g' c' l' e => (h6 g' c' l' e).below r, fun g' c' l' e => ?_, fun g1 c1 l1 g2 c2 l2 e1 e2 => ?_⟩
 · cases e; exact F.mono (by omega)
 · cases e2
   have a1 := (h6 g1 c1 l1 e1).at
   have a2 := F.at
   omega
end
def MD (w V : World) (N M m a b g1 c1 : Nat) (l1 : List Nat) (g2 c2 : Nat) (l2 : List Nat) : Prop :=
 Below w.heap.size w V ∧ Boxed V w.heap.size 40 (.slice none 0 0) ∧ Boxed V a 40 (.slice (some ⟨g1, 0, none⟩) N c1) ∧ Boxed V b 40 (.slice (some ⟨g2, 0, none⟩) m c2) ∧
 Fresh V w.heap.size (.slice (some ⟨g1, 0, none⟩) N c1) l1 ∧ Fresh V w.heap.size (.slice (some ⟨g2, 0, none⟩) M c2) l2 ∧ g1 ≠ g2 ∧ w.heap.size < a ∧ w.heap.size < b
theorem MS.both {w V : World} {N M m a b g1 c1 : Nat} {l1 : List Nat} {g2 c2 : Nat} {l2 : List Nat} (h : MS w V N M (some a) (some b) (some (g1, c1, l1)) (some (g2, c2, l2))) :
  MD w ((V.setCell ⟨a, 0, none⟩ (.slice (some ⟨g1, 0, none⟩) N c1)).setCell ⟨b, 0, none⟩ (.slice (some ⟨g2, 0, none⟩) m c2)) N M m a b g1 c1 l1 g2 c2 l2 := by
 obtain ⟨h1, h2, h3, h4, h5, h6, h7, h8⟩ := h
 obtain ⟨X, hx⟩ := h3 a rfl
 obtain ⟨Y, hy⟩ := h4 b rfl
 have hab := h5 a b rfl rfl
 have A := h6 g1 c1 l1 rfl
 have B := h7 g2 c2 l2 rfl
 have X1 := X.set (.slice (some ⟨g1, 0, none⟩) N c1)
 have Y1 := Y.other (Ne.symm hab) (.slice (some ⟨g1, 0, none⟩) N c1)
 refine ⟨(h1.setCell (p := ⟨a, 0, none⟩) (Nat.le_of_lt hx) _).setCell (p := ⟨b, 0, none⟩) (Nat.le_of_lt hy) _, (h2.other (by omega) _).other (by omega) _, X1.other hab _, Y1.set _, (A.box X (by decide) _).box Y1 (by decide) _, (B.box X (by decide) _).box Y1 (by decide) _, h8 _ _ _ _ _ _ rfl rfl, hx, hy⟩
theorem bx_ne {W : World} {B g : Nat} {t : TypeId} {v : Value} {pre post : List Value} {l : List Nat} (h : Boxed W B t v) (hb : Blk W g pre l post) (ht : t ≠ 127) : B ≠ g := by
 rintro rfl
 have := (show W.heap[B]? = _ from h).symm.trans (show W.heap[B]? = _ from hb)
 injection this with this
 injection this with _ h2 _
 exact ht h2
theorem trimV_slice (b off cap : Nat) (l : List Nat) : ∃ a n c, trimV b off cap l = .slice a n c := by unfold trimV; split <;> exact ⟨_, _, _, rfl⟩
theorem below_boxed_left {W : World} {B : Nat} {t : TypeId} {v : Value} (D : Nat) {o o' : Obj} (hD : W.heap[D]? = some o) (h : Boxed W B t v) (ho : o.isCells = false := by rfl) : Boxed (W.putObj D o') B t v :=
 keepBox (M := 0) h (grownBy_putObj' W D o') (offCells_putObj (Nat.zero_le _) hD ho)
theorem res_long {W : World} {B : Nat} {tmps : Array Value} {a : Option Addr} {n c : Nat} (hp : tmps.getD 4 undef = .pointer (some ⟨B, 0, none⟩)) (hb : Boxed W B 40 (.slice a n c)) :
  (results Tryz.f149 tmps).run Tryz.prog W = .ok (.tuple #[.slice a n c, tmps.getD 5 undef]) W := by
 rw [results_cell_tmp (p := 4) (u := 5) (ty := 40) rfl, hp]
 simp [asAddr, hb.cell, go_sem, Result.andThen]
theorem by_reads {W : World} {base g m M c : Nat} {l : List Nat} (h : Fresh W base (.slice (some ⟨g, 0, none⟩) M c) l) (hm : m ≤ M) : Reads W (.slice (some ⟨g, 0, none⟩) m c) (l.take m) := by
 have a := h.at
 rcases h.form with ⟨h1, _⟩ | ⟨g', cap, e, _, hg, hn, hc⟩
 · cases h1
 · simp only [Value.slice.injEq, Option.some.injEq, Addr.mk.injEq, and_true] at e
   obtain ⟨rfl, hM, rfl⟩ := e
   have hl : (l.take m).length = m := by rw [List.length_take]; omega
   refine .inr (.inl ⟨g, 0, c, by rw [hl], hg, by omega, fun j hj => ?_⟩)
   rw [hl] at hj
   rw [hc j (by omega), List.getD_eq_getElem?_getD, List.getD_eq_getElem?_getD, List.getElem?_take, if_pos hj]
def LongInv (w : World) (q g1 g2 xb yb s N3 N m M0 c2 : Nat) (post1 : List Value) (l2 : List Nat) (rv : Value) (V E k : Nat) (W : World) : Prop :=
 (∃ qs cur : List Nat, Blk W q [] qs [] ∧ qs.length = N3 ∧ Sm qs ∧ (∀ j, j < N3 - k → qs.getD j 0 = 0) ∧ Blk W g1 [] cur post1 ∧ cur.length = N ∧ Sm cur ∧ Dv V E (N3 - k) qs (val cur)) ∧
 Boxed W w.heap.size 40 (.slice (some ⟨q, 0, none⟩) N3 N3) ∧ Boxed W xb 40 rv ∧ Boxed W yb 40 (.slice (some ⟨g2, 0, none⟩) m c2) ∧ Boxed W s 40 (.slice (some ⟨q, 0, none⟩) N3 N3) ∧
 Fresh W w.heap.size (.slice (some ⟨g2, 0, none⟩) M0 c2) l2 ∧ Below w.heap.size w W
theorem divLong_own {w : World} {va vb : Value} {la lb : List Nat} (ha : Reads w va la) (hb : Reads w vb lb) (hla : la.length ≤ 80000) (hlb : lb.length ≤ 80000) (hsa : Sm la) (hsb : Sm lb) (hcb : chk lb = true) (h2 : 2 ≤ lb.length) (hle : lb.length ≤ la.length) :
  Calls Tryz.prog 149 #[va, vb] w fun e w' => ∃ v1 v2, e = .returned (.tuple #[v1, v2]) ∧ Fresh w' w.heap.size v1 (digs (val la / val lb)) ∧ Fresh w' w.heap.size v2 (digs (val la % val lb)) ∧ Below w.heap.size w w' ∧ Two v1 v2 := by
 obtain ⟨i0, hi, hz0, hz1, hz2⟩ := info_parts info_u32
 obtain ⟨a1, d1, rfl⟩ := ha.form
 obtain ⟨b1, d2, rfl⟩ := hb.form
 obtain ⟨bb, ob, hbb, hcell⟩ := hb.addr
 obtain ⟨p, hp⟩ : ∃ p, lb.length = p + 1 := ⟨lb.length - 1, by omega⟩
 have ht := hcell p (by omega)
 obtain ⟨T, hT⟩ : ∃ T, T = lb.getD p 0 := ⟨_, rfl⟩
 have hT0 : 0 < T := by
  rcases (chk_iff lb).1 hcb with h | h
  · rw [h] at hp; simp at hp
  · rw [hp, Nat.add_sub_cancel, ← hT] at h; omega
 have hT1 : T < 4294967296 := hT ▸ hsb.getD p
 rw [← hT] at ht
 obtain ⟨sh, hsh, hs1, hs2, klz⟩ := lz_any T hT0 hT1
 obtain ⟨rfl, hbw⟩ : b1 = some ⟨bb, ob, none⟩ ∧ bb < w.heap.size := hbb (by omega)
 have ht' : (w.alloc (.cells #[.slice none 0 0] 40)).cell? ⟨bb, ob + p, none⟩ = some (.int .u32 T) := ((((Below.refl w.heap.size w).alloc (Nat.le_refl _) (.cells #[.slice none 0 0] 40)).cell (p := ⟨bb, ob + p, none⟩) hbw)).trans ht
 -- the numbers that are moved up
 rw [hT] at hs1 hs2
 have f1 := up_fits hp hsb hsh hs2
 have f2 := up_low hp hs1
 have f3 := dv_room (a := val la) (n := la.length) (m := p) (S := 2 ^ sh) (val_lt hsa) f2 (pow31 hsh) (by omega)
 obtain ⟨V, hV⟩ : ∃ V, V = val la * 2 ^ sh := ⟨_, rfl⟩
 obtain ⟨E, hE⟩ : ∃ E, E = val lb * 2 ^ sh := ⟨_, rfl⟩
 rw [← hE] at f1 f2 f3
 rw [← hV] at f3
 have FQ : V / E = val la / val lb := by rw [hV, hE, Nat.mul_div_mul_right _ _ (two_pos sh)]
 have FR : V % E / 2 ^ sh = val la % val lb := by rw [hV, hE, Nat.mul_mod_mul_right, Nat.mul_div_cancel _ (two_pos sh)]
 obtain ⟨n, hn⟩ : ∃ n, n = la.length := ⟨_, rfl⟩
 obtain ⟨m, hm⟩ : ∃ m, m = lb.length := ⟨_, rfl⟩
 obtain ⟨N, hN⟩ : ∃ N, N = n + 1 := ⟨_, rfl⟩
 obtain ⟨M0, hM0⟩ : ∃ M, M = m + 1 := ⟨_, rfl⟩
 obtain ⟨N3, hN3⟩ : ∃ N3, N3 = n - m + 1 := ⟨_, rfl⟩
 rw [show la.length - (p + 1) + 1 = N3 by omega] at f3
 rw [show p + 1 = m by omega] at f1
 have ku1 : ∀ W, Below w.heap.size w W → _ := fun W hW => moveUp_form (sh := sh) (N := N) (ha.below hW) (by omega) hsa hsh (by omega)
 have ku2 : ∀ W, Below w.heap.size w W → _ := fun W hW => moveUp_form (sh := sh) (N := M0) (hb.below hW) (by omega) hsb hsh (by omega)
 rw [← hn, ← hV] at ku1
 rw [← hm, ← hE] at ku2
 have FP := Lib.hid (show p + 1 = m ∧ 1 ≤ p by omega)
 have FN := Lib.hid (show N = n + 1 ∧ M0 = m + 1 ∧ N3 = n - m + 1 from ⟨hN, hM0, hN3⟩)
 have F1 := Lib.hid f1
 have F2 := Lib.hid f2
 have F3 := Lib.hid f3
 rw [← FQ, ← FR]
 have b1 : n ≤ 80000 := by omega
 have b2 : m ≤ n := by omega
 have b3 : 2 ≤ m := by omega
 have b4 : N ≤ 80001 := by omega
 have b5 : m < M0 := by omega
 have b6 : M0 ≤ N := by omega
 have b7 : N3 < N := by omega
 have b8 : 1 ≤ N3 := by omega
 have ei : (m : Int) - 1 = (p : Int) := by omega
 have bp : p < m := by omega
 have ush : IntKind.u64.wrap (sh : Int) = (sh : Int) := w64_of sh (by omega)
 rw [← hn, ← hm] at ⊢
 clear ha hb hcell hbb ht hsa hsb hcb h2 hle hp hT hT0 hs1 hs2 f1 f2 f3 FQ FR hV hE hn hm hN hM0 hN3 hla hlb
 refine (callsIn_wide (n := 0)).1 ?_
 refine callsIn_of_wp_marks Tryz.func149 rfl trivial ?_ rfl
 simp only [Tryz.ntmps149, List.size_toArray, List.length_cons, List.length_nil, Nat.reduceAdd, Nat.reduceSub, Array.replicate_succ, Array.replicate_zero, List.push_toArray, List.append_toArray, List.nil_append, List.cons_append]
 refine wpIn_wide.2 ?_
 go_wp2_with (go_at_call 169; refine (klz _).mono ?_; rintro e w' ⟨rfl, rfl⟩)
 refine Code.wp_mono (Q := fun e a' wx => e = .normal ∧ ∃ xb yb g1 c1 l1 g2 c2 l2, a' = { tmps := #[.slice a1 n d1, .slice (some ⟨bb, ob, none⟩) m d2, undef, undef, .pointer (some ⟨w.heap.size, 0, none⟩), .slice none 0 0, .int .u64 sh, .pointer (some ⟨xb, 0, none⟩), .pointer (some ⟨yb, 0, none⟩), undef, .slice (some ⟨bb, ob, none⟩) m d2, .slice (some ⟨bb, ob, none⟩) m d2, .int .i64 m, .int .i64 p, .pointer (some ⟨bb, ob + p, none⟩), .int .u32 T, .int .i64 sh, .int .u64 sh, .slice a1 n d1, .int .u64 sh, .slice (some ⟨g1, 0, none⟩) N c1, .slice (some ⟨bb, ob, none⟩) m d2, .int .u64 sh, .slice (some ⟨g2, 0, none⟩) M0 c2, .slice (some ⟨bb, ob, none⟩) m d2, .int .i64 m, .slice (some ⟨g2, 0, none⟩) m c2, undef, undef, undef, undef, undef, undef, undef, undef, undef, undef, undef, undef, undef, undef, undef, undef, undef, undef, undef, undef, undef, undef, undef, undef, undef, undef, undef, undef, undef, undef, undef], defers := [] } ∧ Hid (l1.length = N ∧ Sm l1 ∧ val l1 = V) ∧ Hid (l2.length = M0 ∧ Sm l2 ∧ val l2 = E) ∧ N ≤ c1 ∧ M0 ≤ c2 ∧ MD w wx N M0 m xb yb g1 c1 l1 g2 c2 l2) ?rest ?first
 case first =>
  refine wp_region_held (S := fun _ => True) (by kernel_rfl) ?_
  change wpAnyH _ _ _ _ _ _ _ _ (w.alloc (.cells #[.slice none 0 0] 40)).drew
  obtain ⟨V0, hV0, M⟩ : ∃ V, V = (w.alloc (.cells #[.slice none 0 0] 40)).drew ∧ MS w V N M0 none none none none := ⟨_, rfl, MS.start⟩
  rw [← hV0]
  clear hV0
  refine wtp 0 ((.slice a1 n d1)) rfl (fun _ _ _ h => nomatch h.1) (Or.inl ⟨by rfl, fun W3 _ => by go_simp⟩) trivial ?_
  refine wtp 1 ((.int .u64 sh)) rfl (fun _ _ _ h => nomatch h.1) (Or.inl ⟨by rfl, fun W3 _ => by go_simp⟩) trivial ?_
  refine wtp 3 ((.slice (some ⟨bb, ob, none⟩) m d2)) rfl (fun _ _ _ h => nomatch h.1) (Or.inl ⟨by rfl, fun W3 _ => by go_simp⟩) trivial ?_
  refine wtp 4 ((.int .u64 sh)) rfl (fun _ _ _ h => nomatch h.1) (Or.inl ⟨by rfl, fun W3 _ => by go_simp⟩) trivial ?_
  refine wtp 6 ((.slice (some ⟨bb, ob, none⟩) m d2)) rfl (fun _ _ _ h => nomatch h.1) (Or.inl ⟨by rfl, fun W3 _ => by go_simp⟩) trivial ?_
  refine wtp 7 ((.int .i64 m)) rfl (fun _ _ _ h => nomatch h.1) (Or.inl ⟨by rfl, fun W3 _ => by go_simp⟩) trivial ?_
  refine three_op 2 9 10 ?_ ?_ ?_
  · refine wpOp_intro rfl (fun K1 hK => ?_)
    go_simp
    refine (ku1 _ M.below).mono ?_
    rintro e V1_2 ⟨g1, c1, l1, rfl, F, p1, i1, r⟩
    have M' := M.call1 r F
    refine hK _ _ ⟨trivial, ?_⟩
    clear hK K1 M F r; have M := M'; clear M'
    refine three_op 5 9 10 ?_ ?_ ?_
    · refine wpOp_intro rfl (fun K2 hK => ?_)
      go_simp
      refine (ku2 _ M.below).mono ?_
      rintro e V2_5 ⟨g2, c2, l2, rfl, F, p2, i2, r⟩
      have hm1 : ¬ (c2 : Int) < (m : Int) := by omega
      have hm2 : ¬ c2 < m := by omega
      have M' := M.call2 r F
      refine hK _ _ ⟨trivial, ?_⟩
      clear hK K2 M F r; have M := M'; clear M'
      refine wtp 8 ((.slice (some ⟨g2, 0, none⟩) m c2)) rfl (fun _ _ _ h => nomatch h.1) (Or.inl ⟨by rfl, fun W3 _ => by go_simp⟩) trivial ?_
      refine two_op 9 10 ?_ ?_
      · refine wpOp_intro rfl (fun K3 hK => ?_)
        go_simp
        obtain ⟨V3_9, hV, M'⟩ : ∃ V, V = V2_5.alloc (.cells #[.slice none 0 0] 40) ∧ MS w V N M0 (some V2_5.heap.size) none (some (g1, c1, l1)) (some (g2, c2, l2)) := ⟨_, rfl, M.allocX⟩
        rw [← hV]
        refine hK _ _ ⟨trivial, ?_⟩
        clear hK K3 M hV; have M := M'; clear M'
        refine one_op 10 rfl (fun K4 hK => ?_)
        go_simp
        obtain ⟨V4_10, hV, M'⟩ : ∃ V, V = V3_9.alloc (.cells #[.slice none 0 0] 40) ∧ MS w V N M0 (some V2_5.heap.size) (some V3_9.heap.size) (some (g1, c1, l1)) (some (g2, c2, l2)) := ⟨_, rfl, M.allocY⟩
        rw [← hV]
        refine hK _ _ ⟨trivial, ?_⟩
        clear hK K4 M hV; have M := M'; clear M'
        have X := (M.2.2.1 _ rfl).1
        have Y := (M.2.2.2.1 _ rfl).1.other (Ne.symm (M.2.2.2.2.1 _ _ rfl rfl)) (.slice (some ⟨g1, 0, none⟩) N c1)
        have q0 := X.cell; have q1 := X.frozen; have q2 := Y.cell; have q3 := Y.frozen
        refine one_op 11 rfl (fun Ke hK => ?_)
        go_simp
        refine hK _ _ ⟨trivial, ?_⟩
        clear hK Ke q0 q1
        refine one_op 12 rfl (fun Kf hK => ?_)
        go_simp
        refine hK _ _ ⟨trivial, ?_⟩
        clear hK Kf q2 q3
        refine wdn ?_
        exact ⟨rfl, _, _, g1, c1, l1, g2, c2, l2, rfl, p1, p2, i1, i2, M.both⟩
      · refine wpOp_intro rfl (fun K3 hK => ?_)
        go_simp
        obtain ⟨V3_10, hV, M'⟩ : ∃ V, V = V2_5.alloc (.cells #[.slice none 0 0] 40) ∧ MS w V N M0 none (some V2_5.heap.size) (some (g1, c1, l1)) (some (g2, c2, l2)) := ⟨_, rfl, M.allocY⟩
        rw [← hV]
        refine hK _ _ ⟨trivial, ?_⟩
        clear hK K3 M hV; have M := M'; clear M'
        refine one_op 9 rfl (fun K5 hK => ?_)
        go_simp
        obtain ⟨V5_9, hV, M'⟩ : ∃ V, V = V3_10.alloc (.cells #[.slice none 0 0] 40) ∧ MS w V N M0 (some V3_10.heap.size) (some V2_5.heap.size) (some (g1, c1, l1)) (some (g2, c2, l2)) := ⟨_, rfl, M.allocX⟩
        rw [← hV]
        refine hK _ _ ⟨trivial, ?_⟩
        clear hK K5 M hV; have M := M'; clear M'
        have X := (M.2.2.1 _ rfl).1
        have Y := (M.2.2.2.1 _ rfl).1.other (Ne.symm (M.2.2.2.2.1 _ _ rfl rfl)) (.slice (some ⟨g1, 0, none⟩) N c1)
        have q0 := X.cell; have q1 := X.frozen; have q2 := Y.cell; have q3 := Y.frozen
        refine one_op 11 rfl (fun Ke hK => ?_)
        go_simp
        refine hK _ _ ⟨trivial, ?_⟩
        clear hK Ke q0 q1
        refine one_op 12 rfl (fun Kf hK => ?_)
        go_simp
        refine hK _ _ ⟨trivial, ?_⟩
        clear hK Kf q2 q3
        refine wdn ?_
        exact ⟨rfl, _, _, g1, c1, l1, g2, c2, l2, rfl, p1, p2, i1, i2, M.both⟩
    · refine wpOp_intro rfl (fun K2 hK => ?_)
      go_simp
      obtain ⟨V2_9, hV, M'⟩ : ∃ V, V = V1_2.alloc (.cells #[.slice none 0 0] 40) ∧ MS w V N M0 (some V1_2.heap.size) none (some (g1, c1, l1)) none := ⟨_, rfl, M.allocX⟩
      rw [← hV]
      refine hK _ _ ⟨trivial, ?_⟩
      clear hK K2 M hV; have M := M'; clear M'
      refine two_op 5 10 ?_ ?_
      · refine wpOp_intro rfl (fun K6 hK => ?_)
        go_simp
        refine (ku2 _ M.below).mono ?_
        rintro e V6_5 ⟨g2, c2, l2, rfl, F, p2, i2, r⟩
        have hm1 : ¬ (c2 : Int) < (m : Int) := by omega
        have hm2 : ¬ c2 < m := by omega
        have M' := M.call2 r F
        refine hK _ _ ⟨trivial, ?_⟩
        clear hK K6 M F r; have M := M'; clear M'
        refine wtp 8 ((.slice (some ⟨g2, 0, none⟩) m c2)) rfl (fun _ _ _ h => nomatch h.1) (Or.inl ⟨by rfl, fun W3 _ => by go_simp⟩) trivial ?_
        refine one_op 10 rfl (fun K7 hK => ?_)
        go_simp
        obtain ⟨V7_10, hV, M'⟩ : ∃ V, V = V6_5.alloc (.cells #[.slice none 0 0] 40) ∧ MS w V N M0 (some V1_2.heap.size) (some V6_5.heap.size) (some (g1, c1, l1)) (some (g2, c2, l2)) := ⟨_, rfl, M.allocY⟩
        rw [← hV]
        refine hK _ _ ⟨trivial, ?_⟩
        clear hK K7 M hV; have M := M'; clear M'
        have X := (M.2.2.1 _ rfl).1
        have Y := (M.2.2.2.1 _ rfl).1.other (Ne.symm (M.2.2.2.2.1 _ _ rfl rfl)) (.slice (some ⟨g1, 0, none⟩) N c1)
        have q0 := X.cell; have q1 := X.frozen; have q2 := Y.cell; have q3 := Y.frozen
        refine one_op 11 rfl (fun Ke hK => ?_)
        go_simp
        refine hK _ _ ⟨trivial, ?_⟩
        clear hK Ke q0 q1
        refine one_op 12 rfl (fun Kf hK => ?_)
        go_simp
        refine hK _ _ ⟨trivial, ?_⟩
        clear hK Kf q2 q3
        refine wdn ?_
        exact ⟨rfl, _, _, g1, c1, l1, g2, c2, l2, rfl, p1, p2, i1, i2, M.both⟩
      · refine wpOp_intro rfl (fun K6 hK => ?_)
        go_simp
        obtain ⟨V6_10, hV, M'⟩ : ∃ V, V = V2_9.alloc (.cells #[.slice none 0 0] 40) ∧ MS w V N M0 (some V1_2.heap.size) (some V2_9.heap.size) (some (g1, c1, l1)) none := ⟨_, rfl, M.allocY⟩
        rw [← hV]
        refine hK _ _ ⟨trivial, ?_⟩
        clear hK K6 M hV; have M := M'; clear M'
        refine one_op 5 rfl (fun K8 hK => ?_)
        go_simp
        refine (ku2 _ M.below).mono ?_
        rintro e V8_5 ⟨g2, c2, l2, rfl, F, p2, i2, r⟩
        have hm1 : ¬ (c2 : Int) < (m : Int) := by omega
        have hm2 : ¬ c2 < m := by omega
        have M' := M.call2 r F
        refine hK _ _ ⟨trivial, ?_⟩
        clear hK K8 M F r; have M := M'; clear M'
        refine wtp 8 ((.slice (some ⟨g2, 0, none⟩) m c2)) rfl (fun _ _ _ h => nomatch h.1) (Or.inl ⟨by rfl, fun W3 _ => by go_simp⟩) trivial ?_
        have X := (M.2.2.1 _ rfl).1
        have Y := (M.2.2.2.1 _ rfl).1.other (Ne.symm (M.2.2.2.2.1 _ _ rfl rfl)) (.slice (some ⟨g1, 0, none⟩) N c1)
        have q0 := X.cell; have q1 := X.frozen; have q2 := Y.cell; have q3 := Y.frozen
        refine one_op 11 rfl (fun Ke hK => ?_)
        go_simp
        refine hK _ _ ⟨trivial, ?_⟩
        clear hK Ke q0 q1
        refine one_op 12 rfl (fun Kf hK => ?_)
        go_simp
        refine hK _ _ ⟨trivial, ?_⟩
        clear hK Kf q2 q3
        refine wdn ?_
        exact ⟨rfl, _, _, g1, c1, l1, g2, c2, l2, rfl, p1, p2, i1, i2, M.both⟩
    · refine wpOp_intro rfl (fun K2 hK => ?_)
      go_simp
      obtain ⟨V2_10, hV, M'⟩ : ∃ V, V = V1_2.alloc (.cells #[.slice none 0 0] 40) ∧ MS w V N M0 none (some V1_2.heap.size) (some (g1, c1, l1)) none := ⟨_, rfl, M.allocY⟩
      rw [← hV]
      refine hK _ _ ⟨trivial, ?_⟩
      clear hK K2 M hV; have M := M'; clear M'
      refine two_op 5 9 ?_ ?_
      · refine wpOp_intro rfl (fun K9 hK => ?_)
        go_simp
        refine (ku2 _ M.below).mono ?_
        rintro e V9_5 ⟨g2, c2, l2, rfl, F, p2, i2, r⟩
        have hm1 : ¬ (c2 : Int) < (m : Int) := by omega
        have hm2 : ¬ c2 < m := by omega
        have M' := M.call2 r F
        refine hK _ _ ⟨trivial, ?_⟩
        clear hK K9 M F r; have M := M'; clear M'
        refine wtp 8 ((.slice (some ⟨g2, 0, none⟩) m c2)) rfl (fun _ _ _ h => nomatch h.1) (Or.inl ⟨by rfl, fun W3 _ => by go_simp⟩) trivial ?_
        refine one_op 9 rfl (fun K10 hK => ?_)
        go_simp
        obtain ⟨V10_9, hV, M'⟩ : ∃ V, V = V9_5.alloc (.cells #[.slice none 0 0] 40) ∧ MS w V N M0 (some V9_5.heap.size) (some V1_2.heap.size) (some (g1, c1, l1)) (some (g2, c2, l2)) := ⟨_, rfl, M.allocX⟩
        rw [← hV]
        refine hK _ _ ⟨trivial, ?_⟩
        clear hK K10 M hV; have M := M'; clear M'
        have X := (M.2.2.1 _ rfl).1
        have Y := (M.2.2.2.1 _ rfl).1.other (Ne.symm (M.2.2.2.2.1 _ _ rfl rfl)) (.slice (some ⟨g1, 0, none⟩) N c1)
        have q0 := X.cell; have q1 := X.frozen; have q2 := Y.cell; have q3 := Y.frozen
        refine one_op 11 rfl (fun Ke hK => ?_)
        go_simp
        refine hK _ _ ⟨trivial, ?_⟩
        clear hK Ke q0 q1
        refine one_op 12 rfl (fun Kf hK => ?_)
        go_simp
        refine hK _ _ ⟨trivial, ?_⟩
        clear hK Kf q2 q3
        refine wdn ?_
        exact ⟨rfl, _, _, g1, c1, l1, g2, c2, l2, rfl, p1, p2, i1, i2, M.both⟩
      · refine wpOp_intro rfl (fun K9 hK => ?_)
        go_simp
        obtain ⟨V9_9, hV, M'⟩ : ∃ V, V = V2_10.alloc (.cells #[.slice none 0 0] 40) ∧ MS w V N M0 (some V2_10.heap.size) (some V1_2.heap.size) (some (g1, c1, l1)) none := ⟨_, rfl, M.allocX⟩
        rw [← hV]
        refine hK _ _ ⟨trivial, ?_⟩
        clear hK K9 M hV; have M := M'; clear M'
        refine one_op 5 rfl (fun K11 hK => ?_)
        go_simp
        refine (ku2 _ M.below).mono ?_
        rintro e V11_5 ⟨g2, c2, l2, rfl, F, p2, i2, r⟩
        have hm1 : ¬ (c2 : Int) < (m : Int) := by omega
        have hm2 : ¬ c2 < m := by omega
        have M' := M.call2 r F
        refine hK _ _ ⟨trivial, ?_⟩
        clear hK K11 M F r; have M := M'; clear M'
        refine wtp 8 ((.slice (some ⟨g2, 0, none⟩) m c2)) rfl (fun _ _ _ h => nomatch h.1) (Or.inl ⟨by rfl, fun W3 _ => by go_simp⟩) trivial ?_
        have X := (M.2.2.1 _ rfl).1
        have Y := (M.2.2.2.1 _ rfl).1.other (Ne.symm (M.2.2.2.2.1 _ _ rfl rfl)) (.slice (some ⟨g1, 0, none⟩) N c1)
        have q0 := X.cell; have q1 := X.frozen; have q2 := Y.cell; have q3 := Y.frozen
        refine one_op 11 rfl (fun Ke hK => ?_)
        go_simp
        refine hK _ _ ⟨trivial, ?_⟩
        clear hK Ke q0 q1
        refine one_op 12 rfl (fun Kf hK => ?_)
        go_simp
        refine hK _ _ ⟨trivial, ?_⟩
        clear hK Kf q2 q3
        refine wdn ?_
        exact ⟨rfl, _, _, g1, c1, l1, g2, c2, l2, rfl, p1, p2, i1, i2, M.both⟩
  · refine wpOp_intro rfl (fun K1 hK => ?_)
    go_simp
    obtain ⟨V1_9, hV, M'⟩ : ∃ V, V = V0.alloc (.cells #[.slice none 0 0] 40) ∧ MS w V N M0 (some V0.heap.size) none none none := ⟨_, rfl, M.allocX⟩
    rw [← hV]
    refine hK _ _ ⟨trivial, ?_⟩
    clear hK K1 M hV; have M := M'; clear M'
    refine two_op 2 10 ?_ ?_
    · refine wpOp_intro rfl (fun K12 hK => ?_)
      go_simp
      refine (ku1 _ M.below).mono ?_
      rintro e V12_2 ⟨g1, c1, l1, rfl, F, p1, i1, r⟩
      have M' := M.call1 r F
      refine hK _ _ ⟨trivial, ?_⟩
      clear hK K12 M F r; have M := M'; clear M'
      refine two_op 5 10 ?_ ?_
      · refine wpOp_intro rfl (fun K13 hK => ?_)
        go_simp
        refine (ku2 _ M.below).mono ?_
        rintro e V13_5 ⟨g2, c2, l2, rfl, F, p2, i2, r⟩
        have hm1 : ¬ (c2 : Int) < (m : Int) := by omega
        have hm2 : ¬ c2 < m := by omega
        have M' := M.call2 r F
        refine hK _ _ ⟨trivial, ?_⟩
        clear hK K13 M F r; have M := M'; clear M'
        refine wtp 8 ((.slice (some ⟨g2, 0, none⟩) m c2)) rfl (fun _ _ _ h => nomatch h.1) (Or.inl ⟨by rfl, fun W3 _ => by go_simp⟩) trivial ?_
        refine one_op 10 rfl (fun K14 hK => ?_)
        go_simp
        obtain ⟨V14_10, hV, M'⟩ : ∃ V, V = V13_5.alloc (.cells #[.slice none 0 0] 40) ∧ MS w V N M0 (some V0.heap.size) (some V13_5.heap.size) (some (g1, c1, l1)) (some (g2, c2, l2)) := ⟨_, rfl, M.allocY⟩
        rw [← hV]
        refine hK _ _ ⟨trivial, ?_⟩
        clear hK K14 M hV; have M := M'; clear M'
        have X := (M.2.2.1 _ rfl).1
        have Y := (M.2.2.2.1 _ rfl).1.other (Ne.symm (M.2.2.2.2.1 _ _ rfl rfl)) (.slice (some ⟨g1, 0, none⟩) N c1)
        have q0 := X.cell; have q1 := X.frozen; have q2 := Y.cell; have q3 := Y.frozen
        refine one_op 11 rfl (fun Ke hK => ?_)
        go_simp
        refine hK _ _ ⟨trivial, ?_⟩
        clear hK Ke q0 q1
        refine one_op 12 rfl (fun Kf hK => ?_)
        go_simp
        refine hK _ _ ⟨trivial, ?_⟩
        clear hK Kf q2 q3
        refine wdn ?_
        exact ⟨rfl, _, _, g1, c1, l1, g2, c2, l2, rfl, p1, p2, i1, i2, M.both⟩
      · refine wpOp_intro rfl (fun K13 hK => ?_)
        go_simp
        obtain ⟨V13_10, hV, M'⟩ : ∃ V, V = V12_2.alloc (.cells #[.slice none 0 0] 40) ∧ MS w V N M0 (some V0.heap.size) (some V12_2.heap.size) (some (g1, c1, l1)) none := ⟨_, rfl, M.allocY⟩
        rw [← hV]
        refine hK _ _ ⟨trivial, ?_⟩
        clear hK K13 M hV; have M := M'; clear M'
        refine one_op 5 rfl (fun K15 hK => ?_)
        go_simp
        refine (ku2 _ M.below).mono ?_
        rintro e V15_5 ⟨g2, c2, l2, rfl, F, p2, i2, r⟩
        have hm1 : ¬ (c2 : Int) < (m : Int) := by omega
        have hm2 : ¬ c2 < m := by omega
        have M' := M.call2 r F
        refine hK _ _ ⟨trivial, ?_⟩
        clear hK K15 M F r; have M := M'; clear M'
        refine wtp 8 ((.slice (some ⟨g2, 0, none⟩) m c2)) rfl (fun _ _ _ h => nomatch h.1) (Or.inl ⟨by rfl, fun W3 _ => by go_simp⟩) trivial ?_
        have X := (M.2.2.1 _ rfl).1
        have Y := (M.2.2.2.1 _ rfl).1.other (Ne.symm (M.2.2.2.2.1 _ _ rfl rfl)) (.slice (some ⟨g1, 0, none⟩) N c1)
        have q0 := X.cell; have q1 := X.frozen; have q2 := Y.cell; have q3 := Y.frozen
        refine one_op 11 rfl (fun Ke hK => ?_)
        go_simp
        refine hK _ _ ⟨trivial, ?_⟩
        clear hK Ke q0 q1
        refine one_op 12 rfl (fun Kf hK => ?_)
        go_simp
        refine hK _ _ ⟨trivial, ?_⟩
        clear hK Kf q2 q3
        refine wdn ?_
        exact ⟨rfl, _, _, g1, c1, l1, g2, c2, l2, rfl, p1, p2, i1, i2, M.both⟩
    · refine wpOp_intro rfl (fun K12 hK => ?_)
      go_simp
      obtain ⟨V12_10, hV, M'⟩ : ∃ V, V = V1_9.alloc (.cells #[.slice none 0 0] 40) ∧ MS w V N M0 (some V0.heap.size) (some V1_9.heap.size) none none := ⟨_, rfl, M.allocY⟩
      rw [← hV]
      refine hK _ _ ⟨trivial, ?_⟩
      clear hK K12 M hV; have M := M'; clear M'
      refine one_op 2 rfl (fun K16 hK => ?_)
      go_simp
      refine (ku1 _ M.below).mono ?_
      rintro e V16_2 ⟨g1, c1, l1, rfl, F, p1, i1, r⟩
      have M' := M.call1 r F
      refine hK _ _ ⟨trivial, ?_⟩
      clear hK K16 M F r; have M := M'; clear M'
      refine one_op 5 rfl (fun K17 hK => ?_)
      go_simp
      refine (ku2 _ M.below).mono ?_
      rintro e V17_5 ⟨g2, c2, l2, rfl, F, p2, i2, r⟩
      have hm1 : ¬ (c2 : Int) < (m : Int) := by omega
      have hm2 : ¬ c2 < m := by omega
      have M' := M.call2 r F
      refine hK _ _ ⟨trivial, ?_⟩
      clear hK K17 M F r; have M := M'; clear M'
      refine wtp 8 ((.slice (some ⟨g2, 0, none⟩) m c2)) rfl (fun _ _ _ h => nomatch h.1) (Or.inl ⟨by rfl, fun W3 _ => by go_simp⟩) trivial ?_
      have X := (M.2.2.1 _ rfl).1
      have Y := (M.2.2.2.1 _ rfl).1.other (Ne.symm (M.2.2.2.2.1 _ _ rfl rfl)) (.slice (some ⟨g1, 0, none⟩) N c1)
      have q0 := X.cell; have q1 := X.frozen; have q2 := Y.cell; have q3 := Y.frozen
      refine one_op 11 rfl (fun Ke hK => ?_)
      go_simp
      refine hK _ _ ⟨trivial, ?_⟩
      clear hK Ke q0 q1
      refine one_op 12 rfl (fun Kf hK => ?_)
      go_simp
      refine hK _ _ ⟨trivial, ?_⟩
      clear hK Kf q2 q3
      refine wdn ?_
      exact ⟨rfl, _, _, g1, c1, l1, g2, c2, l2, rfl, p1, p2, i1, i2, M.both⟩
  · refine wpOp_intro rfl (fun K1 hK => ?_)
    go_simp
    obtain ⟨V1_10, hV, M'⟩ : ∃ V, V = V0.alloc (.cells #[.slice none 0 0] 40) ∧ MS w V N M0 none (some V0.heap.size) none none := ⟨_, rfl, M.allocY⟩
    rw [← hV]
    refine hK _ _ ⟨trivial, ?_⟩
    clear hK K1 M hV; have M := M'; clear M'
    refine two_op 2 9 ?_ ?_
    · refine wpOp_intro rfl (fun K18 hK => ?_)
      go_simp
      refine (ku1 _ M.below).mono ?_
      rintro e V18_2 ⟨g1, c1, l1, rfl, F, p1, i1, r⟩
      have M' := M.call1 r F
      refine hK _ _ ⟨trivial, ?_⟩
      clear hK K18 M F r; have M := M'; clear M'
      refine two_op 5 9 ?_ ?_
      · refine wpOp_intro rfl (fun K19 hK => ?_)
        go_simp
        refine (ku2 _ M.below).mono ?_
        rintro e V19_5 ⟨g2, c2, l2, rfl, F, p2, i2, r⟩
        have hm1 : ¬ (c2 : Int) < (m : Int) := by omega
        have hm2 : ¬ c2 < m := by omega
        have M' := M.call2 r F
        refine hK _ _ ⟨trivial, ?_⟩
        clear hK K19 M F r; have M := M'; clear M'
        refine wtp 8 ((.slice (some ⟨g2, 0, none⟩) m c2)) rfl (fun _ _ _ h => nomatch h.1) (Or.inl ⟨by rfl, fun W3 _ => by go_simp⟩) trivial ?_
        refine one_op 9 rfl (fun K20 hK => ?_)
        go_simp
        obtain ⟨V20_9, hV, M'⟩ : ∃ V, V = V19_5.alloc (.cells #[.slice none 0 0] 40) ∧ MS w V N M0 (some V19_5.heap.size) (some V0.heap.size) (some (g1, c1, l1)) (some (g2, c2, l2)) := ⟨_, rfl, M.allocX⟩
        rw [← hV]
        refine hK _ _ ⟨trivial, ?_⟩
        clear hK K20 M hV; have M := M'; clear M'
        have X := (M.2.2.1 _ rfl).1
        have Y := (M.2.2.2.1 _ rfl).1.other (Ne.symm (M.2.2.2.2.1 _ _ rfl rfl)) (.slice (some ⟨g1, 0, none⟩) N c1)
        have q0 := X.cell; have q1 := X.frozen; have q2 := Y.cell; have q3 := Y.frozen
        refine one_op 11 rfl (fun Ke hK => ?_)
        go_simp
        refine hK _ _ ⟨trivial, ?_⟩
        clear hK Ke q0 q1
        refine one_op 12 rfl (fun Kf hK => ?_)
        go_simp
        refine hK _ _ ⟨trivial, ?_⟩
        clear hK Kf q2 q3
        refine wdn ?_
        exact ⟨rfl, _, _, g1, c1, l1, g2, c2, l2, rfl, p1, p2, i1, i2, M.both⟩
      · refine wpOp_intro rfl (fun K19 hK => ?_)
        go_simp
        obtain ⟨V19_9, hV, M'⟩ : ∃ V, V = V18_2.alloc (.cells #[.slice none 0 0] 40) ∧ MS w V N M0 (some V18_2.heap.size) (some V0.heap.size) (some (g1, c1, l1)) none := ⟨_, rfl, M.allocX⟩
        rw [← hV]
        refine hK _ _ ⟨trivial, ?_⟩
        clear hK K19 M hV; have M := M'; clear M'
        refine one_op 5 rfl (fun K21 hK => ?_)
        go_simp
        refine (ku2 _ M.below).mono ?_
        rintro e V21_5 ⟨g2, c2, l2, rfl, F, p2, i2, r⟩
        have hm1 : ¬ (c2 : Int) < (m : Int) := by omega
        have hm2 : ¬ c2 < m := by omega
        have M' := M.call2 r F
        refine hK _ _ ⟨trivial, ?_⟩
        clear hK K21 M F r; have M := M'; clear M'
        refine wtp 8 ((.slice (some ⟨g2, 0, none⟩) m c2)) rfl (fun _ _ _ h => nomatch h.1) (Or.inl ⟨by rfl, fun W3 _ => by go_simp⟩) trivial ?_
        have X := (M.2.2.1 _ rfl).1
        have Y := (M.2.2.2.1 _ rfl).1.other (Ne.symm (M.2.2.2.2.1 _ _ rfl rfl)) (.slice (some ⟨g1, 0, none⟩) N c1)
        have q0 := X.cell; have q1 := X.frozen; have q2 := Y.cell; have q3 := Y.frozen
        refine one_op 11 rfl (fun Ke hK => ?_)
        go_simp
        refine hK _ _ ⟨trivial, ?_⟩
        clear hK Ke q0 q1
        refine one_op 12 rfl (fun Kf hK => ?_)
        go_simp
        refine hK _ _ ⟨trivial, ?_⟩
        clear hK Kf q2 q3
        refine wdn ?_
        exact ⟨rfl, _, _, g1, c1, l1, g2, c2, l2, rfl, p1, p2, i1, i2, M.both⟩
    · refine wpOp_intro rfl (fun K18 hK => ?_)
      go_simp
      obtain ⟨V18_9, hV, M'⟩ : ∃ V, V = V1_10.alloc (.cells #[.slice none 0 0] 40) ∧ MS w V N M0 (some V1_10.heap.size) (some V0.heap.size) none none := ⟨_, rfl, M.allocX⟩
      rw [← hV]
      refine hK _ _ ⟨trivial, ?_⟩
      clear hK K18 M hV; have M := M'; clear M'
      refine one_op 2 rfl (fun K22 hK => ?_)
      go_simp
      refine (ku1 _ M.below).mono ?_
      rintro e V22_2 ⟨g1, c1, l1, rfl, F, p1, i1, r⟩
      have M' := M.call1 r F
      refine hK _ _ ⟨trivial, ?_⟩
      clear hK K22 M F r; have M := M'; clear M'
      refine one_op 5 rfl (fun K23 hK => ?_)
      go_simp
      refine (ku2 _ M.below).mono ?_
      rintro e V23_5 ⟨g2, c2, l2, rfl, F, p2, i2, r⟩
      have hm1 : ¬ (c2 : Int) < (m : Int) := by omega
      have hm2 : ¬ c2 < m := by omega
      have M' := M.call2 r F
      refine hK _ _ ⟨trivial, ?_⟩
      clear hK K23 M F r; have M := M'; clear M'
      refine wtp 8 ((.slice (some ⟨g2, 0, none⟩) m c2)) rfl (fun _ _ _ h => nomatch h.1) (Or.inl ⟨by rfl, fun W3 _ => by go_simp⟩) trivial ?_
      have X := (M.2.2.1 _ rfl).1
      have Y := (M.2.2.2.1 _ rfl).1.other (Ne.symm (M.2.2.2.2.1 _ _ rfl rfl)) (.slice (some ⟨g1, 0, none⟩) N c1)
      have q0 := X.cell; have q1 := X.frozen; have q2 := Y.cell; have q3 := Y.frozen
      refine one_op 11 rfl (fun Ke hK => ?_)
      go_simp
      refine hK _ _ ⟨trivial, ?_⟩
      clear hK Ke q0 q1
      refine one_op 12 rfl (fun Kf hK => ?_)
      go_simp
      refine hK _ _ ⟨trivial, ?_⟩
      clear hK Kf q2 q3
      refine wdn ?_
      exact ⟨rfl, _, _, g1, c1, l1, g2, c2, l2, rfl, p1, p2, i1, i2, M.both⟩
 case rest =>
  rintro e a' wc ⟨rfl, xb, yb, g1, c1, l1, g2, c2, l2, rfl, p1, p2, i1, i2, r1, r2, r3, r4, r5, r6, r7, r8, r9⟩
  clear ku1 ku2 klz ht'
  have a5 := r5.at
  have a6 := r6.at
  obtain ⟨post1, hB1, _, hpc1, hcm1⟩ := r5.blk (show N = l1.length from p1.out.1.symm)
  have kby : ∀ W, Fresh W w.heap.size (.slice (some ⟨g2, 0, none⟩) M0 c2) l2 → Reads W (.slice (some ⟨g2, 0, none⟩) m c2) (l2.take m) := fun W h => by_reads h (by omega)
  have hbl : (l2.take m).length = m := by rw [List.length_take, p2.out.1]; omega
  have hbv : val (l2.take m) = E := up_by (by rw [p2.out.1]; exact FN.out.2.1) p2.out.2.2 F1.out
  have hbt : 2147483648 ≤ (l2.take m).getD p 0 := top_of (by rw [hbl]; exact FP.out.1.symm) (p2.out.2.1.take m) hbv F2.out
  have HBY := Lib.hid (show (l2.take m).length = m ∧ val (l2.take m) = E ∧ 2147483648 ≤ (l2.take m).getD p 0 ∧ Sm (l2.take m) from ⟨hbl, hbv, hbt, p2.out.2.1.take m⟩)
  clear hbl hbv hbt
  obtain ⟨q, hq⟩ : ∃ q, q = wc.heap.size := ⟨_, rfl⟩
  have nwg : w.heap.size ≠ g1 := bx_ne r2 hB1 (by decide)
  have hxl := r3.lt
  have hyl := r4.lt
  have hwl := r2.lt
  go_wp2_with (first
    | (at_make; go_loud (refine wpList_make_full _ rfl _ _ 40 rfl wc.heap.size 127 i0 (.int .u32 0) 1 Tryz.underlying40 hi hz0 hz1 .i64 .i64 _ _ N3 rfl rfl (by have := FN.out; omega) (by have := FN.out; omega) (by rw [hz2]; omega) (by unfold maxLen; omega) (by simp) ?_); intro w1 hown1 hgrow1; have R1 := Boxed.kept r2 hgrow1 (by simp); have e0 := R1.cell; have e1 := R1.frozen)
    | (go_at_call 143; refine (back_any _ _ _ _).mono ?_; rintro e w' ⟨rfl, rfl⟩))
  have hs1 : wc.heap.size ≤ w1.heap.size := hgrow1.size
  have hF : Fresh w1 wc.heap.size (.slice (some ⟨wc.heap.size, 0, none⟩) N3 N3) (List.replicate N3 0) := by unfold Fresh; rw [List.length_replicate, ← replicate_zero_u32]; exact hown1
  have hqs := hF.at.2.1
  have hbel1 : Below w.heap.size w w1 := r1.grown hgrow1 r1.size (fun j e => by cases e)
  obtain ⟨s, hs⟩ : ∃ s, s = w1.heap.size := ⟨_, rfl⟩
  have X1 := Boxed.kept r3 hgrow1 (by simp)
  have Y1 := Boxed.kept r4 hgrow1 (by simp)
  have B1 := hB1.kept hgrow1 (by simp)
  have G1 : Fresh w1 w.heap.size (.slice (some ⟨g2, 0, none⟩) M0 c2) l2 := World.ownsRow.kept r6 hgrow1 (.inr (by simp [Value.ownBlock]))
  clear hown1 e0 e1
  rw [← hq] at hF hqs hs1 a5 a6 hxl hyl hwl ⊢
  rw [← hs] at hqs hs1 ⊢
  have g1q : g1 < q := a5.2.1
  have g2q : g2 < q := a6.2.1
  have g1w : w.heap.size ≤ g1 := a5.1
  have hsw1 : s ≤ w1.heap.size := Nat.le_of_eq hs
  have hsw2 : w1.heap.size ≤ s := Nat.le_of_eq hs.symm
  have HQ := Lib.hid hq
  have HS := Lib.hid hs
  have HPC := Lib.hid hpc1
  clear a5 a6 hq hs hpc1
  refine (wpIn_wide (n := 0)).1 ?_
  refine wp_rangeAt (gf := 167) rfl (enters_of Tryz.func167 (by kernel_rfl) rfl)
    (back_iter N3 q 0 N3 s _ (fun _ => 0) (by omega) (fun _ => rfl)) (fun _ => rfl)
    (LongInv w q g1 g2 xb yb s N3 N m M0 c2 post1 l2 (.slice (some ⟨g1, 0, none⟩) N c1) V E) (fun _ _ => False) ?own (fun _ _ _ _ h _ _ => h) ?reads ?start ?round ?done ?stop
  case own =>
    rintro k W W' r ⟨⟨qs, cur, h1, h2, h3, h4, h5, h6, h7, h8⟩, k1, k2, k3, k4, k5, k6⟩ hg hr
    exact ⟨⟨qs, cur, h1.keep hg hr, h2, h3, h4, h5.keep hg hr, h6, h7, h8⟩, keepBox k1 hg hr, keepBox k2 hg hr, keepBox k3 hg hr, keepBox k4 hg hr, keepFresh k5 hg hr, keepBelow k6 (Nat.le_refl _) (by simp; omega) hg hr⟩
  case reads =>
    rintro k W ⟨⟨qs, cur, h1, h2, h3, h4, h5⟩, k1, k2, k3, k4, k5, k6⟩
    refine ⟨k4.cell, fun hk => ?_⟩
    have e := h1.cell (o := 0) rfl (N3 - 1 - k) (by omega)
    rw [h4 _ (by omega)] at e
    exact e
  case start =>
    have hq := HQ.out
    have hs := HS.out
    subst hq hs
    obtain ⟨post, h1, _, h3, _⟩ := hF.blk (by simp)
    obtain rfl : post = [] := List.eq_nil_of_length_eq_zero (by rw [List.length_replicate] at h3; omega)
    refine ⟨⟨List.replicate N3 0, l1, ((h1.box (by omega) _).alloc _), by simp, Sm.replicate N3, fun j _ => ?_, ((B1.box (by omega) _).alloc _), p1.out.1, p1.out.2.1, ?_⟩, (R1.set _).alloc _, (X1.other (by omega) _).alloc _, (Y1.other (by omega) _).alloc _, ?_, (G1.box R1 (by decide) _).alloc _, ?_⟩
    · rw [List.getD_eq_getElem?_getD, List.getElem?_replicate]; split <;> rfl
    · rw [p1.out.2.2, Nat.sub_zero]; exact Dv.start F3.out
    · have := Boxed.new (w1.setCell ⟨w.heap.size, 0, none⟩ (.slice (some ⟨wc.heap.size, 0, none⟩) N3 N3)) 40 (.slice (some ⟨wc.heap.size, 0, none⟩) N3 N3)
      rwa [World.size_setCell] at this
    · exact (hbel1.setCell (p := ⟨w.heap.size, 0, none⟩) (Nat.le_refl _) _).alloc (by simp; omega) _
  case round =>
    intro lp k W hk
    obtain ⟨i, hi'⟩ : ∃ i, i = N3 - 1 - k := ⟨_, rfl⟩
    dsimp only
    rw [← hi']
    have HI := Lib.hid hi'
    have hiN3 : i < N3 := by omega
    clear hi' hB1 B1 X1 Y1 G1 R1 hF
    gi_wp2
    refine NextRound.mk ?_
    rintro W2 ⟨⟨qs, cur, h1, h2, h3, h4, h5, h6, h7, h8⟩, k1, k2, k3, k4, k5, k6⟩
    obtain ⟨hiN, hhi⟩ : ∃ h, h = i + m + 1 := ⟨_, rfl⟩
    have hfn := FN.out
    have hfp := FP.out
    have hby := HBY.out
    have hsplit : cur.take i ++ (cur.drop i).take (m + 1) ++ cur.drop (i + m + 1) = cur := by
      rw [show i + m + 1 = i + (m + 1) by omega, ← List.drop_drop, List.append_assoc, List.take_append_drop, List.take_append_drop]
    have hb1 : Blk W2 g1 ([] ++ (cur.take i).map u32v) ((cur.drop i).take (m + 1)) ((cur.drop (i + m + 1)).map u32v ++ post1) := Blk.split.1 (by rw [hsplit]; exact h5)
    have hrl : ((cur.drop i).take (m + 1)).length = m + 1 := by rw [List.length_take, List.length_drop]; omega
    have hc1 : c1 = N + post1.length := by have hpc1 := HPC.out; rw [p1.out.1] at hpc1; omega
    have hi1 : N3 - k = i + 1 := by have := HI.out; omega
    rw [hi1] at h8 h4
    have hst := fun (row' : List Nat) (hr : row'.length = m + 1) (hv : val row' = val ((cur.drop i).take (m + 1)) % E) => h8.step (m := m) F1.out h7 (by omega) (by omega) hr hv
    have hrow : val ((cur.drop i).take (m + 1)) < 4294967296 * E := by
      have hE0 : 0 < E := by
        rcases Nat.eq_zero_or_pos E with h | h
        · have := F2.out
          rw [h] at this
          have := Nat.pow_pos (n := p) (show 0 < 4294967296 by decide)
          omega
        · exact h
      have hEm := F1.out
      refine (hst (digs (val ((cur.drop i).take (m + 1)) % E) ++ List.replicate (m + 1 - (digs (val ((cur.drop i).take (m + 1)) % E)).length) 0) ?_ ?_).1
      · have : (digs (val ((cur.drop i).take (m + 1)) % E)).length ≤ m := digs_length_le (Nat.lt_trans (Nat.mod_lt _ hE0) hEm)
        rw [List.length_append, List.length_replicate]; omega
      · rw [val_append, val_replicate, Nat.mul_zero, Nat.add_zero, val_digs]
    have hto := takeOut_any (w := W2.drew) (cap := c1 - i) (n := p - 1) hb1 (o := i) (by simp; omega) (by omega) (kby W2.drew k5) (by simp [Value.ownBlock]; omega) (by omega) (by omega) (by omega) (by omega) ((h7.drop i).take _) hby.2.2.2 (by rw [show p - 1 + 1 = p by omega]; exact hby.2.2.1) (by rw [hby.2.1]; exact hrow)
    rw [hrl, hby.2.1, ← hfn.2.1] at hto
    have u0 := k1.cell
    have u1 := k2.cell
    have u2 := k3.cell
    have HST := Lib.hid hst
    have HSP := Lib.hid hsplit
    have HRL := Lib.hid hrl
    have HHI := Lib.hid hhi
    have H2 := Lib.hid h2
    have H4 := Lib.hid h4
    have H6 := Lib.hid h6
    have v1 : IntKind.i64.wrap ((i : Int) + (m : Int)) = (i : Int) + (m : Int) := IntWalk.i64_in _ (by omega)
    have v2 : IntKind.i64.wrap ((i : Int) + (m : Int) + 1) = (hiN : Int) := by rw [IntWalk.i64_in _ (by omega)]; omega
    have v3 : (i : Int) ≤ (hiN : Int) := by omega
    have v4 : (hiN : Int) ≤ (c1 : Int) := by omega
    have v5 : hiN - i = M0 := by omega
    have v6 : (0 : Int) ≤ (i : Int) + (m : Int) := by omega
    have v7 : i ≤ hiN := by omega
    have v8 : hiN ≤ c1 := by omega
    have v9 : ¬ (c1 : Int) < (hiN : Int) := by omega
    have v10 : ¬ (hiN : Int) < (i : Int) := by omega
    have v11 : ¬ c1 = i := by omega
    have HC1 := Lib.hid hc1
    clear hst hsplit hrl hhi h2 h4 h6 hrow hfn hfp hby hi1 hc1
    gi_wp2_with (refine region_held_in (Lets.round lp) (fun W => W.cell? ⟨w.heap.size, 0, none⟩ = some (.slice (some ⟨q, 0, none⟩) N3 N3) ∧ W.cell? ⟨xb, 0, none⟩ = some (.slice (some ⟨g1, 0, none⟩) N c1) ∧ W.cell? ⟨yb, 0, none⟩ = some (.slice (some ⟨g2, 0, none⟩) m c2)) (by kernel_rfl) (by kernel_rfl) (by rintro ⟨_, _, h⟩; exact h) (Stop.of ?_))
    refine Stop.mk ?_
    have hS0 : W2.drew.cell? ⟨w.heap.size, 0, none⟩ = some (.slice (some ⟨q, 0, none⟩) N3 N3) ∧ W2.drew.cell? ⟨xb, 0, none⟩ = some (.slice (some ⟨g1, 0, none⟩) N c1) ∧ W2.drew.cell? ⟨yb, 0, none⟩ = some (.slice (some ⟨g2, 0, none⟩) m c2) := ⟨u0, u1, u2⟩
    refine wtp 0 ((.slice (some ⟨q, 0, none⟩) N3 N3)) rfl (fun _ _ _ h => h) (Or.inl ⟨by rfl, fun W3 hS => by obtain ⟨hS1, hS2, hS3⟩ := hS; go_simp⟩) hS0 ?_
    refine wtp 1 ((.int .i64 i)) rfl (fun _ _ _ h => h) (Or.inl ⟨by rfl, fun W3 hS => by obtain ⟨hS1, hS2, hS3⟩ := hS; go_simp⟩) hS0 ?_
    refine wtp 2 ((.slice (some ⟨g1, 0, none⟩) N c1)) rfl (fun _ _ _ h => h) (Or.inl ⟨by rfl, fun W3 hS => by obtain ⟨hS1, hS2, hS3⟩ := hS; go_simp⟩) hS0 ?_
    refine wtp 3 ((.int .i64 i)) rfl (fun _ _ _ h => h) (Or.inl ⟨by rfl, fun W3 hS => by obtain ⟨hS1, hS2, hS3⟩ := hS; go_simp⟩) hS0 ?_
    refine wtp 4 ((.int .i64 i)) rfl (fun _ _ _ h => h) (Or.inl ⟨by rfl, fun W3 hS => by obtain ⟨hS1, hS2, hS3⟩ := hS; go_simp⟩) hS0 ?_
    refine wtp 5 ((.slice (some ⟨g2, 0, none⟩) m c2)) rfl (fun _ _ _ h => h) (Or.inl ⟨by rfl, fun W3 hS => by obtain ⟨hS1, hS2, hS3⟩ := hS; go_simp⟩) hS0 ?_
    refine wtp 6 ((.int .i64 m)) rfl (fun _ _ _ h => h) (Or.inl ⟨by rfl, fun W3 hS => by obtain ⟨hS1, hS2, hS3⟩ := hS; go_simp⟩) hS0 ?_
    refine wtp 7 ((.int .i64 ((i : Int) + (m : Int)))) rfl (fun _ _ _ h => h) (Or.inl ⟨by rfl, fun W3 hS => by obtain ⟨hS1, hS2, hS3⟩ := hS; go_simp⟩) hS0 ?_
    refine wtp 8 ((.int .i64 hiN)) rfl (fun _ _ _ h => h) (Or.inl ⟨by rfl, fun W3 hS => by obtain ⟨hS1, hS2, hS3⟩ := hS; go_simp⟩) hS0 ?_
    refine wtp 9 ((.slice (some ⟨g1, i, none⟩) M0 (c1 - i))) rfl (fun _ _ _ h => h) (Or.inl ⟨by rfl, fun W3 hS => by obtain ⟨hS1, hS2, hS3⟩ := hS; go_simp⟩) hS0 ?_
    refine wtp 10 ((.slice (some ⟨g2, 0, none⟩) m c2)) rfl (fun _ _ _ h => h) (Or.inl ⟨by rfl, fun W3 hS => by obtain ⟨hS1, hS2, hS3⟩ := hS; go_simp⟩) hS0 ?_
    refine one_op 11 rfl (fun K hK => ?_)
    go_simp
    refine hto.mono ?_
    rintro e W4 ⟨row', qd, rfl, t1, t2, t3, t4, t5, t6, t7⟩
    have g1n : g1 ≠ q := by omega
    have n0 := bx_ne k1 hb1 (by decide)
    have n1 := bx_ne k2 hb1 (by decide)
    have n2 := bx_ne k3 hb1 (by decide)
    have n3 := bx_ne k4 hb1 (by decide)
    have K1 := Boxed.kept (W := W2.drew) k1 t7 (by simpa using n0)
    have K2 := Boxed.kept (W := W2.drew) k2 t7 (by simpa using n1)
    have K3 := Boxed.kept (W := W2.drew) k3 t7 (by simpa using n2)
    have K4 := Boxed.kept (W := W2.drew) k4 t7 (by simpa using n3)
    have Q4 : Blk W4 q [] qs [] := Blk.kept (W := W2.drew) h1 t7 (by simpa using Ne.symm g1n)
    have hS1 : W4.cell? ⟨w.heap.size, 0, none⟩ = some (.slice (some ⟨q, 0, none⟩) N3 N3) ∧ W4.cell? ⟨xb, 0, none⟩ = some (.slice (some ⟨g1, 0, none⟩) N c1) ∧ W4.cell? ⟨yb, 0, none⟩ = some (.slice (some ⟨g2, 0, none⟩) m c2) := ⟨K1.cell, K2.cell, K3.cell⟩
    refine hK _ _ ⟨hS1, ?_⟩
    have z0 := Q4.cell (o := 0) rfl i (by rw [H2.out]; exact hiN3)
    have z1 := Q4.frozen i
    rw [Nat.zero_add] at z0
    obtain ⟨z, hz⟩ : ∃ z, z = qs.getD i 0 := ⟨_, rfl⟩
    rw [← hz] at z0
    have Q5 := Q4.set (o := 0) rfl i qd (by rw [H2.out]; exact hiN3)
    rw [Nat.zero_add] at Q5
    have T1 := Lib.hid t1
    have T4 := Lib.hid t4
    have T6 := Lib.hid t6
    clear hK K hto hS0 hz t1 t4 t6
    refine wtp 12 (.pointer (some ⟨q, i, none⟩)) rfl (fun _ _ _ h => h) (Or.inl ⟨by rfl, fun W3 hS => by obtain ⟨hS1, hS2, hS3⟩ := hS; go_simp⟩) hS1 ?_
    refine one_op 13 rfl (fun K hK => ?_)
    go_simp
    refine hK _ _ ⟨?_, ?_⟩
    · clear hK K
      exact ⟨(boxed_row K1 (show w.heap.size ≠ q by omega) _).cell, (boxed_row K2 (show xb ≠ q by omega) _).cell, (boxed_row K3 (show yb ≠ q by omega) _).cell⟩
    clear hK K
    refine wdn ?_
    gi_wp2
    have hfn := FN.out
    have hi2 : N3 - (k + 1) = i := by have := HI.out; omega
    have hst := HST.out row' (by rw [T4.out]; exact hfn.2.1) (by rw [T6.out, hfn.2.1])
    have hq7 : Blk W4 g1 [] (cur.take i ++ row' ++ cur.drop (i + m + 1)) post1 := Blk.split.2 t3
    have hil : i + m + 1 ≤ cur.length := by rw [H6.out]; omega
    refine ⟨(((KeepsOthers.drew W2).trans (KeepsOthers.of_grownBy t7 (fun j o ej ho => by cases ej; rw [show W2.drew.heap[g1]? = _ from h5] at ho; cases ho; rfl))).trans (KeepsOthers.setCell W4 _ _)).from _,
      ⟨qs.set i qd, cur.take i ++ row' ++ cur.drop (i + m + 1), Q5, by rw [List.length_set]; exact H2.out, h3.set _ _ t2, ?_, hq7.kept (grown_setCell (g := q) (grown_refl W4 (some q)) i _) (by simpa using g1n), ?_, (((h7.take i).append t5).append (h7.drop _)), ?_⟩,
      boxed_row K1 (by omega) _, boxed_row K2 (by omega) _, boxed_row K3 (by omega) _, boxed_row K4 (by omega) _, ?_, ?_⟩
    · rw [hi2]
      intro j hj
      rw [List.getD_eq_getElem?_getD, List.getElem?_set_ne (by omega), ← List.getD_eq_getElem?_getD]
      exact H4.out j (by omega)
    · rw [List.length_append, List.length_append, T4.out, List.length_take, List.length_drop, H6.out]; have := H6.out; omega
    · rw [hi2, T1.out, hfn.2.1]; exact hst.2
    · have e1 : Fresh W4 w.heap.size (.slice (some ⟨g2, 0, none⟩) M0 c2) l2 := World.ownsRow.kept (show W2.drew.ownsRow w.heap.size 127 1 (.slice (some ⟨g2, 0, none⟩) M0 c2) l2.length (l2.map u32v) from k5) t7 (.inr (by simp [Value.ownBlock]; exact Ne.symm r7))
      exact World.ownsRow.kept e1 (grown_setCell (g := q) (grown_refl W4 (some q)) i _) (.inr (by simp [Value.ownBlock]; omega))
    · exact (k6.drew.grown t7 (show w.heap.size ≤ W2.heap.size from k6.size) (fun j e => by cases e; omega)).setCell (p := ⟨q, i, none⟩) (show w.heap.size ≤ q by omega) _
  case done =>
    rintro D W hD ⟨⟨qs, cur, h1, h2, h3, h4, h5, h6, h7, h8⟩, k1, k2, k3, k4, k5, k6⟩ hK
    rw [Nat.sub_self] at h8
    obtain ⟨e1, e2⟩ := h8.done
    have kmd := moveDown_any (w := W) (cap := c1) (sh := sh) h5 (by omega) h7 hsh
    rw [h6, e2] at kmd
    have x0 := k2.cell
    have y0 := k1.cell
    have n0 := bx_ne k1 h5 (by decide)
    have n1 := bx_ne k2 h5 (by decide)
    have hDg : D ≠ g1 := by
      rintro rfl
      rw [show W.heap[D]? = _ from h5] at hK; cases hK
    have E1 := Lib.hid e1
    have H2 := Lib.hid h2
    clear e1 e2 h2 h4 h6 h8 hB1 B1 X1 Y1 G1 R1 hF
    go_wp2_with (go_at_call 174; refine kmd.mono ?_; clear kmd; rintro e W5 ⟨rr, l', rfl, t1, t2, t3, t4, t5⟩; have K1 := Boxed.kept k1 t5 (by simpa using n0); have K2 := Boxed.kept k2 t5 (by simpa using n1); have x5 := K2.cell; have y5 := K1.cell)
    have hgq : g1 ≠ q := by omega
    have Q5 : Blk W5 q [] qs [] := Blk.kept h1 t5 (by simpa using Ne.symm hgq)
    have hK5 : W5.heap[D]? = some (.deferred (some [])) := (t5.block D (Array.getElem?_eq_some_iff.1 hK).1 (by simpa using hDg)).trans hK
    have hW1 := Q5.fresh (base := w.heap.size) (cap := N3) (by omega) (by rw [H2.out]; simp) (small_max (by omega))
    rw [H2.out] at hW1
    have hW2 := t1.fresh (base := w.heap.size) (cap := c1) (by omega) (by rw [t2, ← p1.out.1]; exact HPC.out) hcm1
    rw [t2] at hW2
    have kt1 := unflip (trim_fresh (W := W5.drew) hW1 H2.out.symm (by rw [H2.out]; omega))
    have kt2 := unflip (trim_fresh (W := W5.drew) hW2 t2.symm (by omega))
    have hR1 := hW1.trim' H2.out.symm h3
    have hR2 := hW2.trim' t2.symm t3
    rw [E1.out] at hR1
    rw [t4] at hR2
    have y6 := K1.frozen
    have x6 := x5
    obtain ⟨ta1, tn1, tc1, htv1⟩ := trimV_slice q 0 N3 qs
    obtain ⟨ta2, tn2, tc2, htv2⟩ := trimV_slice g1 0 c1 l'
    have htwo := trimV_two (c := N3) (d := c1) (l := qs) (m := l') (Ne.symm hgq)
    rw [htv1, htv2] at htwo
    rw [htv1] at kt1 hR1
    rw [htv2] at kt2 hR2
    have HT2 := Lib.hid t2
    clear htv1 htv2 t2 t4 x0 y0
    refine (wpIn_wide (n := 0)).1 ?_
    refine region_tail_in Lets.wide 4 (by kernel_rfl) (by kernel_rfl) ?_
    simp only [List.take_succ_cons, List.take_zero, List.drop_succ_cons, List.drop_zero]
    still_step
    still_call kt1
    clear kt1
    still_step
    still_call kt2
    clear kt2
    refine wpStill_nil ?_
    gi_wp2
    go_wp2
    have hDw : D ≠ w.heap.size := by have := k1.lt; simp at hD; omega
    have K6 : Boxed (W5.drew.setCell ⟨w.heap.size, 0, none⟩ (.slice ta1 tn1 tc1)) w.heap.size 40 (.slice ta1 tn1 tc1) := Boxed.set (W := W5.drew) (.slice ta1 tn1 tc1) K1
    have hK6 : (W5.drew.setCell ⟨w.heap.size, 0, none⟩ (.slice ta1 tn1 tc1)).heap[D]? = some (.deferred (some [])) := heap_row (W := W5.drew) hK5 hDw (.slice ta1 tn1 tc1)
    have hb6 : Below w.heap.size w (W5.drew.setCell ⟨w.heap.size, 0, none⟩ (.slice ta1 tn1 tc1)) := ((k6.grown t5 k6.size (fun j e => by cases e; omega)).drew).setCell (p := ⟨w.heap.size, 0, none⟩) (Nat.le_refl _) _
    have f1 := (Fresh.box (W := W5.drew) hR1 K1 (by decide) (.slice ta1 tn1 tc1)).left (D := D) (.deferred none) hK6 rfl
    have f2 := (Fresh.box (W := W5.drew) hR2 K1 (by decide) (.slice ta1 tn1 tc1)).left (D := D) (.deferred none) hK6 rfl
    refine ⟨by simp, .inl ⟨_, _, rfl, run_takeDeferred hK6, ?_⟩⟩
    exact ⟨_, res_long (by rfl) (below_boxed_left D hK6 K6), _, _, rfl, f1, f2, below_left _ hb6 (by simp at hD; omega) hK6 rfl, htwo⟩
  case stop =>
    rintro D c W _ h _
    exact h.elim
end Go.Proofs.YtgmbaamfobhceaaGreat
