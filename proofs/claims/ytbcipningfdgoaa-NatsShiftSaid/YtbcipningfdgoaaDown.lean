/- Bits moved down, as the program does it, in place. -/
import Derived.Test.YtbcipningfdgoaaBlk
import Derived.Test.YtbcipningfdgoaaBits
import Derived.Test.YtbcipningfdgoaaMathU
namespace Go.Proofs.Ytbcipningfdgoaa
open Go Go.Proofs Go.RowKit Go.Shelf Nu

attribute [local go_sem] Oper.semAt_some

/-- what holds between two rounds of moveDown's loop -/
def DownInv (w : World) (g : Nat) (post : List Value) (l : List Nat) (sh : Nat) (va : Value) (k : Nat) (W : World) : Prop :=
  (∃ (cur : List Nat) (a : Nat), Blk W g [] cur post ∧ cur.length = l.length ∧ Sm cur ∧ a = l.getD (l.length - k) 0 ∧ cur.take (l.length - k) = l.take (l.length - k) ∧ val (cur.drop (l.length - k)) = val (l.drop (l.length - k)) / 2 ^ sh ∧ Boxed W (w.heap.size + 1 + 1) 37 (.int .u32 a)) ∧
  Boxed W w.heap.size 23 va ∧ Boxed W (w.heap.size + 1) 46 (.int .u64 sh) ∧ Boxed W (w.heap.size + 1 + 1 + 1) 23 va ∧ w.grownBy W (some g)

theorem down_or {a x sh : Nat} (ha : a < 4294967296) (hx : x < 4294967296) :
    ∃ O P : Nat, bits BinOp.or IntKind.u64 ((a : Int) * 4294967296) (x : Int) = (O : Int) ∧ (O : Int) / 2 ^ sh = (P : Int) ∧ P = (a * 4294967296 + x) / 2 ^ sh ∧ O < 18446744073709551616 ∧ P < 18446744073709551616 := by
  refine ⟨a * 4294967296 + x, (a * 4294967296 + x) / 2 ^ sh, or_shl a x ha hx, ?_, rfl, by omega, Nat.lt_of_le_of_lt (Nat.div_le_self _ _) (by omega)⟩
  generalize a * 4294967296 + x = O
  rw [Int.natCast_ediv, Int.natCast_pow]; rfl

set_option maxRecDepth 100000 in
set_option maxHeartbeats 4000000 in
theorem moveDown_any {w : World} {g cap sh : Nat} {l : List Nat} {post : List Value} (hb : Blk w g [] l post) (hl : l.length ≤ 100001) (hs : Sm l) (hsh : sh ≤ 31) :
    Calls Try.prog 59 #[.slice (some ⟨g, 0, none⟩) l.length cap, .int .u64 sh] w fun e w' => ∃ (r : Value) (l' : List Nat), e = .returned r ∧ Blk w' g [] l' post ∧ l'.length = l.length ∧ Sm l' ∧ val l' = val l / 2 ^ sh ∧ w.grownBy w' (some g) := by
  have hgw := hb.lt
  obtain ⟨n, hn⟩ : ∃ n, n = l.length := ⟨_, rfl⟩
  have HN := Lib.hid hn
  rw [← hn] at hl ⊢
  clear hn
  refine (callsIn_wide (n := 0)).1 ?_
  refine callsIn_of_wp_marks Try.func59 rfl trivial ?_ rfl
  simp only [Try.ntmps59, List.size_toArray, List.length_cons, List.length_nil, Nat.reduceAdd, Nat.reduceSub, Array.replicate_succ, Array.replicate_zero, List.push_toArray, List.append_toArray, List.nil_append, List.cons_append]
  refine wpIn_wide.2 ?_
  go_wp2_with (go_at_call 34; refine (back_any _ _ _ _).mono ?_; rintro e w' ⟨rfl, rfl⟩)
  refine (wpIn_wide (n := 0)).1 ?_
  refine wp_rangeAt (gf := 51) rfl (enters_of Try.func51 (by kernel_rfl) rfl)
    (back_iter n g 0 cap (w.heap.size + 1 + 1 + 1) _ (fun j => l.getD j 0) (by omega) (fun _ => rfl)) (fun _ => rfl)
    (DownInv w g post l sh (.slice (some ⟨g, 0, none⟩) n cap)) (fun _ _ => False) ?own (fun _ _ _ _ h _ _ => h) ?reads ?start ?round ?done ?stop
  case own =>
    rintro k W W' r ⟨⟨cur, a, h1, h2, h3, h4, h5, h6, h7⟩, g1, g2, g3, g4⟩ hg hr
    exact ⟨⟨cur, a, h1.keep hg hr, h2, h3, h4, h5, h6, keepBox h7 hg hr⟩, keepBox g1 hg hr, keepBox g2 hg hr, keepBox g3 hg hr, grown_keep g4 (by simp; omega) hg hr⟩
  case reads =>
    rintro k W ⟨⟨cur, a, h1, h2, h3, h4, h5, h6, h7⟩, g1, g2, g3, g4⟩
    refine ⟨g3.cell, fun hk => ?_⟩
    have hn := HN.out
    have e := h1.cell (o := 0) rfl (n - 1 - k) (by omega)
    have e2 := congrArg (fun t => t.getD (n - 1 - k) 0) h5
    simp only [List.getD_eq_getElem?_getD, List.getElem?_take] at e2
    rw [if_pos (by omega), if_pos (by omega), ← List.getD_eq_getElem?_getD, ← List.getD_eq_getElem?_getD] at e2
    rw [e2] at e
    exact e
  case start =>
    have hn := HN.out
    refine ⟨⟨l, 0, (((hb.alloc _).alloc _).alloc _).alloc _, rfl, hs, ?_, by simp, by simp [val], (boxed_new2 w _ _ _ _).alloc _⟩, (((Boxed.new w _ _).alloc _).alloc _).alloc _, ((boxed_new1 w _ _ _).alloc _).alloc _, boxed_new3 w _ _ _ _ _, ?_⟩
    · rw [Nat.sub_zero, List.getD_eq_getElem?_getD, List.getElem?_eq_none (by omega)]; rfl
    · exact grown_alloc (grown_alloc (grown_alloc (grown_alloc (grown_refl w _) _) _) _) _
  case round =>
    intro lp k W hk
    obtain ⟨j, hj⟩ : ∃ j, j = n - 1 - k := ⟨_, rfl⟩
    have hx := hs.getD j
    obtain ⟨x, hxe⟩ : ∃ x, x = l.getD j 0 := ⟨_, rfl⟩
    dsimp only
    rw [← hj, ← hxe]
    rw [← hxe] at hx
    have HX := Lib.hid hxe
    have HJ := Lib.hid hj
    have hjn : j < n := by omega
    have HS := Lib.hid hs
    clear hxe hj hb hs
    gi_wp2
    refine NextRound.mk ?_
    rintro W2 ⟨⟨cur, a, h1, h2, h3, h4, h5, h6, h7⟩, g1, g2, g3, g4⟩
    have hjc : j < cur.length := by rw [h2, ← HN.out]; exact hjn
    have ha : a < 4294967296 := by rw [h4]; exact HS.out.getD _
    obtain ⟨O, P, hor, hsh2, hP, hO1, hP1⟩ := down_or (sh := sh) ha hx
    have r1 := h1.cell (o := 0) rfl j hjc
    have r2 := h1.frozen j
    rw [Nat.zero_add] at r1
    obtain ⟨y, hy⟩ : ∃ y, y = cur.getD j 0 := ⟨_, rfl⟩
    rw [← hy] at r1
    clear hy
    have HP := Lib.hid hP
    have H2 := Lib.hid h2
    have H4 := Lib.hid h4
    have H5 := Lib.hid h5
    have H6 := Lib.hid h6
    have q1 := h7.cell
    have q2 := h7.frozen
    have q3 := g1.cell
    have q4 := g2.cell
    clear hP h2 h4 h5 h6
    gi_wp2
    have hgS : g ≠ w.heap.size + 1 + 1 := by omega
    have hn := HN.out
    have hjj : l.length - (k + 1) = j := by have := HJ.out; omega
    have hjk : l.length - k = j + 1 := by have := HJ.out; omega
    have h5 := H5.out
    have h6 := H6.out
    rw [hjk] at h5 h6
    have e4 := H4.out
    rw [hjk] at e4
    refine ⟨((KeepsOthers.setCell W2 _ _).trans (KeepsOthers.setCell _ _ _)).from _,
      ⟨cur.set j (P % 4294967296), x, ?_, ?_, h3.set _ _ (by omega), ?_, ?_, ?_, ?_⟩, ?_, ?_, ?_, ?_⟩
    · have e := (h1.set (o := 0) rfl j (P % 4294967296) hjc).box hgS (.int .u32 (x : Int))
      rw [Nat.zero_add, show ((P % 4294967296 : Nat) : Int) = (P : Int) % 4294967296 by omega] at e
      exact e
    · rw [List.length_set]; exact H2.out
    · rw [hjj]; exact HX.out
    · rw [hjj, List.take_set, List.set_eq_of_length_le (by rw [List.length_take]; omega)]
      have := congrArg (List.take j) h5
      simpa [List.take_take] using this
    · rw [hjj, HP.out]
      exact down_step (T := 2 ^ (32 - sh)) (two_pos sh) (pow32 (by omega)) HS.out (by omega) hjc h6 a x e4 HX.out
    · exact (boxed_row h7 (by omega) _).set _
    · exact (boxed_row g1 (by omega) _).other (by omega) _
    · exact (boxed_row g2 (by omega) _).other (by omega) _
    · exact (boxed_row g3 (by omega) _).other (by omega) _
    · exact grown_box (grown_setCell g4 _ _) (by omega) _
  case done =>
    rintro D W hD ⟨⟨cur, a, h1, h2, h3, h4, h5, h6, h7⟩, g1, g2, g3, g4⟩ hK
    have hn := HN.out
    rw [← hn, Nat.sub_self, List.drop_zero, List.drop_zero] at h6
    have H6 := Lib.hid h6
    have H2 := Lib.hid h2
    clear h2 h4 h5 h6 hn hb hs
    go_wp2
    refine ⟨by simp, .inl ⟨_, _, rfl, run_takeDeferred hK, ?_⟩⟩
    exact ⟨_, results_none rfl _ _ _, _, cur, rfl, h1.left _ hK rfl, by rw [H2.out, HN.out], h3, H6.out, grown_left _ g4 (by simp at hD; omega) hK rfl⟩
  case stop =>
    rintro D c W _ h _
    exact h.elim

end Go.Proofs.Ytbcipningfdgoaa
