/- Tokens: both at once; the law. -/
import Derived.Test.YtjnmajdigjifkaaGreatDoorTrC
import Derived.Test.YtjnmajdigjifkaaGreatDoorBqA
import Derived.Test.YtjnmajdigjifkaaGreatDoorTkT
import Derived.Lib.SmallJoins
import Derived.Stop.LaidErr
namespace Go.Proofs.YtjnmajdigjifkaaGreatDoor
open Go Go.Proofs Go.RowKit Go.Shelf
set_option maxRecDepth 100000
/-- the slice value v reads as these tokens -/
def TReads (W : World) (v : Value) (ts : List Tk.Tok) : Prop := ∃ a cap, v = .slice a ts.length cap ∧ (ts ≠ [] → ∃ b, a = some ⟨b, 0, none⟩ ∧ b < W.heap.size ∧ ∀ j t, ts[j]? = some t → ∀ i, i < 3 → W.cell? ⟨b, j * 3 + i, none⟩ = (tcell t)[i]?)
theorem TReads.below {W W' : World} {v : Value} {ts : List Tk.Tok} (h : TReads W v ts) (hb : Below W.heap.size W W') : TReads W' v ts := by
  obtain ⟨a, cap, e, h⟩ := h
  refine ⟨a, cap, e, fun hn => ?_⟩
  obtain ⟨b, ha, hlt, hc⟩ := h hn
  exact ⟨b, ha, Nat.lt_of_lt_of_le hlt hb.size, fun j t hj i hi => (hb.cell (p := ⟨b, j * 3 + i, none⟩) hlt).trans (hc j t hj i hi)⟩
theorem TFresh.reads {W : World} {base : Nat} {v : Value} {ts : List Tk.Tok} (h : TFresh W base v ts) : TReads W v ts := by
  rcases h.2 with ⟨rfl, e⟩ | ⟨g, cap, cur, rfl, hb, hg, hl, hc⟩
  · have : ts = [] := List.length_eq_zero_iff.1 e
    subst this
    exact ⟨none, 0, rfl, fun h => (h rfl).elim⟩
  · refine ⟨_, cap, rfl, fun _ => ⟨g, rfl, (Array.getElem?_eq_some_iff.1 hg).1, fun j t hj i hi => ?_⟩⟩
    have hjl := (List.getElem?_eq_some_iff.1 hj).1
    have := World.ownsRow.cellAt h (j * 3 + i) (by omega)
    rw [this, tcells_at ts j t hj i hi]
theorem TReads.nil (W : World) : TReads W (.slice none 0 0) [] := ⟨none, 0, rfl, fun h => (h rfl).elim⟩

set_option maxHeartbeats 4000000 in
theorem same_yes {W : World} {u v : Value} {ts : List Tk.Tok} (hu : TReads W u ts) (hv : TReads W v ts) (hl : ts.length ≤ 1000000) :
    Calls Tryz.prog 6 #[u, v] W fun e w' => e = .returned (.bool true) ∧ ∃ n, w' = W.drewN n := by
  obtain ⟨a, c, rfl, ha⟩ := hu
  obtain ⟨b, d, rfl, hb⟩ := hv
  obtain ⟨N, hN⟩ : ∃ N, N = ts.length := ⟨_, rfl⟩
  have HN := Lib.hid hN
  have HA := Lib.hid ha
  have HB := Lib.hid hb
  rw [← hN] at hl ⊢
  clear hN ha hb
  go_enter Tryz.func6, Tryz.ntmps6
  go_wp2
  go_loopg [5] N (fun g i wx => ∃ k : Nat, k + g = N ∧ i = .int .i64 (k : Int) ∧ ∃ n, wx = W.drewN n)
  case atStart => exact ⟨0, by omega, rfl, 0, rfl⟩
  case round =>
    obtain ⟨k, hkg, rfl, nd, rfl⟩ := hrel
    by_cases hlk : k < N
    · have hne : ts ≠ [] := by rintro rfl; rw [HN.out] at hlk; simp at hlk
      obtain ⟨ba, rfl, hba, hca⟩ := HA.out hne
      obtain ⟨bb, rfl, hbb, hcb⟩ := HB.out hne
      obtain ⟨t, ht⟩ : ∃ t, ts[k]? = some t := ⟨_, List.getElem?_eq_getElem (by rw [← HN.out]; exact hlk)⟩
      have a0 := hca k t ht 0 (by omega)
      have a1 := hca k t ht 1 (by omega)
      have a2 := hca k t ht 2 (by omega)
      have b0 := hcb k t ht 0 (by omega)
      have b1 := hcb k t ht 1 (by omega)
      have b2 := hcb k t ht 2 (by omega)
      simp only [tcell, List.getElem?_cons_zero, List.getElem?_cons_succ, Nat.add_zero] at a0 a1 a2 b0 b1 b2
      clear hca hcb hne ht
      have q0 : (0 : Int) ≤ (k : Int) := by omega
      have q1 : (k : Int) < (N : Int) := by omega
      go_wp2
      go_quiet (fail)
      go_wp2
      go_roundg (N - (k + 1))
      case measure => omega
      case rel => exact ⟨k + 1, by omega, by first | rfl | simp, nd + nq, by first | rfl | exact World.drewN_drewN _ _ _⟩
    · go_wp2
      go_ret
      exact ⟨rfl, nd, rfl⟩

theorem hasTab_of_met {W : World} (h : laidMet Tryz.prog [("assayer/tokens.allSigns", Rows.laid_assayer_tokens_allSigns)] W) : HasTab W := by
  obtain ⟨ps, ⟨g', t', cs, fuel, p, q, hg', ht', hvar, hd, _, _⟩, _⟩ := h
  obtain rfl : 0 = g' := Option.some.inj ((show Tryz.prog.globalNamed "assayer/tokens.allSigns" = some 0 by kernel_rfl).symm.trans hg')
  obtain rfl : 138 = t' := Option.some.inj ((show (Tryz.prog.globals[0]?).map (·.type) = some 138 by kernel_rfl).symm.trans ht')
  have hcs := cells_of_strs (ss := [[60, 61], [62, 61], [43], [45], [42], [47], [44], [58], [59], [61], [40], [41], [91], [93]]) Tryz.underlying138 Tryz.underlying9 (by kernel_rfl) (by kernel_rfl) hd
  have hcs2 : cs = tab := by
    apply Array.toList_inj.1
    rw [hcs]; rfl
  subst hcs2
  unfold World.var? at hvar
  rw [hg'] at hvar
  simp only [Option.bind_some] at hvar
  split at hvar
  · rename_i c t fr hh
    cases hvar
    exact ⟨t, fr, hh⟩
  · cases hvar

theorem hasTab_of_laid4 {W : World} (h : laidMetH Tryz.prog [("math/bits.deBruijn32tab", Rows.laid_math_bits_deBruijn32tab), ("math/bits.deBruijn64tab", Rows.laid_math_bits_deBruijn64tab), ("internal/strconv.uint64pow10", Rows.laid_internal_strconv_uint64pow10), ("assayer/tokens.allSigns", Rows.laid_assayer_tokens_allSigns)] W) : HasTab W := by
  rw [MakeChecks.laidMetH_plain _ _ _ (by kernel_rfl)] at h
  exact hasTab_of_met (laidMet.tail (laidMet.tail (laidMet.tail h)))
/-- what both answer of one text -/
def RA (w : World) (ts : List Tk.Tok) (n e : Int) (en : Ending) (w' : World) : Prop := ∃ v, en = .returned (.tuple #[v, .int .i64 n, .int .i64 e]) ∧ TFresh w' w.heap.size v ts ∧ Below w.heap.size w w'
theorem read_long {s : ByteArray} {w : World} (hs : 65536 < s.size) : Calls Tryz.prog 4 #[.string s] w (RA w [] 0 3) := by
  obtain ⟨n, hn⟩ : ∃ n, n = s.size := ⟨_, rfl⟩
  have es : (s.size : Int) = (n : Int) := by omega
  have i9 : (65536 : Int) < (n : Int) := by omega
  clear hs hn
  go_enter Tryz.func4, Tryz.ntmps4
  go_wp2
  go_step3
  go_wp2
  go_ret3
  exact ⟨_, rfl, TFresh.nil _ _, Below.refl _ _⟩
theorem rread_long {s : ByteArray} {w : World} (hs : 65536 < s.size) : Calls Tryz.prog 5 #[.string s] w (RA w [] 0 3) := by
  obtain ⟨n, hn⟩ : ∃ n, n = s.size := ⟨_, rfl⟩
  have es : (s.size : Int) = (n : Int) := by omega
  have i9 : (65536 : Int) < (n : Int) := by omega
  clear hs hn
  go_enter Tryz.func5, Tryz.ntmps5
  go_wp2
  go_ret3
  exact ⟨_, rfl, TFresh.nil _ _, Below.refl _ _⟩
theorem both (s : ByteArray) : ∃ (ts : List Tk.Tok) (n e : Int), ts.length ≤ 65536 ∧ (∀ W, HasTab W → Calls Tryz.prog 4 #[.string s] W (RA W ts n e)) ∧ ∀ W, Calls Tryz.prog 5 #[.string s] W (RA W ts n e) := by
  by_cases hs : s.size ≤ 65536
  · obtain ⟨ts, x, h⟩ := Tk.Rd.total s.data.toList.length s.data.toList 0 (Nat.le_refl _)
    cases x with
    | none => exact ⟨ts, 0, 0, by have := Rd.few h; rw [← size_list] at this; omega, fun W hW => (read_any hs hW h).mono fun _ _ q => q, fun W => (rread_any hs h).mono fun _ _ q => q⟩
    | some k => exact ⟨[], (k : Int), 4, by simp, fun W hW => (read_any hs hW h).mono fun _ _ q => ⟨_, q.1, TFresh.nil _ _, q.2⟩, fun W => (rread_any hs h).mono fun _ _ q => ⟨_, q.1, TFresh.nil _ _, q.2⟩⟩
  · exact ⟨[], 0, 3, by simp, fun W _ => read_long (by omega), fun W => rread_long (by omega)⟩
theorem bk_tok {W : World} {B n : Nat} {f : Nat → Value} {es : List (Value × Nat)} {a : Option Addr} {l c : Nat} (h : QBook W B n f) (hr : QRow 57 W (B + 1) (f 6) es) (hn : n ≤ 100000) (hl : es.length ≤ 100000) :
    Calls Tryz.prog 7 #[.pointer (some ⟨B, 0, none⟩), .slice a l c] W fun e w' => e = .returned (.tuple #[]) ∧ ∃ hv', QBook w' B (n + 1) (upd f 6 hv') ∧ QRow 57 w' (B + 1) hv' (es ++ [(.slice a l c, n + 1)]) ∧ Below B W w' := by
  have k := keepT_any (a := a) (l := l) (c := c) h hr hn hl
  clear h hr
  go_enter Tryz.func7, Tryz.ntmps7
  go_wp2_with (go_at_call 14; refine k.mono ?_; clear k; rintro e w' ⟨rfl, q⟩)
  go_end0
  exact ⟨rfl, q⟩
set_option maxHeartbeats 4000000 in
theorem reads_all (s : ByteArray) (w : World) (hT : HasTab w) : Calls Tryz.prog 3 #[.string s] w fun e w' => e = .returned (.bool true) ∧ Below w.heap.size w w' := by
  obtain ⟨n, hn⟩ : ∃ n, n = s.size := ⟨_, rfl⟩
  have es : (s.size : Int) = (n : Int) := by omega
  by_cases hs : n ≤ 100000
  · obtain ⟨ts, nn, ee, hl, KR, KD⟩ := both s
    have hltT := hT.lt
    have KR1 := Lib.hid (fun W (h : Below w.heap.size w W) => KR W (hT.below h hltT))
    have KD1 := Lib.hid KD
    have HL := Lib.hid hl
    have i9 : ¬ (100000 : Int) < (n : Int) := by omega
    clear hs hl KR KD hT hn hltT
    go_enter Tryz.func3, Tryz.ntmps3
    go_wp2_with fail
    go_at_call 4
    refine (KR1.out _ (Below.refl _ _)).mono ?_
    rintro e w1 ⟨v1, rfl, t1, b1⟩
    obtain ⟨a1, c1, e1⟩ : ∃ a c, v1 = .slice a ts.length c := by obtain ⟨a, c, h, -⟩ := t1.reads; exact ⟨a, c, h⟩
    subst e1
    have T1 := Lib.hid t1
    have B1 := Lib.hid b1
    clear t1 b1
    go_wp2_with fail
    go_at_call 4
    refine (KR1.out _ B1.out).mono ?_
    rintro e w2 ⟨v2, rfl, t2, b2⟩
    obtain ⟨a2, c2, e2⟩ : ∃ a c, v2 = .slice a ts.length c := by obtain ⟨a, c, h, -⟩ := t2.reads; exact ⟨a, c, h⟩
    subst e2
    have T2 := Lib.hid t2
    have B2 := Lib.hid b2
    clear t2 b2
    go_wp2_with fail
    go_at_call 5
    refine (KD1.out _).mono ?_
    rintro e w3 ⟨v3, rfl, t3, b3⟩
    obtain ⟨a3, c3, e3⟩ : ∃ a c, v3 = .slice a ts.length c := by obtain ⟨a, c, h, -⟩ := t3.reads; exact ⟨a, c, h⟩
    subst e3
    have T3 := Lib.hid t3
    have B3 := Lib.hid b3
    clear t3 b3
    have Q3 := Lib.hid (B2.out.trans (B3.out.mono B2.out.size))
    have P3 := Lib.hid (B1.out.trans (Q3.out.mono B1.out.size))
    clear KR1 KD1
    go_wp2_with fail
    go_at_call 6
    refine (same_yes (T1.out.below Q3.out).reads T3.out.reads (by have := HL.out; omega)).mono ?_
    rintro e w4 ⟨rfl, d4, q4⟩
    have B4 := Lib.hid (show ∀ (m : Nat) (W : World), Below m W w3 → Below m W w4 from fun m W h => by rw [q4]; exact rbelow_drew h d4)
    clear q4
    go_wp2_with fail
    go_at_call 6
    refine (same_yes (T2.out.below (B4.out _ _ B3.out)).reads (T3.out.below (B4.out _ _ (Below.refl _ _))).reads (by have := HL.out; omega)).mono ?_
    rintro e w5 ⟨rfl, d5, q5⟩
    have B5 := Lib.hid (show ∀ (m : Nat) (W : World), Below m W w4 → Below m W w5 from fun m W h => by rw [q5]; exact rbelow_drew h d5)
    clear q5
    have P5 := Lib.hid (B5.out _ _ (B4.out _ _ P3.out))
    have Q5 := Lib.hid (B5.out _ _ (B4.out _ _ Q3.out))
    have R5 := Lib.hid (B5.out _ _ (B4.out _ _ B3.out))
    clear B4 B5 Q3 P3
    go_wp2_with fail
    obtain ⟨B, hB⟩ : ∃ B, B = w5.heap.size := ⟨_, rfl⟩
    obtain ⟨wb, hwb⟩ : ∃ wb, wb = w5.alloc (.cells #[.int .i64 0, .slice none 0 0, .slice none 0 0, .slice none 0 0, .slice none 0 0, .slice none 0 0, .slice none 0 0, .slice none 0 0, .slice none 0 0, .slice none 0 0, .slice none 0 0, .slice none 0 0, .slice none 0 0] 40) := ⟨_, rfl⟩
    have hB0 := Lib.hid (show QBook wb B 0 none12 by rw [hwb, hB]; exact QBook.new _)
    have hr0 := Lib.hid (show QRow 57 wb (B + 1) (none12 6) [] from World.ownsRow_nil wb (B + 1) _ 3)
    have q0 := Lib.hid (show Below B w5 wb by rw [hwb]; exact (Below.refl B _).alloc (Nat.le_of_eq hB) _)
    rw [← hB, ← hwb]
    have HB := Lib.hid hB
    clear hB hwb
    go_wp2_with fail
    go_at_call 7
    refine (bk_tok hB0.out hr0.out (by omega) (by simp)).mono ?_
    rintro e u1 ⟨rfl, hv1, t1, t2, t3⟩
    have hB1 := Lib.hid t1
    have hr1 := Lib.hid t2
    replace q0 := Lib.hid (q0.out.trans t3)
    clear t1 t2 t3 hB0 hr0
    go_wp2_with fail
    go_at_call 7
    refine (bk_tok hB1.out hr1.out (by omega) (by simp)).mono ?_
    rintro e u2 ⟨rfl, hv2, t1, t2, t3⟩
    have hB2 := Lib.hid t1
    have hr2 := Lib.hid t2
    replace q0 := Lib.hid (q0.out.trans t3)
    clear t1 t2 t3 hB1 hr1
    go_wp2_with fail
    go_at_call 8
    have hbz : w.heap.size ≤ B := by rw [HB.out]; exact P5.out.size
    have x1 : w1.heap.size ≤ B := by rw [HB.out]; exact Q5.out.size
    have x2 : w2.heap.size ≤ B := by rw [HB.out]; exact R5.out.size
    have y1 := T1.out.below (Q5.out.trans (q0.out.mono x1))
    have y2 := (T2.out.below (R5.out.trans (q0.out.mono x2)))
    have z1 : ∀ g, (Value.slice a1 ts.length c1).ownBlock = some g → g < w1.heap.size := fun g e => (World.ownsRow.lt T1.out g e).2
    have z2 : ∀ g, (Value.slice a2 ts.length c2).ownBlock = some g → w1.heap.size ≤ g ∧ g < w2.heap.size := fun g e => World.ownsRow.lt T2.out g e
    have ow : ∀ e ∈ [((Value.slice a1 ts.length c1), 1), ((Value.slice a2 ts.length c2), 2)], ∃ (m : Nat) (xs : List Value), m ≤ 100000 ∧ u2.ownsRow w.heap.size 51 3 e.1 m xs ∧ ∀ g, e.1.ownBlock = some g → g < B := by
      intro e he
      simp only [List.mem_cons, List.not_mem_nil, or_false] at he
      rcases he with rfl | rfl
      · exact ⟨ts.length, tcells ts, by have := HL.out; omega, y1, fun g e => Nat.lt_of_lt_of_le (z1 g e) x1⟩
      · exact ⟨ts.length, tcells ts, by have := HL.out; omega, y2.mono B1.out.size, fun g e => Nat.lt_of_lt_of_le (z2 g e).2 x2⟩
    have ds : List.Pairwise (fun x y : Value × Nat => x.1.ownBlock = none ∨ x.1.ownBlock ≠ y.1.ownBlock) [((Value.slice a1 ts.length c1), 1), ((Value.slice a2 ts.length c2), 2)] := by
      simp only [List.pairwise_cons, List.mem_cons, List.not_mem_nil, or_false, forall_eq, List.Pairwise.nil, and_true, false_imp_iff, implies_true]
      cases h : (Value.slice a1 ts.length c1).ownBlock with
      | none => exact .inl rfl
      | some g =>
        refine .inr fun e => ?_
        have := z1 g h
        have := (z2 g e.symm).1
        omega
    have hr : QRow 57 u2 (B + 1) (upd (upd none12 6 hv1) 6 hv2 6) [((Value.slice a1 ts.length c1), 1), ((Value.slice a2 ts.length c2), 2)] := hr2.out
    refine (apartT_any (w := w) (base := w.heap.size) hB2.out hr (fun o ho => by simp [upd, ho, none12]) (by simp) (by simp) hbz (P5.out.trans (q0.out.mono hbz)) (by simp) ow ds).mono ?_
    rintro e w' ⟨rfl, rb⟩
    have RBW := Lib.hid rb
    clear rb ow ds hr y1 y2 z1 z2 hbz x1 x2
    go_wp2_with fail
    go_ret
    exact ⟨rfl, RBW.out⟩
  · have i9 : (100000 : Int) < (n : Int) := by omega
    clear hn hs
    go_enter Tryz.func3, Tryz.ntmps3
    go_wp2
    go_ret
    exact ⟨rfl, Below.refl _ _⟩
end Go.Proofs.YtjnmajdigjifkaaGreatDoor
