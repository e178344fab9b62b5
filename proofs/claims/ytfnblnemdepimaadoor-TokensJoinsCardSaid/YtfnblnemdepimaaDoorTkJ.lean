/- TokensJoins: the walk. -/
import Derived.Test.YtfnblnemdepimaaDoorTkM
import Derived.Laws.Concat
import Derived.Laws.AppendOwnNone
import Derived.Deep.WholeRow
namespace Go.Proofs.YtfnblnemdepimaaDoor
open Go Go.Proofs Go.RowKit Go.Shelf
set_option linter.unusedVariables false
set_option linter.unusedSimpArgs false

set_option maxRecDepth 100000 in
set_option maxHeartbeats 4000000 in
theorem joins_far {s t : ByteArray} {w : World} (hT : HasTab w) (hs : 20000 < s.size ∨ (s.size ≤ 20000 ∧ 20000 < t.size)) :
    Calls Tryd.prog 5 #[.string s, .string t] w fun e w' => e = .returned (.bool true) ∧ Below w.heap.size w w' := by
  have hlt := hT.lt
  have HT := Lib.hid hT
  clear hT
  rcases hs with h | ⟨h, h'⟩
  · have d1 : decide ((20000 : Int) < (s.size : Int)) = true := by simp; omega
    go_enter Tryd.func5, Tryd.ntmps5
    go_wp2_with fail
    refine (alive_any HT.out).mono ?_
    rintro e w1 ⟨rfl, b1⟩
    have B1 := Lib.hid b1
    clear b1
    go_wp2_with fail
    refine (alive_any (HT.out.below B1.out hlt)).mono ?_
    rintro e w2 ⟨rfl, b2⟩
    have B2 := Lib.hid (then_below B1.out b2)
    clear b2
    go_wp2_with fail
    go_ret
    exact ⟨rfl, B2.out⟩
  · have d1 : decide ((20000 : Int) < (s.size : Int)) = false := by simp; omega
    have d2 : decide ((20000 : Int) < (t.size : Int)) = true := by simp; omega
    go_enter Tryd.func5, Tryd.ntmps5
    go_wp2_with fail
    refine (alive_any HT.out).mono ?_
    rintro e w1 ⟨rfl, b1⟩
    have B1 := Lib.hid b1
    clear b1
    go_wp2_with fail
    refine (alive_any (HT.out.below B1.out hlt)).mono ?_
    rintro e w2 ⟨rfl, b2⟩
    have B2 := Lib.hid (then_below B1.out b2)
    clear b2
    go_wp2_with fail
    go_ret
    exact ⟨rfl, B2.out⟩

theorem TFresh.far {W : World} {base B : Nat} {v : Value} {l : List Tk.Tok} (h : TFresh W base v l) (hne : v.ownBlock ≠ some B) (o : Nat) (u : Value) : TFresh (W.setCell ⟨B, o, none⟩ u) base v l := by
  refine ⟨h.1, ?_⟩
  rcases h.2 with h | ⟨g, cap, cur, e, hb, hg, hr⟩
  · exact .inl h
  · refine .inr ⟨g, cap, cur, e, hb, ?_, hr⟩
    have hgB : g ≠ B := by rintro rfl; exact hne (by rw [e]; rfl)
    exact (Below.heap_setCell W ⟨B, o, none⟩ u g hgB).trans hg
theorem mv_snoc {bs : List Tk.Tok} {k n : Nat} {b : Tk.Tok} (h : bs[k]? = some b) : Tk.mv n (bs.take (k + 1)) = Tk.mv n (bs.take k) ++ [⟨b.kind, b.text, n + b.pos⟩] := by
  rw [List.take_add_one, h]
  simp [Tk.mv]
/-- what holds between two tokens of the second text -/
structure JW (w4 : World) (v : Value) (us bs : List Tk.Tok) (n k : Nat) (W : World) : Prop where
  bel : Below w4.heap.size w4 W
  own : TFresh W w4.heap.size v (us ++ Tk.mv n (bs.take k))
theorem JW.start {w4 w5 : World} {v : Value} {us bs : List Tk.Tok} {n A : Nat} (hA : A = us.length) (ho : w5.ownsRow w4.heap.size 28 3 v A (tcells us)) (hg : w4.grownBy w5 none) : JW w4 v us bs n 0 w5 := by
  refine ⟨(Below.refl _ _).grown hg (Nat.le_refl _) (fun k e => by cases e), ?_⟩
  unfold TFresh
  rw [← hA.symm] at ho
  simpa [Tk.mv] using ho
theorem JW.next {w4 W w5 : World} {v v' : Value} {us bs : List Tk.Tok} {n k : Nat} {t0 : Tk.Tok} {o1 o2 : Obj} {c : List Value} (h : JW w4 v us bs n k W) (hb : bs[k]? = some t0)
    (ho : w5.ownsRow w4.heap.size 28 3 v' ((us ++ Tk.mv n (bs.take k)).length + 1) (tcells (us ++ Tk.mv n (bs.take k)) ++ c)) (hc : c = tcell ⟨t0.kind, t0.text, n + t0.pos⟩) (hg : ((W.alloc o1).alloc o2).grownBy w5 v.ownBlock) : JW w4 v' us bs n (k + 1) w5 := by
  have hs := h.bel.size
  refine ⟨((h.bel.alloc hs o1).alloc (by simp; omega) o2).grown hg (by simp; omega) (fun g e => h.own.base_le e), ?_⟩
  unfold TFresh
  rw [mv_snoc hb, ← List.append_assoc, tcells_snoc, List.length_append (bs := [_]), ← hc]
  exact ho
set_option maxRecDepth 100000 in
set_option maxHeartbeats 8000000 in
theorem joins_near {s t : ByteArray} {w : World} (hT : HasTab w) (hs : s.size ≤ 20000) (ht : t.size ≤ 20000) :
    Calls Tryd.prog 5 #[.string s, .string t] w fun e w' => e = .returned (.bool true) ∧ Below w.heap.size w w' := by
  have hlt := hT.lt
  have HT := Lib.hid hT
  have d1 : decide ((20000 : Int) < (s.size : Int)) = false := by simp; omega
  have d2 : decide ((20000 : Int) < (t.size : Int)) = false := by simp; omega
  obtain ⟨us, x, hA⟩ := Tk.Rd.total _ s.data.toList 0 (Nat.le_refl _)
  obtain ⟨bs, y, hB⟩ := Tk.Rd.total _ t.data.toList 0 (Nat.le_refl _)
  obtain ⟨nl, hnl⟩ : ∃ nl : ByteArray, nl = ⟨#[10]⟩ := ⟨_, rfl⟩
  obtain ⟨sn, hsn⟩ : ∃ sn, sn = s ++ nl := ⟨_, rfl⟩
  obtain ⟨st, hst⟩ : ∃ st, st = sn ++ t := ⟨_, rfl⟩
  have a1 : ∀ W, (Op.stringOp .add s ⟨#[10]⟩).run Tryd.prog W = .ok (.string sn) W := fun W => by rw [hsn, hnl]; exact run_string_add_sum W _ _ (by show s.size + 1 ≤ _; omega)
  have hz1 : sn.size = s.size + 1 := by rw [hsn, hnl, ByteArray.size_append]; rfl
  have a2 : ∀ W, (Op.stringOp .add sn t).run Tryd.prog W = .ok (.string st) W := fun W => by rw [hst]; exact run_string_add_sum W _ _ (by omega)
  have hz2 : st.size ≤ 40001 := by rw [hst, ByteArray.size_append]; omega
  have hl : st.data.toList = s.data.toList ++ (10 :: t.data.toList) := by rw [hst, hsn, hnl, ByteArray.data_append, ByteArray.data_append, Array.toList_append, Array.toList_append]; simp
  have hj := hA.join (m := 10 :: t.data.toList) rfl rfl
  have HA := Lib.hid hA
  have HB := Lib.hid hB
  rw [← hl] at hj
  have hm : Tk.Rd (10 :: t.data.toList) (0 + s.data.toList.length) (Tk.mv (s.size + 1) bs) (y.map (s.size + 1 + ·)) := Tk.Rd.blank (by rfl) (by
    have := hB.shift (s.size + 1)
    rw [Nat.add_zero] at this
    rw [Nat.zero_add, ← size_list]
    exact this)
  clear hA hB hl hst hsn hz1 hnl
  cases x with
  | some p =>
    have HJ := Lib.hid (hj.1 p rfl)
    clear hj hm
    go_enter Tryd.func5, Tryd.ntmps5
    go_wp2_with fail
    refine (alive_any HT.out).mono ?_
    rintro e w1 ⟨rfl, b1⟩
    have B1 := Lib.hid b1
    clear b1
    go_wp2_with fail
    refine (read_any (by omega) (HT.out.below B1.out hlt) HA.out).mono ?_
    rintro e w2 ⟨rfl, b2⟩
    have B2 := Lib.hid (then_below B1.out b2)
    clear b2
    go_wp2_with fail
    refine (read_any (by omega) (HT.out.below B2.out hlt) HB.out).mono ?_
    intro e w3 h3
    obtain ⟨v1, v2, v3, rfl, b3⟩ : ∃ v1 v2 v3, e = .returned (.tuple #[v1, v2, v3]) ∧ Below w2.heap.size w2 w3 := by
      cases y with
      | none => obtain ⟨v, rfl, _, b⟩ := h3; exact ⟨_, _, _, rfl, b⟩
      | some q => obtain ⟨rfl, b⟩ := h3; exact ⟨_, _, _, rfl, b⟩
    have B3 := Lib.hid (then_below B2.out b3)
    clear b3 h3
    go_wp2_with fail
    refine (read_any (by omega) (HT.out.below B3.out hlt) HJ.out).mono ?_
    rintro e w4 ⟨rfl, b4⟩
    have B4 := Lib.hid (then_below B3.out b4)
    clear b4
    go_wp2_with fail
    go_ret
    exact ⟨ret_bool (by first | rfl | simp), B4.out⟩
  | none =>
    have HJ := Lib.hid (hj.2 rfl _ _ hm)
    clear hj hm
    cases y with
    | some q =>
      have hq := (HB.out.err q rfl).2
      rw [Nat.zero_add, ← size_list] at hq
      have HJ2 : Hid (Tk.Rd st.data.toList 0 (us ++ Tk.mv (s.size + 1) bs) (some (s.size + 1 + q))) := HJ
      clear HJ
      go_enter Tryd.func5, Tryd.ntmps5
      go_wp2_with fail
      refine (alive_any HT.out).mono ?_
      rintro e w1 ⟨rfl, b1⟩
      have B1 := Lib.hid b1
      clear b1
      go_wp2_with fail
      refine (read_any (by omega) (HT.out.below B1.out hlt) HA.out).mono ?_
      rintro e w2 ⟨v, rfl, _, b2⟩
      have B2 := Lib.hid (then_below B1.out b2)
      clear b2
      go_wp2_with fail
      refine (read_any (by omega) (HT.out.below B2.out hlt) HB.out).mono ?_
      rintro e w3 ⟨rfl, b3⟩
      have B3 := Lib.hid (then_below B2.out b3)
      clear b3
      go_wp2_with fail
      refine (read_any (by omega) (HT.out.below B3.out hlt) HJ2.out).mono ?_
      rintro e w4 ⟨rfl, b4⟩
      have B4 := Lib.hid (then_below B3.out b4)
      clear b4
      go_wp2_with fail
      go_ret
      exact ⟨ret_bool (by first | rfl | (simp; omega) | simp), B4.out⟩
    | none =>
      have HJ2 : Hid (Tk.Rd st.data.toList 0 (us ++ Tk.mv (s.size + 1) bs) none) := HJ
      clear HJ
      obtain ⟨N, hN⟩ : ∃ N, N = bs.length := ⟨_, rfl⟩
      obtain ⟨A, hAl⟩ : ∃ A, A = us.length := ⟨_, rfl⟩
      have hNs : N ≤ t.size := by rw [hN, size_list]; exact HB.out.len
      have hUs : A ≤ s.size := by rw [hAl, size_list]; exact HA.out.len
      have HN := Lib.hid hN
      have HAL := Lib.hid hAl
      clear hN hAl
      obtain ⟨i0, hi0, hz0', hz1', hz2'⟩ := info_parts info_tok
      go_enter Tryd.func5, Tryd.ntmps5
      go_wp2_with fail
      refine (alive_any HT.out).mono ?_
      rintro e w1 ⟨rfl, b1⟩
      have B1 := Lib.hid b1
      clear b1
      go_wp2_with fail
      refine (read_any (by omega) (HT.out.below B1.out hlt) HA.out).mono ?_
      rintro e w2 ⟨va, rfl, g2, b2⟩
      have B2 := Lib.hid (then_below B1.out b2)
      have GA2 := Lib.hid g2
      clear b2 g2
      go_wp2_with fail
      refine (read_any (by omega) (HT.out.below B2.out hlt) HB.out).mono ?_
      rintro e w3 ⟨vb, rfl, g3, b3⟩
      have B3 := Lib.hid (then_below B2.out b3)
      have GA3 := Lib.hid (GA2.out.below b3)
      have GB3 := Lib.hid g3.reads
      clear b3 g3 GA2
      go_wp2_with fail
      refine (read_any (by omega) (HT.out.below B3.out hlt) HJ2.out).mono ?_
      rintro e w4 ⟨vc, rfl, g4, b4⟩
      have B4 := Lib.hid (then_below B3.out b4)
      have GA4 := Lib.hid (GA3.out.below b4)
      have GB4 := Lib.hid (GB3.out.below b4)
      have GC4 := Lib.hid g4.reads
      clear b4 g4 GA3 GB3
      have hl4 : 0 < w4.heap.size := by have := (HT.out.below B4.out hlt).lt; omega
      rcases GA4.out.2 with ⟨rfl, hA0⟩ | ⟨ga, capa, cur, rfl, hga, hgb, hca, _⟩
      · have HJW : Hid (JW w4 (.slice none 0 0) us bs (s.size + 1) 0 w4) := Lib.hid ⟨Below.refl _ _, by
          have : us = [] := List.length_eq_zero_iff.1 hA0
          rw [this]
          simpa [Tk.mv] using TFresh.nil w4 w4.heap.size⟩
        clear hA0
        obtain ⟨ab, capb, rfl, hcb⟩ := GB4.out
        try rw [← HN.out]
        have HCB := Lib.hid hcb
        clear hcb
        go_wp2_with (refine wpList_append_own_none rfl (.tmp 83) (.tmp 84) 23 rfl w4.heap.size 28 i0 3 Tryd.underlying23 hi0 (.slice none 0 0) 0 [] rfl (World.ownsRow_nil _ _ _ 3) rfl ?_)
        go_loopg [14, 15] N (fun g va i wx => ∃ k : Nat, k + g = N ∧ i = .int .i64 (k : Int) ∧ JW w4 va us bs (s.size + 1) k wx)
        case atStart => exact ⟨0, by omega, rfl, HJW.out⟩
        case round =>
          obtain ⟨k, hkg, rfl, hJ⟩ := hrel
          have HJk := Lib.hid hJ
          clear hJ
          by_cases hk : k < N
          · have hne : bs ≠ [] := by intro e; have := HN.out; rw [e] at this; simp at this; omega
            obtain ⟨bb, rfl, hbb, hcc⟩ := HCB.out hne
            obtain ⟨t0, ht0⟩ : ∃ t0, bs[k]? = some t0 := ⟨_, List.getElem?_eq_getElem (by rw [← HN.out]; exact hk)⟩
            have hpos := (HB.out.ahead k t0 ht0).2.1
            rw [Nat.zero_add, ← size_list] at hpos
            have c0 := (HJk.out.bel.cell (p := ⟨bb, k * 3 + 0, none⟩) hbb).trans (hcc k t0 ht0 0 (by omega))
            have c1 := (HJk.out.bel.cell (p := ⟨bb, k * 3 + 1, none⟩) hbb).trans (hcc k t0 ht0 1 (by omega))
            have c2 := (HJk.out.bel.cell (p := ⟨bb, k * 3 + 2, none⟩) hbb).trans (hcc k t0 ht0 2 (by omega))
            simp only [tcell, List.getElem?_cons_zero, List.getElem?_cons_succ, Nat.add_zero] at c0 c1 c2
            have HT0 := Lib.hid ht0
            obtain ⟨tx, htx⟩ : ∃ tx : ByteArray, tx = ⟨t0.text.toArray⟩ := ⟨_, rfl⟩
            obtain ⟨kd, hkd⟩ : ∃ kd, kd = t0.kind := ⟨_, rfl⟩
            obtain ⟨ps, hps⟩ : ∃ ps, ps = t0.pos := ⟨_, rfl⟩
            rw [← htx] at c1
            rw [← hkd] at c0
            rw [← hps] at c2 hpos
            have HTX := Lib.hid htx
            have HKD := Lib.hid hkd
            have HPS := Lib.hid hps
            clear hcc hne ht0 htx hkd hps
            have q0 : (0 : Int) ≤ (k : Int) := by omega
            have q1 : (k : Int) < (N : Int) := by omega
            have hlx : (us ++ Tk.mv (s.size + 1) (bs.take k)).length ≤ 40000 := by
              rw [List.length_append, Tk.mv, List.length_map, List.length_take, ← HAL.out]; omega
            have hm1 : (us ++ Tk.mv (s.size + 1) (bs.take k)).length + 1 ≤ maxLen := by unfold maxLen; omega
            have hm2 : ((us ++ Tk.mv (s.size + 1) (bs.take k)).length + 1) * 32 ≤ 140737488355328 := by omega
            have hw4 := HJk.out.bel.size
            clear hlx
            go_wp2_with (first
              | (refine wpList_store_row rfl 28 (.tmp 16) (.tmp 95) rfl wr.heap.size #[.int .u8 (kd : Int), .string tx, .int .i64 (ps : Int)] rfl rfl 28 _ (heap_alloc_last wr _) (by kernel_rfl) rfl (by rfl) ?_; rw [World.setRow_alloc_new]; simp only [Act.put])
              | (at_builtin; refine wpList_append_own _ rfl (.tmp 103) (.tmp 105) 23 rfl w4.heap.size 28 i0 _ 3 32 Tryd.underlying23 hi0 hz0' hz1' hz2' rfl (by omega) _ _ _ rfl (World.ownsRow.alloc (World.ownsRow.alloc HJk.out.own _) _) ⟨wr.heap.size + 1, 0, none⟩ 1 1 [.int .u8 (kd : Int), .string tx, .int .i64 ((s.size : Int) + 1 + (ps : Int))] rfl (by rfl) (World.news_of_block (cs := #[.int .u8 (kd : Int), .string tx, .int .i64 ((s.size : Int) + 1 + (ps : Int))]) (t := 28) (fr := (0, 0)) (by have := heap_alloc2_new wr (.cells #[.int .u8 (kd : Int), .string tx, .int .i64 ((s.size : Int) + 1 + (ps : Int))] 28) (.cells #[.int .u8 (kd : Int), .string tx, .int .i64 ((s.size : Int) + 1 + (ps : Int))] 28); exact this)) (by simp [Value.oneCell']) hm1 hm2 (by simp; omega) ?_; intro v' w5 hown1 hgrow hiff; have hnx := HJk.out.next HT0.out hown1 (by rw [HTX.out, HKD.out, HPS.out]; simp [tcell]) hgrow; have HNX := Lib.hid hnx; clear hnx hown1 hgrow hiff))
            go_roundg (N - (k + 1))
            case measure => omega
            case rel => exact ⟨k + 1, by omega, by first | rfl | simp, HNX.out⟩
          · have hkN : k = N := by omega
            have hJ := HJk.out
            have hsame : us ++ Tk.mv (s.size + 1) bs = us ++ Tk.mv (s.size + 1) (bs.take k) := by rw [List.take_of_length_le (by rw [← HN.out]; omega)]
            have hlx : (us ++ Tk.mv (s.size + 1) bs).length ≤ 1000000 := by
              rw [List.length_append, Tk.mv, List.length_map, ← HAL.out, ← HN.out]; omega
            have ks := same_yes (GC4.out.below hJ.bel) (by rw [hsame]; exact hJ.own.reads) hlx
            have HBW := Lib.hid (then_below B4.out hJ.bel)
            clear hJ hsame hlx
            go_wp2_with (go_at_call 11; refine ks.mono ?_; clear ks; rintro e w6 ⟨rfl, nq, rfl⟩)
            go_ret
            exact ⟨rfl, below_drewN HBW.out nq⟩
      · have hcell : ∀ j u, (tcells us)[j]? = some u → w4.cell? ((⟨ga, 0, none⟩ : Addr).add j) = some u := fun j u hu => by
          have hjl := (List.getElem?_eq_some_iff.1 hu).1
          rw [tcells_len] at hjl
          rw [Addr.add_lit, Nat.zero_add, World.ownsRow.cellAt GA4.out j hjl, hu]
        have hone : ∀ u ∈ tcells us, u.oneCell' = true := fun u hu => by
          simp only [tcells, List.mem_flatMap] at hu
          obtain ⟨t0, _, hu⟩ := hu
          simp [tcell] at hu
          rcases hu with rfl | rfl | rfl <;> rfl
        obtain ⟨ab, capb, rfl, hcb⟩ := GB4.out
        try rw [← HN.out]
        try rw [← HAL.out]
        have HCB := Lib.hid hcb
        have HCE := Lib.hid hcell
        have HON := Lib.hid hone
        have hl3 : (tcells us).length = A * 3 := by rw [tcells_len, HAL.out]
        have HL3 := Lib.hid hl3
        have hm3 : 0 + A ≤ maxLen := by unfold maxLen; omega
        clear hcb hcell hone hgb hl3
        go_wp2_with (at_builtin; refine wpList_append_own _ rfl (.tmp 83) (.tmp 84) 23 rfl w4.heap.size 28 i0 _ 3 32 Tryd.underlying23 hi0 hz0' hz1' hz2' rfl (by omega) (.slice none 0 0) 0 [] rfl (World.ownsRow_nil _ _ _ 3) ⟨ga, 0, none⟩ A capa (tcells us) rfl HL3.out HCE.out HON.out hm3 (by omega) (Nat.le_refl _) ?_; intro v0 w5 hown0 hgrow0 hiff0; rw [Nat.zero_add, List.nil_append] at hown0; have hjw := JW.start (bs := bs) (n := s.size + 1) HAL.out hown0 hgrow0; have HJW := Lib.hid hjw; clear hjw hown0 hgrow0 hiff0)
        go_loopg [14, 15] N (fun g va i wx => ∃ k : Nat, k + g = N ∧ i = .int .i64 (k : Int) ∧ JW w4 va us bs (s.size + 1) k wx)
        case atStart => exact ⟨0, by omega, rfl, HJW.out⟩
        case round =>
          obtain ⟨k, hkg, rfl, hJ⟩ := hrel
          have HJk := Lib.hid hJ
          clear hJ
          by_cases hk : k < N
          · have hne : bs ≠ [] := by intro e; have := HN.out; rw [e] at this; simp at this; omega
            obtain ⟨bb, rfl, hbb, hcc⟩ := HCB.out hne
            obtain ⟨t0, ht0⟩ : ∃ t0, bs[k]? = some t0 := ⟨_, List.getElem?_eq_getElem (by rw [← HN.out]; exact hk)⟩
            have hpos := (HB.out.ahead k t0 ht0).2.1
            rw [Nat.zero_add, ← size_list] at hpos
            have c0 := (HJk.out.bel.cell (p := ⟨bb, k * 3 + 0, none⟩) hbb).trans (hcc k t0 ht0 0 (by omega))
            have c1 := (HJk.out.bel.cell (p := ⟨bb, k * 3 + 1, none⟩) hbb).trans (hcc k t0 ht0 1 (by omega))
            have c2 := (HJk.out.bel.cell (p := ⟨bb, k * 3 + 2, none⟩) hbb).trans (hcc k t0 ht0 2 (by omega))
            simp only [tcell, List.getElem?_cons_zero, List.getElem?_cons_succ, Nat.add_zero] at c0 c1 c2
            have HT0 := Lib.hid ht0
            obtain ⟨tx, htx⟩ : ∃ tx : ByteArray, tx = ⟨t0.text.toArray⟩ := ⟨_, rfl⟩
            obtain ⟨kd, hkd⟩ : ∃ kd, kd = t0.kind := ⟨_, rfl⟩
            obtain ⟨ps, hps⟩ : ∃ ps, ps = t0.pos := ⟨_, rfl⟩
            rw [← htx] at c1
            rw [← hkd] at c0
            rw [← hps] at c2 hpos
            have HTX := Lib.hid htx
            have HKD := Lib.hid hkd
            have HPS := Lib.hid hps
            clear hcc hne ht0 htx hkd hps
            have q0 : (0 : Int) ≤ (k : Int) := by omega
            have q1 : (k : Int) < (N : Int) := by omega
            have hlx : (us ++ Tk.mv (s.size + 1) (bs.take k)).length ≤ 40000 := by
              rw [List.length_append, Tk.mv, List.length_map, List.length_take, ← HAL.out]; omega
            have hm1 : (us ++ Tk.mv (s.size + 1) (bs.take k)).length + 1 ≤ maxLen := by unfold maxLen; omega
            have hm2 : ((us ++ Tk.mv (s.size + 1) (bs.take k)).length + 1) * 32 ≤ 140737488355328 := by omega
            have hw4 := HJk.out.bel.size
            clear hlx
            go_wp2_with (first
              | (refine wpList_store_row rfl 28 (.tmp 16) (.tmp 95) rfl wr.heap.size #[.int .u8 (kd : Int), .string tx, .int .i64 (ps : Int)] rfl rfl 28 _ (heap_alloc_last wr _) (by kernel_rfl) rfl (by rfl) ?_; rw [World.setRow_alloc_new]; simp only [Act.put])
              | (at_builtin; refine wpList_append_own _ rfl (.tmp 103) (.tmp 105) 23 rfl w4.heap.size 28 i0 _ 3 32 Tryd.underlying23 hi0 hz0' hz1' hz2' rfl (by omega) _ _ _ rfl (World.ownsRow.alloc (World.ownsRow.alloc HJk.out.own _) _) ⟨wr.heap.size + 1, 0, none⟩ 1 1 [.int .u8 (kd : Int), .string tx, .int .i64 ((s.size : Int) + 1 + (ps : Int))] rfl (by rfl) (World.news_of_block (cs := #[.int .u8 (kd : Int), .string tx, .int .i64 ((s.size : Int) + 1 + (ps : Int))]) (t := 28) (fr := (0, 0)) (by have := heap_alloc2_new wr (.cells #[.int .u8 (kd : Int), .string tx, .int .i64 ((s.size : Int) + 1 + (ps : Int))] 28) (.cells #[.int .u8 (kd : Int), .string tx, .int .i64 ((s.size : Int) + 1 + (ps : Int))] 28); exact this)) (by simp [Value.oneCell']) hm1 hm2 (by simp; omega) ?_; intro v' w5 hown1 hgrow hiff; have hnx := HJk.out.next HT0.out hown1 (by rw [HTX.out, HKD.out, HPS.out]; simp [tcell]) hgrow; have HNX := Lib.hid hnx; clear hnx hown1 hgrow hiff))
            go_roundg (N - (k + 1))
            case measure => omega
            case rel => exact ⟨k + 1, by omega, by first | rfl | simp, HNX.out⟩
          · have hkN : k = N := by omega
            have hJ := HJk.out
            have hsame : us ++ Tk.mv (s.size + 1) bs = us ++ Tk.mv (s.size + 1) (bs.take k) := by rw [List.take_of_length_le (by rw [← HN.out]; omega)]
            have hlx : (us ++ Tk.mv (s.size + 1) bs).length ≤ 1000000 := by
              rw [List.length_append, Tk.mv, List.length_map, ← HAL.out, ← HN.out]; omega
            have ks := same_yes (GC4.out.below hJ.bel) (by rw [hsame]; exact hJ.own.reads) hlx
            have HBW := Lib.hid (then_below B4.out hJ.bel)
            clear hJ hsame hlx
            go_wp2_with (go_at_call 11; refine ks.mono ?_; clear ks; rintro e w6 ⟨rfl, nq, rfl⟩)
            go_ret
            exact ⟨rfl, below_drewN HBW.out nq⟩

theorem joins_any {s t : ByteArray} {w : World} (hT : HasTab w) :
    Calls Tryd.prog 5 #[.string s, .string t] w fun e w' => e = .returned (.bool true) ∧ Below w.heap.size w w' := by
  by_cases hs : s.size ≤ 20000
  · by_cases ht : t.size ≤ 20000
    · exact joins_near hT hs ht
    · exact joins_far hT (.inr ⟨hs, by omega⟩)
  · exact joins_far hT (.inl (by omega))
end Go.Proofs.YtfnblnemdepimaaDoor
