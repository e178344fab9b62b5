/- A text's number: is it digits, and its number, digit by digit. -/
import Derived.Test.YtmbnojkciikobaaGreatDoorPart
import Derived.Test.YtmbnojkciikobaaGreatDoorWord
import Derived.Lib.ConvBytes
namespace Go.Proofs.YtmbnojkciikobaaGreatDoor
open Go Go.Proofs Go.RowKit Go.Shelf Nu

attribute [local go_sem] Oper.semAt_some

/-- the byte at a place -/
def bt (s : ByteArray) (j : Nat) : Nat := (s.data.toList.getD j 0).toNat
theorem bt_lt (s : ByteArray) (j : Nat) : bt s j < 256 := (s.data.toList.getD j 0).toNat_lt

theorem bytes_conv (s : ByteArray) (w : World) : ∃ cap BW, (convert 9 104 (.string s)).run Tryz.prog w = .ok (.slice (some ⟨w.heap.size, 0, none⟩) s.size cap) BW ∧ Below w.heap.size w BW ∧ w.heap.size < BW.heap.size ∧ ∀ j, j < s.size → BW.cell? ⟨w.heap.size, j, none⟩ = some (.int .u8 (bt s j : Nat)) := by
  refine ⟨_, _, Lib.run_convert_string_bytes (P := Tryz.prog) (u := .string) w 9 104 5 s (by kernel_rfl) (by kernel_rfl) (by kernel_rfl), ?_, ?_, ?_⟩
  · exact ⟨rfl, rfl, rfl, by rw [Lib.bytesWorld_size]; omega, fun k hk => Lib.bytesWorld_at_old w _ s k hk⟩
  · rw [Lib.bytesWorld_size]; omega
  · intro j hj; exact Lib.bytesWorld_cell w _ s j hj

/-- is it digits, none of them needless? -/
def isNum (s : ByteArray) : Prop := (∀ j, j < s.size → 48 ≤ bt s j ∧ bt s j ≤ 57) ∧ (s.size = 1 ∨ 1 < s.size ∧ bt s 0 ≠ 48)

set_option maxRecDepth 100000 in
set_option maxHeartbeats 2000000 in
theorem isNumber_any (s : ByteArray) (w : World) (hs : s.size ≤ 2000000) (R : Bool) (hR : R = true ↔ isNum s) :
    Calls Tryz.prog 125 #[.string s] w fun e w' => e = .returned (.bool R) ∧ Below w.heap.size w w' := by
  obtain ⟨cap, BW, hconv, hbel, hlt, hcell⟩ := bytes_conv s w
  have HR := Lib.hid hR
  obtain ⟨N, hN⟩ : ∃ N, N = s.size := ⟨_, rfl⟩
  have HN := Lib.hid hN
  have hN1 : N ≤ 2000000 := by omega
  have HB := Lib.hid hbel
  rw [← hN] at hcell hconv
  clear hR hN hbel hs
  go_enter Tryz.func125, Tryz.ntmps125
  go_wp2
  go_loop [4, 8] (fun _ x => ∃ k : Nat, k ≤ N ∧ x = .int .i64 k ∧ Hid (∀ j, j < k → 48 ≤ bt s j ∧ bt s j ≤ 57)) (fun _ x => N - (intOf x).toNat)
  case atStart => exact ⟨0, Nat.zero_le _, rfl, Lib.hid fun j hj => by omega⟩
  case round =>
    obtain ⟨k, hk, rfl, hd⟩ := hrel
    by_cases hlt : k < N
    · have hc := hcell k hlt
      obtain ⟨c, hce⟩ : ∃ c, c = bt s k := ⟨_, rfl⟩
      have hc256 := bt_lt s k
      rw [← hce] at hc hc256
      have HC := Lib.hid hce
      clear hce hcell
      by_cases h1 : c < 48
      · go_wp2
        go_ret
        have : R = false := by
          cases R with
          | false => rfl
          | true => have := (HR.out.1 rfl).1 k (by have := HN.out; omega); have := HC.out; omega
        exact ⟨by rw [this]; rfl, HB.out⟩
      · by_cases h2 : 57 < c
        · go_wp2
          go_ret
          have : R = false := by
            cases R with
            | false => rfl
            | true => have := (HR.out.1 rfl).1 k (by have := HN.out; omega); have := HC.out; omega
          exact ⟨by rw [this]; rfl, HB.out⟩
        · go_wp2
          go_round
          case rel => exact ⟨k + 1, by omega, by simp, Lib.hid fun j hj => by
            by_cases e : j = k
            · subst e; rw [← HC.out]; omega
            · exact hd.out j (by omega)⟩
          case measure => simp [intOf]; omega
    · obtain rfl : k = N := by omega
      clear hcell
      have hn := HN.out
      by_cases s1 : s.size = 1
      · go_wp2
        go_ret
        have : R = true := HR.out.2 ⟨fun j hj => hd.out j (by omega), .inl s1⟩
        exact ⟨by rw [this]; exact ret_bool (by simp), HB.out⟩
      · by_cases s2 : 1 < s.size
        · have s3 : ((s.size : Int) == 1) = false := by simp; omega
          have S1 := Lib.hid s1
          clear s1 hn
          go_wp2
          go_ret
          refine ⟨ret_bool ?_, HB.out⟩
          rw [Bool.eq_iff_iff, HR.out]
          have e : s[0].toNat = bt s 0 := by
            unfold bt
            rw [List.getD_eq_getElem?_getD, List.getElem?_eq_getElem (by simpa using (show 0 < s.size by omega))]
            rfl
          rw [e]
          try simp only [s3, Bool.false_or]
          constructor
          · intro h
            exact ⟨fun j hj => hd.out j (by have := HN.out; omega), .inr ⟨s2, by simp at h; omega⟩⟩
          · rintro ⟨_, h | ⟨_, h⟩⟩
            · exact absurd h S1.out
            · simp; omega
        · go_wp2
          go_ret
          have : R = false := by
            cases R with
            | false => rfl
            | true => rcases (HR.out.1 rfl).2 with h | h <;> omega
          exact ⟨by rw [this]; exact ret_bool (by first | rfl | (simp; omega)), HB.out⟩

/-- what holds between two rounds of timesAnd's loop -/
def AndInv (w : World) (g : Nat) (post : List Value) (l : List Nat) (t m : Nat) (va : Value) (k : Nat) (W : World) : Prop :=
  (∃ (cur : List Nat) (c : Nat), Blk W g [] cur post ∧ cur.length = l.length ∧ Sm cur ∧ c < 4294967296 ∧ cur.drop k = l.drop k ∧ val (cur.take k) + 4294967296 ^ k * c = m + t * val (l.take k) ∧ Boxed W (w.heap.size + 1 + 1) 51 (.int .u64 c)) ∧
  Boxed W w.heap.size 23 va ∧ Boxed W (w.heap.size + 1) 78 (.int .u32 t) ∧ Boxed W (w.heap.size + 1 + 1 + 1) 23 va ∧ w.grownBy W (some g)

theorem and_step {l cur : List Nat} {k c t m : Nat} (hk : k < cur.length) (_hd : cur.drop k = l.drop k) (h : val (cur.take k) + 4294967296 ^ k * c = m + t * val (l.take k)) :
    val ((cur.set k ((c + l.getD k 0 * t) % 4294967296)).take (k + 1)) + 4294967296 ^ (k + 1) * ((c + l.getD k 0 * t) / 4294967296) = m + t * val (l.take (k + 1)) := by
  rw [set_take _ _ _ hk, val_snoc, val_take_succ l, List.length_take, Nat.min_eq_left (Nat.le_of_lt hk), Nat.pow_succ]
  have := Nat.div_add_mod (c + l.getD k 0 * t) 4294967296
  generalize (c + l.getD k 0 * t) / 4294967296 = q at *
  generalize (c + l.getD k 0 * t) % 4294967296 = r at *
  generalize 4294967296 ^ k = P at *
  generalize l.getD k 0 = x at *
  generalize val (cur.take k) = A at *
  generalize val (l.take k) = B at *
  grind

theorem and_bound {c P : Nat} (hc : c < 4294967296) (hP : P ≤ 18446744065119617025) : c + P < 18446744073709551616 ∧ (c + P) / 4294967296 < 4294967296 := by omega

set_option maxRecDepth 100000 in
set_option maxHeartbeats 4000000 in
/-- timesAnd, of what is not nil -/
theorem timesAnd_some {w : World} {base g cap t m : Nat} {l : List Nat} (hF : Fresh w base (.slice (some ⟨g, 0, none⟩) l.length cap) l) (hl : l.length ≤ 100000) (hs : Sm l) (ht : t < 4294967296) (hm : m < 4294967296) :
    Calls Tryz.prog 126 #[.slice (some ⟨g, 0, none⟩) l.length cap, .int .u32 t, .int .u32 m] w fun e w' => ∃ v', e = .returned v' ∧ Fresh w' base v' (digs (t * val l + m)) ∧ Below base w w' := by
  obtain ⟨i0, hi, hz0, hz1, hz2⟩ := info_parts info_u32
  obtain ⟨post, hb, hbg, hpc, hcm⟩ := hF.blk rfl
  have hgw := hb.lt
  have hncap : l.length ≤ cap := by omega
  obtain ⟨n, hn⟩ : ∃ n, n = l.length := ⟨_, rfl⟩
  have HN := Lib.hid hn
  rw [← hn] at hl hncap ⊢
  clear hn hF
  refine (callsIn_wide (n := 0)).1 ?_
  refine callsIn_of_wp_marks Tryz.func126 rfl trivial ?_ rfl
  simp only [Tryz.ntmps126, List.size_toArray, List.length_cons, List.length_nil, Nat.reduceAdd, Nat.reduceSub, Array.replicate_succ, Array.replicate_zero, List.push_toArray, List.append_toArray, List.nil_append, List.cons_append]
  refine wpIn_wide.2 ?_
  go_wp2_with (go_at_call 68; refine (all_any _ _ _ _).mono ?_; rintro e w' ⟨rfl, rfl⟩)
  refine (wpIn_wide (n := 0)).1 ?_
  refine wp_rangeAt (gf := 139) rfl (enters_of Tryz.func139 (by kernel_rfl) rfl)
    (all_iter n g 0 cap (w.heap.size + 1 + 1 + 1) _ (fun j => l.getD j 0) (by omega) (fun _ => rfl)) (fun _ => rfl)
    (AndInv w g post l t m (.slice (some ⟨g, 0, none⟩) n cap)) (fun _ _ => False) ?own (fun _ _ _ _ h _ _ => h) ?reads ?start ?round ?done ?stop
  case own =>
    rintro k W W' r ⟨⟨cur, c, h1, h2, h3, h4, h5, h6, h7⟩, g1, g2, g3, g4⟩ hg hr
    exact ⟨⟨cur, c, h1.keep hg hr, h2, h3, h4, h5, h6, keepBox h7 hg hr⟩, keepBox g1 hg hr, keepBox g2 hg hr, keepBox g3 hg hr, grown_keep g4 (by simp; omega) hg hr⟩
  case reads =>
    rintro k W ⟨⟨cur, c, h1, h2, h3, h4, h5, h6, h7⟩, g1, g2, g3, g4⟩
    refine ⟨g3.cell, fun hk => ?_⟩
    have e := h1.cell (o := 0) rfl k (by have := HN.out; omega)
    rw [getD_of_drop h5 k (Nat.le_refl _)] at e
    exact e
  case start =>
    refine ⟨⟨l, m, (((hb.alloc _).alloc _).alloc _).alloc _, rfl, hs, hm, rfl, by simp [val], (boxed_new2 w _ _ _ _).alloc _⟩, (((Boxed.new w _ _).alloc _).alloc _).alloc _, ((boxed_new1 w _ _ _).alloc _).alloc _, boxed_new3 w _ _ _ _ _, ?_⟩
    exact grown_alloc (grown_alloc (grown_alloc (grown_alloc (grown_refl w _) _) _) _) _
  case round =>
    intro lp k W hk
    have hx := hs.getD k
    obtain ⟨x, hxe⟩ : ∃ x, x = l.getD k 0 := ⟨_, rfl⟩
    dsimp only
    rw [← hxe]
    rw [← hxe] at hx
    have HX := Lib.hid hxe
    clear hxe hb hs
    gi_wp2
    refine NextRound.mk ?_
    rintro W2 ⟨⟨cur, c, h1, h2, h3, h4, h5, h6, h7⟩, g1, g2, g3, g4⟩
    have hkc : k < cur.length := by rw [h2, ← HN.out]; exact hk
    have r1 := h1.cell (o := 0) rfl k hkc
    have r2 := h1.frozen k
    rw [Nat.zero_add] at r1
    obtain ⟨y, hy⟩ : ∃ y, y = cur.getD k 0 := ⟨_, rfl⟩
    rw [← hy] at r1
    clear hy
    obtain ⟨P, hP, HP, hPb⟩ := mul_bound hx ht
    have hcb := and_bound h4 hPb
    have HP' := Lib.hid HP
    have H2 := Lib.hid h2
    have H5 := Lib.hid h5
    have H6 := Lib.hid h6
    have q1 := h7.cell
    have q2 := h7.frozen
    have q3 := g1.cell
    have q4 := g2.cell
    clear h2 h5 h6 HP
    gi_wp2
    have hgS : g ≠ w.heap.size + 1 + 1 := by omega
    refine ⟨(((KeepsOthers.setCell W2 _ _).trans (KeepsOthers.setCell _ _ _)).trans (KeepsOthers.setCell _ _ _)).from _,
      ⟨cur.set k ((c + P) % 4294967296), (c + P) / 4294967296, ?_, ?_, h3.set _ _ (by omega), hcb.2, ?_, ?_, ?_⟩, ?_, ?_, ?_, ?_⟩
    · have e := ((h1.box hgS (.int .u64 ((c : Int) + (P : Int)))).set (o := 0) rfl k ((c + P) % 4294967296) hkc).box hgS (.int .u64 (((c : Int) + (P : Int)) / 4294967296))
      rw [show (((c + P) % 4294967296 : Nat) : Int) = ((c : Int) + (P : Int)) % 4294967296 by omega, Nat.zero_add] at e
      exact e
    · rw [List.length_set]; exact H2.out
    · rw [set_drop]; exact drop_succ_of_drop H5.out
    · have e := and_step hkc H5.out H6.out
      rw [← HX.out, ← HP'.out] at e
      exact e
    · rw [show (((c + P) / 4294967296 : Nat) : Int) = ((c : Int) + (P : Int)) / 4294967296 by omega]
      exact (boxed_row (h7.set _) (by omega) _).set _
    · exact (boxed_row (g1.other (by omega) _) (by omega) _).other (by omega) _
    · exact (boxed_row (g2.other (by omega) _) (by omega) _).other (by omega) _
    · exact (boxed_row (g3.other (by omega) _) (by omega) _).other (by omega) _
    · exact grown_box (grown_setCell (grown_box g4 (by omega) _) _ _) (by omega) _
  case done =>
    rintro D W hD ⟨⟨cur, c, h1, h2, h3, h4, h5, h6, h7⟩, g1, g2, g3, g4⟩ hK
    have hn := HN.out
    rw [List.take_of_length_le (by omega), List.take_of_length_le (by omega)] at h6
    have hcl : cur.length = n := by omega
    have hW := h1.fresh (base := base) (cap := cap) hbg (by omega) hcm
    rw [hcl] at hW
    have q1 := h7.cell
    have q3 := g1.cell
    have hww : w.heap.size ≤ W.heap.size := g4.size
    have H6 := Lib.hid h6
    have HCL := Lib.hid hcl
    have hW' : W.ownsRow base 78 1 (.slice (some ⟨g, 0, none⟩) n cap) n (cur.map u32v) := by unfold Fresh at hW; rw [hcl] at hW; exact hW
    clear h2 h5 h6 hcl hn hb hs
    go_wp2_with (first
      | (at_builtin; go_loud (refine wpList_append_own _ rfl _ _ 23 rfl base 78 i0 (.int .u32 0) 1 4 Tryz.underlying23 hi hz0 hz1 hz2 rfl (by decide) _ _ _ rfl (World.ownsRow.alloc hW' _) ⟨W.heap.size, 0, none⟩ 1 1 [_] rfl rfl (one_new _ _ _ _ (by simp)) (by simp [Value.oneCell']) (small_max (by omega)) (by omega) (by simp; omega) ?_); intro v' w3 hown' hgrow _; obtain ⟨g', cap', rfl⟩ := ownsRow_succ hown'; obtain ⟨hF, hKO, hBl, hBx, hNo⟩ := fresh_append (c % 4294967296) hW (by omega) (by rw [HCL.out]; exact hown') hgrow (by omega); have hK3 := hNo D _ hK rfl; clear hBx hown' hgrow hNo)
      | (go_at_call 66; refine (trim_fresh hF (by simp [HCL.out]) (by simp [HCL.out]; omega)).mono ?_; rintro e w' ⟨rfl, rfl⟩))
    have e1 : val (cur ++ [c % 4294967296]) = t * val l + m := by
      rw [val_snoc, HCL.out, Nat.mod_eq_of_lt h4, H6.out, Nat.add_comm]
    have hR := hF.trim' (by simp [HCL.out]) (h3.snoc (by omega))
    rw [e1] at hR
    refine ⟨by simp, .inl ⟨_, _, rfl, run_takeDeferred hK3, ?_⟩⟩
    refine ⟨_, results_tmp rfl _ _ _, _, rfl, hR.left _ hK3 rfl, ?_⟩
    refine ((((Below.refl base w).grown g4 (by omega) (fun j e => by cases e; exact hbg))).trans hBl).grown (grownBy_putObj' _ D _) ?_ (fun j e => ?_)
    · have := hBl.size; omega
    · cases e; simp at hD; omega
  case stop =>
    rintro D c W _ h _
    exact h.elim

set_option maxHeartbeats 1000000 in
/-- timesAnd, of nil -/
theorem timesAnd_nil {w : World} (t m : Nat) (_ht : t < 4294967296) (hm : m < 4294967296) :
    Calls Tryz.prog 126 #[.slice none 0 0, .int .u32 t, .int .u32 m] w fun e w' => ∃ v', e = .returned v' ∧ Fresh w' w.heap.size v' (digs m) ∧ Below w.heap.size w w' := by
  obtain ⟨i0, hi, hz0, hz1, hz2⟩ := info_parts info_u32
  refine (callsIn_wide (n := 0)).1 ?_
  refine callsIn_of_wp_marks Tryz.func126 rfl trivial ?_ rfl
  simp only [Tryz.ntmps126, List.size_toArray, List.length_cons, List.length_nil, Nat.reduceAdd, Nat.reduceSub, Array.replicate_succ, Array.replicate_zero, List.push_toArray, List.append_toArray, List.nil_append, List.cons_append]
  refine wpIn_wide.2 ?_
  go_wp2_with (go_at_call 68; refine (all_any _ _ _ _).mono ?_; rintro e w' ⟨rfl, rfl⟩)
  refine (wpIn_wide (n := 0)).1 ?_
  refine wp_rangeAt (gf := 139) rfl (enters_of Tryz.func139 (by kernel_rfl) rfl)
    (all_iter 0 0 0 0 (w.heap.size + 1 + 1 + 1) none (fun _ => 0) (by omega) (fun h => by omega)) (fun _ => rfl)
    (fun _ W => Boxed W w.heap.size 23 (.slice none 0 0) ∧ Boxed W (w.heap.size + 1 + 1) 51 (.int .u64 m) ∧ Boxed W (w.heap.size + 1 + 1 + 1) 23 (.slice none 0 0) ∧ Below w.heap.size w W) (fun _ _ => False) ?own (fun _ _ _ _ h _ _ => h) ?reads ?start ?round ?done ?stop
  case own =>
    rintro k W W' r ⟨h1, h2, h3, h4⟩ hg hr
    exact ⟨keepBox h1 hg hr, keepBox h2 hg hr, keepBox h3 hg hr, keepBelow h4 (Nat.le_refl _) (by simp; omega) hg hr⟩
  case reads =>
    rintro k W ⟨h1, h2, h3, h4⟩
    exact ⟨h3.cell, fun h => by omega⟩
  case start =>
    exact ⟨(((Boxed.new w _ _).alloc _).alloc _).alloc _, (boxed_new2 w _ _ _ _).alloc _, boxed_new3 w _ _ _ _ _, ((((Below.refl _ w).alloc (Nat.le_refl _) _).alloc (by simp) _).alloc (by simp; omega) _).alloc (by simp; omega) _⟩
  case round =>
    intro lp k W hk
    omega
  case done =>
    rintro D W hD ⟨h1, h2, h3, h4⟩ hK
    have q1 := h1.cell
    have q2 := h2.cell
    have hW := Fresh.nil W w.heap.size
    have hbS : w.heap.size ≤ W.heap.size := h4.size
    go_wp2_with (first
      | (at_builtin; refine wpList_append_own _ rfl _ _ 23 rfl w.heap.size 78 i0 (.int .u32 0) 1 4 Tryz.underlying23 hi hz0 hz1 hz2 rfl (by decide) _ _ _ rfl (World.ownsRow.alloc hW _) ⟨W.heap.size, 0, none⟩ 1 1 [_] rfl rfl (one_new _ _ _ _ (by simp)) (by simp [Value.oneCell']) (small_max (by simp)) (by simp) (by simp; omega) ?_; intro v' w3 hown' hgrow _; obtain ⟨g', cap', rfl⟩ := ownsRow_succ hown'; obtain ⟨hF, hKO, hBl, hBx, hNo⟩ := fresh_append m hW hbS hown' hgrow (by omega); have hK3 := hNo D _ hK rfl; clear hBx hown' hgrow hNo)
      | (go_at_call 66; refine (trim_fresh hF (by simp) (by simp)).mono ?_; rintro e w' ⟨rfl, rfl⟩))
    have hR := hF.trim' (by simp) (Sm.cons hm Sm.nil)
    rw [List.nil_append, val_one] at hR
    refine ⟨by simp, .inl ⟨_, _, rfl, run_takeDeferred hK3, ?_⟩⟩
    exact ⟨_, results_tmp rfl _ _ _, _, rfl, hR.left _ hK3 rfl, below_left _ (h4.trans hBl) (by simp at hD; omega) hK3 rfl⟩
  case stop =>
    rintro D c W _ h _
    exact h.elim
/-- timesAnd -/
theorem timesAnd_any {w : World} {base t m : Nat} {v : Value} {l : List Nat} (hF : Fresh w base v l) (hb : base ≤ w.heap.size) (hl : l.length ≤ 100000) (hs : Sm l) (ht : t < 4294967296) (hm : m < 4294967296) :
    Calls Tryz.prog 126 #[v, .int .u32 t, .int .u32 m] w fun e w' => ∃ v', e = .returned v' ∧ Fresh w' base v' (digs (t * val l + m)) ∧ Below base w w' := by
  rcases hF.form with ⟨rfl, rfl⟩ | ⟨g, cap, rfl, _⟩
  · refine (timesAnd_nil t m ht hm).mono ?_
    rintro e w' ⟨v', rfl, h1, h2⟩
    exact ⟨v', rfl, by simpa [val] using h1.mono hb, h2.mono hb⟩
  · exact timesAnd_some hF hl hs ht hm

end Go.Proofs.YtmbnojkciikobaaGreatDoor
