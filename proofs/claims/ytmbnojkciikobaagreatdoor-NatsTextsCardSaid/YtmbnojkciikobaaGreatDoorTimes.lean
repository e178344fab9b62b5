/- A number so many times put to another one in place, as the program does it. -/
import Derived.Test.YtmbnojkciikobaaGreatDoorBlk
import Derived.Test.YtmbnojkciikobaaGreatDoorBits
namespace Go.Proofs.YtmbnojkciikobaaGreatDoor
open Go Go.Proofs Go.RowKit Go.Shelf Nu

attribute [local go_sem] Oper.semAt_some

/-- what holds between two rounds of addTimes's loop -/
def TimesInv (w : World) (g : Nat) (pre post : List Value) (row lb : List Nat) (t : Nat) (va vb : Value) (k : Nat) (W : World) : Prop :=
  (∃ (cur : List Nat) (c : Nat), Blk W g pre cur post ∧ cur.length = row.length ∧ Sm cur ∧ c < 4294967296 ∧ cur.drop k = row.drop k ∧ val (cur.take k) + 4294967296 ^ k * c = val (row.take k) + t * val (lb.take k) ∧ Boxed W (w.heap.size + 1 + 1) 51 (.int .u64 c)) ∧
  Boxed W w.heap.size 23 va ∧ Boxed W (w.heap.size + 1) 78 (.int .u32 t) ∧ Boxed W (w.heap.size + 1 + 1 + 1) 23 vb ∧ w.grownBy W (some g)

set_option maxRecDepth 100000 in
set_option maxHeartbeats 4000000 in
theorem addTimes_any {w : World} {g o cap t : Nat} {pre post : List Value} {row lb : List Nat} {vb : Value} (hb : Blk w g pre row post) (ho : pre.length = o) (hcap : row.length ≤ cap) (hB : Reads w vb lb) (hne : 0 < lb.length → vb.ownBlock ≠ some g) (hl : row.length = lb.length) (hlb : lb.length ≤ 100000) (_hso : o ≤ 1000000)
    (hSR : Sm row) (hSB : Sm lb) (ht : t < 4294967296) :
    Calls Tryz.prog 69 #[.slice (some ⟨g, o, none⟩) row.length cap, vb, .int .u32 t] w fun e w' => ∃ (row' : List Nat) (c : Nat), e = .returned (.int .u32 c) ∧ Blk w' g pre row' post ∧ row'.length = row.length ∧ Sm row' ∧ c < 4294967296 ∧ val row' + 4294967296 ^ row.length * c = val row + t * val lb ∧ w.grownBy w' (some g) := by
  have hgw := hb.lt
  obtain ⟨b1, d1, rfl⟩ := hB.form
  obtain ⟨n, hn⟩ : ∃ n, n = row.length := ⟨_, rfl⟩
  have HN := Lib.hid hn
  have HNL := Lib.hid hl
  have hn1 : n ≤ 100000 := by omega
  have hn2 : n ≤ cap := by omega
  rw [← hn]
  clear hn hl
  refine (callsIn_wide (n := 0)).1 ?_
  refine callsIn_of_wp_marks Tryz.func69 rfl trivial ?_ rfl
  simp only [Tryz.ntmps69, List.size_toArray, List.length_cons, List.length_nil, Nat.reduceAdd, Nat.reduceSub, Array.replicate_succ, Array.replicate_zero, List.push_toArray, List.append_toArray, List.nil_append, List.cons_append]
  refine wpIn_wide.2 ?_
  go_wp2_with (go_at_call 68; refine (all_any _ _ _ _).mono ?_; rintro e w' ⟨rfl, rfl⟩)
  obtain ⟨bb, ob, hbb, hcb⟩ := hB.addr
  refine (wpIn_wide (n := 0)).1 ?_
  refine wp_rangeAt (gf := 139) rfl (enters_of Tryz.func139 (by kernel_rfl) rfl)
    (all_iter lb.length bb ob d1 (w.heap.size + 1 + 1 + 1) b1 (fun j => lb.getD j 0) (by omega) (fun h => (hbb h).1)) (fun _ => rfl)
    (TimesInv w g pre post row lb t (.slice (some ⟨g, o, none⟩) n cap) (.slice b1 lb.length d1)) (fun _ _ => False) ?own (fun _ _ _ _ h _ _ => h) ?reads ?start ?round ?done ?stop
  case own =>
    rintro k W W' r ⟨⟨cur, c, h1, h2, h3, h4, h5, h6, h7⟩, g1, g2, g3, g4⟩ hg hr
    exact ⟨⟨cur, c, h1.keep hg hr, h2, h3, h4, h5, h6, keepBox h7 hg hr⟩, keepBox g1 hg hr, keepBox g2 hg hr, keepBox g3 hg hr, grown_keep g4 (by simp; omega) hg hr⟩
  case reads =>
    rintro k W ⟨_, g1, g2, g3, g4⟩
    refine ⟨g3.cell, fun hk => ?_⟩
    have hbg : bb ≠ g := fun e => hne (by omega) (by rw [(hbb (by omega)).1, e]; rfl)
    exact (World.cell?_of_block (w := w) (g4.block bb (hbb (by omega)).2 (fun e => hbg (by cases e; rfl)))).trans (hcb k hk)
  case start =>
    refine ⟨⟨row, 0, (((hb.alloc _).alloc _).alloc _).alloc _, rfl, hSR, by omega, rfl, by simp [val], (boxed_new2 w _ _ _ _).alloc _⟩, (((Boxed.new w _ _).alloc _).alloc _).alloc _, ((boxed_new1 w _ _ _).alloc _).alloc _, boxed_new3 w _ _ _ _ _, ?_⟩
    exact grown_alloc (grown_alloc (grown_alloc (grown_alloc (grown_refl w _) _) _) _) _
  case round =>
    intro l k W hk
    have hx := hSB.getD k
    obtain ⟨x, hxe⟩ : ∃ x, x = lb.getD k 0 := ⟨_, rfl⟩
    dsimp only
    rw [← hxe]
    rw [← hxe] at hx
    have HX := Lib.hid hxe
    have hkn : k < n := by have := HN.out; have := HNL.out; omega
    clear hxe hbb hcb hB hSB hSR hb
    gi_wp2
    refine NextRound.mk ?_
    rintro W2 ⟨⟨cur, c, h1, h2, h3, h4, h5, h6, h7⟩, g1, g2, g3, g4⟩
    have hkc : k < cur.length := by rw [h2, ← HN.out]; exact hkn
    have r1 := h1.cell ho k hkc
    have r2 := h1.frozen (o + k)
    have hr := h3.getD k
    obtain ⟨r, hre⟩ : ∃ r, r = cur.getD k 0 := ⟨_, rfl⟩
    rw [← hre] at r1 hr
    obtain ⟨P, hP, HP, hPb⟩ := mul_bound hx ht
    have HP' := Lib.hid HP
    have HR := Lib.hid hre
    have H2 := Lib.hid h2
    have H5 := Lib.hid h5
    have H6 := Lib.hid h6
    have q1 := h7.cell
    have q2 := h7.frozen
    have q3 := g1.cell
    have q4 := g2.cell
    clear hre h2 h5 h6 HP
    gi_wp2_with (refine region_tail_in (Lets.round l) 13 (by kernel_rfl) (by kernel_rfl) (Stop.of ?_))
    refine Stop.mk ?_
    simp only [List.take_succ_cons, List.take_zero, List.drop_succ_cons, List.drop_zero]
    iterate 13 still_step
    refine wpStill_nil ?_
    gi_wp2
    have hgS : g ≠ w.heap.size + 1 + 1 := by omega
    refine ⟨((((KeepsOthers.setCell W2 _ _).trans (KeepsOthers.setCell _ _ _)).trans (KeepsOthers.setCell _ _ _)).trans (KeepsOthers.drew _)).from _,
      ⟨cur.set k ((c + (P + r)) % 4294967296), (c + (P + r)) / 4294967296, ?_, ?_, h3.set _ _ (by omega), by omega, ?_, ?_, ?_⟩, ?_, ?_, ?_, ?_⟩
    · have e := ((h1.box hgS (.int .u64 ((c : Int) + ((P : Int) + (r : Int))))).set ho k ((c + (P + r)) % 4294967296) hkc).box hgS (.int .u64 (((c : Int) + ((P : Int) + (r : Int))) / 4294967296))
      rw [show (((c + (P + r)) % 4294967296 : Nat) : Int) = ((c : Int) + ((P : Int) + (r : Int))) % 4294967296 by omega] at e
      exact e
    · rw [List.length_set]; exact H2.out
    · rw [set_drop]; exact drop_succ_of_drop H5.out
    · have e := times_step (t := t) hkc H5.out H6.out
      rw [← HX.out, ← HP'.out, ← HR.out] at e
      exact e
    · rw [show (((c + (P + r)) / 4294967296 : Nat) : Int) = ((c : Int) + ((P : Int) + (r : Int))) / 4294967296 by omega]
      exact (boxed_row (h7.set _) (by omega) _).set _
    · exact (boxed_row (g1.other (by omega) _) (by omega) _).other (by omega) _
    · exact (boxed_row (g2.other (by omega) _) (by omega) _).other (by omega) _
    · exact (boxed_row (g3.other (by omega) _) (by omega) _).other (by omega) _
    · exact grown_drew (grown_box (grown_setCell (grown_box g4 (by omega) _) _ _) (by omega) _)
  case done =>
    rintro D W hD ⟨⟨cur, c, h1, h2, h3, h4, h5, h6, h7⟩, g1, g2, g3, g4⟩ hK
    have q1 := h7.cell
    have hn := HN.out
    have hl := HNL.out
    rw [List.take_of_length_le (by omega), List.take_of_length_le (by omega), List.take_of_length_le (by omega), ← hl, ← hn] at h6
    have H6 := Lib.hid h6
    have H2 := Lib.hid h2
    clear h2 h5 h6 hbb hcb hB hSB hb hn hl g1 g2 g3
    go_wp2
    refine ⟨by simp, .inl ⟨_, _, rfl, run_takeDeferred hK, ?_⟩⟩
    refine ⟨_, results_tmp rfl _ _ _, cur, c, rfl, h1.left _ hK rfl, by rw [H2.out, HN.out], h3, h4, H6.out, grown_left _ g4 (by simp at hD; omega) hK rfl⟩
  case stop =>
    rintro D c W _ h _
    exact h.elim

end Go.Proofs.YtmbnojkciikobaaGreatDoor
