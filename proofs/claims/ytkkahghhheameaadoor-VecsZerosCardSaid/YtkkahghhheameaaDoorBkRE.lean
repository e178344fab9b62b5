/- A book of numbers' lists and rows of fractions: told whole numbers, fractions, rows; its last call where no list of numbers was told. -/
import Derived.Test.YtkkahghhheameaaDoorBkRD
namespace Go.Proofs.YtkkahghhheameaaDoor
open Go Go.Proofs Go.RowKit Go.Shelf

attribute [local go_sem] Oper.semAt_some
set_option maxRecDepth 100000
set_option maxHeartbeats 8000000 in
theorem apartRa_at {w W : World} {base B h n N cap : Nat} {f : Nat → Value} {A : Nat → Option Addr} {L C M : Nat → Nat} (D : WLies W base B h N A L C M) (hN : N ≤ cap) (hf : f 8 = .slice (some ⟨h, 0, none⟩) N cap) (h0 : ∀ o, o ≠ 8 → f o = .slice none 0 0) (F : WFill W w 47 62 3 (PRat W.heap.size) base B h n N f A L C M 0 0 W) :
    Calls Tryd.prog 8 #[.pointer (some ⟨B, 0, none⟩)] W fun e w' => e = .returned (.bool true) ∧ Below base w w' := by
  have hD := Lib.hid D
  have hF := Lib.hid F
  have b0 := Lib.hid F.1
  have hFo := Lib.hid F.forms
  have Hf := Lib.hid hf
  have H0 := Lib.hid h0
  clear D F hf h0
  go_enter Tryd.func8, Tryd.ntmps8
  go_wp2_with (first
    | (go_at_call 14; refine (qe_fillByte b0.out (H0.out 1 (by decide))).mono ?_; rintro e w' ⟨rfl, rfl⟩)
    | (go_at_call 15; refine (qe_fillInt32 b0.out (H0.out 2 (by decide))).mono ?_; rintro e w' ⟨rfl, rfl⟩)
    | (go_at_call 16; refine (qe_fillNum b0.out (H0.out 3 (by decide))).mono ?_; rintro e w' ⟨rfl, rfl⟩)
    | (go_at_call 17; refine (qe_fillBool b0.out (H0.out 4 (by decide))).mono ?_; rintro e w' ⟨rfl, rfl⟩)
    | (go_at_call 18; refine (qe_fillText b0.out (H0.out 5 (by decide))).mono ?_; rintro e w' ⟨rfl, rfl⟩)
    | (go_at_call 19; refine (qe_fillToken b0.out (H0.out 6 (by decide))).mono ?_; rintro e w' ⟨rfl, rfl⟩)
    | (go_at_call 20; refine (qe_fillTenant b0.out (H0.out 7 (by decide))).mono ?_; rintro e w' ⟨rfl, rfl⟩)
    | (go_at_call 21; go_loud (refine (fillRa_any (Nat.le_refl _) hD.out hN Hf.out hF.out).mono ?_; rintro e w1 ⟨rfl, q1⟩; have hF1 := Lib.hid q1; have b1 := Lib.hid q1.1; have G1 := Lib.hid (WGrowO.start q1); have H1 := Lib.hid q1.2.1.lt; clear q1 hF hFo; have hFo := Lib.hid hF1.out.forms))
    | (go_at_call 22; refine (qe_fillVar b1.out (H0.out 9 (by decide))).mono ?_; rintro e w' ⟨rfl, rfl⟩)
    | (go_at_call 23; refine (qe_fillRow b1.out (H0.out 10 (by decide))).mono ?_; rintro e w' ⟨rfl, rfl⟩)
    | (go_at_call 24; refine (qe_fillNode b1.out (H0.out 11 (by decide))).mono ?_; rintro e w' ⟨rfl, rfl⟩)
    | (go_at_call 25; refine (qe_fillJob b1.out (H0.out 12 (by decide))).mono ?_; rintro e w' ⟨rfl, rfl⟩)
    | (go_at_call 26; refine (qe_growByte b1.out (H0.out 1 (by decide))).mono ?_; rintro e w' ⟨rfl, rfl⟩)
    | (go_at_call 27; refine (qe_growInt32 b1.out (H0.out 2 (by decide))).mono ?_; rintro e w' ⟨rfl, rfl⟩)
    | (go_at_call 28; refine (qe_growNum b1.out (H0.out 3 (by decide))).mono ?_; rintro e w' ⟨rfl, rfl⟩)
    | (go_at_call 29; refine (qe_growBool b1.out (H0.out 4 (by decide))).mono ?_; rintro e w' ⟨rfl, rfl⟩)
    | (go_at_call 30; refine (qe_growText b1.out (H0.out 5 (by decide))).mono ?_; rintro e w' ⟨rfl, rfl⟩)
    | (go_at_call 31; refine (qe_growToken b1.out (H0.out 6 (by decide))).mono ?_; rintro e w' ⟨rfl, rfl⟩)
    | (go_at_call 32; refine (qe_growTenant b1.out (H0.out 7 (by decide))).mono ?_; rintro e w' ⟨rfl, rfl⟩)
    | (go_at_call 33; go_loud (refine (growRa_any (Nat.le_refl _) hD.out hFo.out hN Hf.out H1.out hF1.out.2.2.2.1.1 G1.out).mono ?_; rintro e w2 ⟨rfl, q2⟩; have q3 := WLook.of hD.out q2; clear q2; obtain ⟨G, X, Y, q3⟩ := q3; have L2 := Lib.hid q3; have b2 := Lib.hid q3.1; clear q3))
    | (go_at_call 34; refine (qe_growVar b2.out (H0.out 9 (by decide))).mono ?_; rintro e w' ⟨rfl, rfl⟩)
    | (go_at_call 35; refine (qe_growRow b2.out (H0.out 10 (by decide))).mono ?_; rintro e w' ⟨rfl, rfl⟩)
    | (go_at_call 36; refine (qe_growNode b2.out (H0.out 11 (by decide))).mono ?_; rintro e w' ⟨rfl, rfl⟩)
    | (go_at_call 37; refine (qe_growJob b2.out (H0.out 12 (by decide))).mono ?_; rintro e w' ⟨rfl, rfl⟩)
    | (go_at_call 38; refine (qe_lookByte b2.out (H0.out 1 (by decide))).mono ?_; rintro e w' ⟨rfl, rfl⟩)
    | (go_at_call 39; refine (qe_lookInt32 b2.out (H0.out 2 (by decide))).mono ?_; rintro e w' ⟨rfl, rfl⟩)
    | (go_at_call 40; refine (qe_lookNum b2.out (H0.out 3 (by decide))).mono ?_; rintro e w' ⟨rfl, rfl⟩)
    | (go_at_call 41; refine (qe_lookBool b2.out (H0.out 4 (by decide))).mono ?_; rintro e w' ⟨rfl, rfl⟩)
    | (go_at_call 42; refine (qe_lookText b2.out (H0.out 5 (by decide))).mono ?_; rintro e w' ⟨rfl, rfl⟩)
    | (go_at_call 43; refine (qe_lookToken b2.out (H0.out 6 (by decide))).mono ?_; rintro e w' ⟨rfl, rfl⟩)
    | (go_at_call 44; refine (qe_lookTenant b2.out (H0.out 7 (by decide))).mono ?_; rintro e w' ⟨rfl, rfl⟩)
    | (go_at_call 45; go_loud (refine (lookRa_any hD.out hN Hf.out L2.out).mono ?_; rintro e w3 ⟨rfl, q4⟩; have L3 := Lib.hid q4; have b3 := Lib.hid q4.1; clear q4))
    | (go_at_call 46; refine (qe_lookVar b3.out (H0.out 9 (by decide))).mono ?_; rintro e w' ⟨rfl, rfl⟩)
    | (go_at_call 47; refine (qe_lookRow b3.out (H0.out 10 (by decide))).mono ?_; rintro e w' ⟨rfl, rfl⟩)
    | (go_at_call 48; refine (qe_lookNode b3.out (H0.out 11 (by decide))).mono ?_; rintro e w' ⟨rfl, rfl⟩)
    | (go_at_call 49; refine (qe_lookJob b3.out (H0.out 12 (by decide))).mono ?_; rintro e w' ⟨rfl, rfl⟩)
    | fail)
  go_ret
  exact ⟨rfl, L3.out.2.2.1⟩
theorem bt_apartRa {w W : World} {base B n : Nat} {v : Value} {et : List (Value × Nat)} (h : BT W B n (.slice none 0 0) v [] et) (het : et ≠ []) (hlt : et.length ≤ 100000) (hb : base ≤ B) (hw : Below base w W) (hnt : ∀ e ∈ et, e.2 ≤ 100000)
    (hot : ∀ e ∈ et, ∃ (m : Nat) (xs : List Value), m ≤ 2000000 ∧ W.ownsRow base 47 3 e.1 m xs ∧ ∀ g, e.1.ownBlock = some g → g < B) (hdt : et.Pairwise fun x y => x.1.ownBlock = none ∨ x.1.ownBlock ≠ y.1.ownBlock) :
    Calls Tryd.prog 8 #[.pointer (some ⟨B, 0, none⟩)] W fun e w' => e = .returned (.bool true) ∧ Below base w w' := by
  obtain ⟨ht1, capt, ev, hBt, hct, hat⟩ := h.rt.at het
  obtain ⟨At, Lt, Ct, Dt, Vt, Rt⟩ := q_pick hb (show B < ht1 from hBt) hlt hnt (fun e he => by
    obtain ⟨m, xs, h1, h2, h3⟩ := hot e he
    exact ⟨m, xs, h1, h2, fun g eg => ⟨by have := h3 g eg; omega, fun e => by have := h3 g eg; have : B < ht1 := hBt; omega⟩⟩) hdt
  exact apartRa_at (wlies Dt) hct (show bt (.slice none 0 0) v 8 = _ from ev) (fun o h5 => by unfold bt upd none12; rw [if_neg h5]; split <;> rfl) (q_startW (htag h.rt (by rw [ev]; rfl)) h.book hw hat Vt Rt)
/-- what a call with the book turned -/
structure Pgs (B : Nat) (W : World) (u v : Value) (W' : World) (u' v' : Value) : Prop where
  bel : Below B W W'
  kp : Kp W W' (fun b => b = B ∨ u.ownBlock = some b ∨ v.ownBlock = some b)
  nu : ∀ g, u'.ownBlock = some g → u.ownBlock = some g ∨ W.heap.size ≤ g
  nv : ∀ g, v'.ownBlock = some g → v.ownBlock = some g ∨ W.heap.size ≤ g
theorem below_tr {B : Nat} {W V U : World} (h : Below B W V) (k : Below B V U) : Below B W U :=
  ⟨k.os.trans h.os, k.tape.trans h.tape, k.output.trans h.output, Nat.le_trans h.size k.size, fun b hb => (k.block b hb).trans (h.block b hb)⟩
section
variable {B : Nat} {W V U : World} {u v u' v' u2 v2 : Value}
theorem Pgs.refl : Pgs B W u v W u v := ⟨Below.refl _ _, Kp.refl, fun _ e => .inl e, fun _ e => .inl e⟩
theorem Pgs.alloc (hB : B ≤ W.heap.size) (o : Obj) : Pgs B W u v (W.alloc o) u v := ⟨(Below.refl _ _).alloc hB o, Kp.refl.alloc o, fun _ e => .inl e, fun _ e => .inl e⟩
theorem Pgs.trans (h : Pgs B W u v V u' v') (k : Pgs B V u' v' U u2 v2) : Pgs B W u v U u2 v2 := by
  have hs := h.kp.1
  refine ⟨below_tr h.bel k.bel, ⟨Nat.le_trans hs k.kp.1, fun b hb hn => (k.kp.2 b (by omega) (fun e => ?_)).trans (h.kp.2 b hb hn)⟩, fun g e => ?_, fun g e => ?_⟩
  · rcases e with e | e | e
    · exact hn (.inl e)
    · rcases h.nu b e with e | e
      · exact hn (.inr (.inl e))
      · omega
    · rcases h.nv b e with e | e
      · exact hn (.inr (.inr e))
      · omega
  · rcases k.nu g e with e | e
    · exact h.nu g e
    · exact .inr (by omega)
  · rcases k.nv g e with e | e
    · exact h.nv g e
    · exact .inr (by omega)
end
section
variable {W : World} {B n : Nat} {u v : Value} {eb et : List (Value × Nat)}
theorem BT.up (h : BT W B n u v eb et) (o : Obj) : BT (W.alloc o) B n u v eb et := h.below ((Below.refl _ _).alloc (Nat.le_refl _) o) (Nat.le_refl _)
theorem bt_natp {a : Option Addr} {l c : Nat} (h : BT W B n u v eb et) (hn : n ≤ 100000) (hl : eb.length ≤ 100000) :
    Calls Tryd.prog 56 #[.pointer (some ⟨B, 0, none⟩), .slice a l c] W fun e w' => e = .returned (.tuple #[]) ∧ ∃ u', BT w' B (n + 1) u' v (eb ++ [(.slice a l c, n + 1)]) et ∧ Pgs B W u v w' u' v := by
  refine (bt_nat h hn hl).mono ?_
  rintro e w' ⟨rfl, u', h1, h2, h3, h4⟩
  exact ⟨rfl, u', h1, h2, kp_mono h3 (fun g e => by rcases e with e | e; exact .inl e; exact .inr (.inl e)), h4, fun g e => .inl e⟩
theorem bt_rowp {a : Option Addr} {l c : Nat} (h : BT W B n u v eb et) (hn : n ≤ 100000) (hl : et.length ≤ 100000) :
    Calls Tryd.prog 13 #[.pointer (some ⟨B, 0, none⟩), .slice a l c] W fun e w' => e = .returned (.tuple #[]) ∧ ∃ v', BT w' B (n + 1) u v' eb (et ++ [(.slice a l c, n + 1)]) ∧ Pgs B W u v w' u v' := by
  refine (bt_row h hn hl).mono ?_
  rintro e w' ⟨rfl, u', h1, h2, h3, h4⟩
  exact ⟨rfl, u', h1, h2, kp_mono h3 (fun g e => by rcases e with e | e; exact .inl e; exact .inr (.inr e)), fun g e => .inl e, h4⟩
theorem bt_int {s : Bool} {a : Option Addr} {l c : Nat} (h : BT W B n u v eb et) (hn : n ≤ 100000) (hl : eb.length ≤ 100000) :
    Calls Tryd.prog 55 #[.pointer (some ⟨B, 0, none⟩), .agg #[.bool s, .slice a l c]] W fun e w' => e = .returned (.tuple #[]) ∧ ∃ u', BT w' B (n + 1) u' v (eb ++ [(.slice a l c, n + 1)]) et ∧ Pgs B W u v w' u' v := by
  have hlt := h.lt
  have k := Lib.hid (bt_natp (a := a) (l := l) (c := c) (h.up (.cells #[.bool s, .slice a l c] 45)) hn hl)
  have P0 := Lib.hid (Pgs.alloc (u := u) (v := v) (Nat.le_of_lt hlt) (.cells #[.bool s, .slice a l c] 45))
  clear h hn hl
  go_enter Tryd.func55, Tryd.ntmps55
  go_wp2_with (go_at_call 56; refine k.out.mono ?_; rintro e w' ⟨rfl, u', q1, q2⟩)
  go_end0
  exact ⟨rfl, u', q1, P0.out.trans q2⟩
theorem bt_rat {s : Bool} {a a2 : Option Addr} {l c l2 c2 : Nat} (h : BT W B n u v eb et) (hn : n + 1 ≤ 100000) (hl : eb.length + 1 ≤ 100000) :
    Calls Tryd.prog 12 #[.pointer (some ⟨B, 0, none⟩), .agg #[.bool s, .slice a l c, .slice a2 l2 c2]] W fun e w' => e = .returned (.tuple #[]) ∧ ∃ u', BT w' B (n + 2) u' v (eb ++ [(.slice a l c, n + 1), (.slice a2 l2 c2, n + 2)]) et ∧ Pgs B W u v w' u' v := by
  have hlt := h.lt
  have k := Lib.hid (bt_int (s := s) (a := a) (l := l) (c := c) (h.up (.cells #[.bool s, .slice a l c, .slice a2 l2 c2] 47)) (by omega) (by omega))
  have P0 := Lib.hid (Pgs.alloc (u := u) (v := v) (Nat.le_of_lt hlt) (.cells #[.bool s, .slice a l c, .slice a2 l2 c2] 47))
  have KS := Lib.hid (show ∀ w1 u1, Pgs B (W.alloc (.cells #[.bool s, .slice a l c, .slice a2 l2 c2] 47)) u v w1 u1 v → w1.cell? ⟨W.heap.size, 2, none⟩ = some (.slice a2 l2 c2) from fun w1 u1 p => by
    rw [kp_cells p.kp (by simp) (fun e => by
      rcases e with e | e | e
      · omega
      · have := (h.bu _ e).2; omega
      · have := (h.bv _ e).2; omega) 2]
    rw [World.cell?_alloc_new]; rfl)
  have k2 := Lib.hid (show ∀ w1 u1, BT w1 B (n + 1) u1 v (eb ++ [(.slice a l c, n + 1)]) et → Calls Tryd.prog 56 #[.pointer (some ⟨B, 0, none⟩), .slice a2 l2 c2] w1 fun e w' => e = .returned (.tuple #[]) ∧ ∃ u', BT w' B (n + 2) u' v (eb ++ [(.slice a l c, n + 1), (.slice a2 l2 c2, n + 2)]) et ∧ Pgs B w1 u1 v w' u' v from fun w1 u1 q => by
    have := bt_natp (a := a2) (l := l2) (c := c2) q hn (by simpa using hl)
    rw [List.append_assoc] at this
    exact this)
  clear h hn hl
  go_enter Tryd.func12, Tryd.ntmps12
  go_wp2_with (first
    | (go_at_call 55; refine k.out.mono ?_; rintro e w1 ⟨rfl, u1, q1, q2⟩; have z2 := KS.out _ _ q2; have Q1 := Lib.hid q1; have Q2 := Lib.hid q2; clear q1 q2)
    | (go_at_call 56; refine (k2.out _ _ Q1.out).mono ?_; rintro e w2 ⟨rfl, u2, q3, q4⟩))
  go_end0
  exact ⟨rfl, u2, q3, (P0.out.trans Q2.out).trans q4⟩
/-- what a row of fractions tells the book -/
def tolds (x y : Nat → Value) (n : Nat) : Nat → List (Value × Nat)
  | 0 => []
  | k + 1 => tolds x y n k ++ [(x k, n + 2 * k + 1), (y k, n + 2 * k + 2)]
theorem tolds_len (x y : Nat → Value) (n : Nat) : ∀ k, (tolds x y n k).length = 2 * k
  | 0 => rfl
  | k + 1 => by rw [tolds, List.length_append, tolds_len x y n k]; simp; omega
/-- a row whose fractions are read -/
def RowR (W : World) (a : Option Addr) (l c : Nat) (s : Nat → Bool) (xa ya : Nat → Option Addr) (xl xc yl yc : Nat → Nat) (bad : Nat → Prop) : Prop :=
  0 < l → ∃ b off, a = some ⟨b, off, none⟩ ∧ l ≤ c ∧ b < W.heap.size ∧ ¬ bad b ∧ ∀ k, k < l → W.cell? ⟨b, off + k * 3, none⟩ = some (.bool (s k)) ∧ W.cell? ⟨b, off + k * 3 + 1, none⟩ = some (.slice (xa k) (xl k) (xc k)) ∧ W.cell? ⟨b, off + k * 3 + 2, none⟩ = some (.slice (ya k) (yl k) (yc k))
set_option maxHeartbeats 2000000 in
theorem bt_rats {a : Option Addr} {l c : Nat} {s : Nat → Bool} {xa ya : Nat → Option Addr} {xl xc yl yc : Nat → Nat} (h : BT W B n u v eb et) (hn : n + 2 * l ≤ 100000) (hl : eb.length + 2 * l ≤ 100000) (hl2 : et.length ≤ 100000)
    (hr : RowR W a l c s xa ya xl xc yl yc (fun b => b = B ∨ u.ownBlock = some b ∨ v.ownBlock = some b)) :
    Calls Tryd.prog 7 #[.pointer (some ⟨B, 0, none⟩), .slice a l c] W fun e w' => e = .returned (.tuple #[]) ∧ ∃ u' v', BT w' B (n + 2 * l + 1) u' v' (eb ++ tolds (fun k => .slice (xa k) (xl k) (xc k)) (fun k => .slice (ya k) (yl k) (yc k)) n l) (et ++ [(.slice a l c, n + 2 * l + 1)]) ∧ Pgs B W u v w' u' v' := by
  obtain ⟨X, hX⟩ : ∃ X : Nat → Value, X = fun k => .slice (xa k) (xl k) (xc k) := ⟨_, rfl⟩
  obtain ⟨Y, hY⟩ : ∃ Y : Nat → Value, Y = fun k => .slice (ya k) (yl k) (yc k) := ⟨_, rfl⟩
  rw [← hX, ← hY]
  have HX := Lib.hid hX
  have HY := Lib.hid hY
  have H := Lib.hid h
  have HR := Lib.hid hr
  have HL2 := Lib.hid hl2
  clear h hr hX hY hl2
  go_enter Tryd.func7, Tryd.ntmps7
  go_wp2
  go_loopg [4] l (fun g q wr => ∃ (k : Nat) (u' : Value), k + g = l ∧ q = .int .i64 (k : Int) ∧ Hid (BT wr B (n + 2 * k) u' v (eb ++ tolds X Y n k) et) ∧ Hid (Pgs B W u v wr u' v))
  case atStart => exact ⟨0, u, by omega, rfl, Lib.hid (by have := H.out; simpa [tolds] using this), Lib.hid Pgs.refl⟩
  case round =>
    obtain ⟨k, u1, hk, rfl, HB, HP⟩ := hrel
    by_cases hlt : k < l
    · obtain ⟨b, off, ea, hlc, hbs, hnb, hc⟩ := HR.out (by omega)
      have EA := Lib.hid ea
      obtain ⟨r0, r1, r2⟩ := hc k hlt
      rw [← kp_cells HP.out.kp hbs hnb] at r0 r1 r2
      have hbs' := Nat.lt_of_lt_of_le hbs HP.out.kp.1
      have KB := Lib.hid (show Calls Tryd.prog 12 #[.pointer (some ⟨B, 0, none⟩), .agg #[.bool (s k), .slice (xa k) (xl k) (xc k), .slice (ya k) (yl k) (yc k)]] wr fun e w' => e = .returned (.tuple #[]) ∧ ∃ u', BT w' B (n + 2 * (k + 1)) u' v (eb ++ tolds X Y n (k + 1)) et ∧ Pgs B wr u1 v w' u' v from by
        have := bt_rat (s := s k) (a := xa k) (l := xl k) (c := xc k) (a2 := ya k) (l2 := yl k) (c2 := yc k) HB.out (by omega) (by rw [List.length_append, tolds_len]; omega)
        rw [List.append_assoc] at this
        rw [HX.out, HY.out] at this ⊢
        exact this)
      obtain ⟨s1, hs1⟩ : ∃ s1, s1 = s k := ⟨_, rfl⟩
      obtain ⟨xa1, hs2⟩ : ∃ s1, s1 = xa k := ⟨_, rfl⟩
      obtain ⟨xl1, hs3⟩ : ∃ s1, s1 = xl k := ⟨_, rfl⟩
      obtain ⟨xc1, hs4⟩ : ∃ s1, s1 = xc k := ⟨_, rfl⟩
      obtain ⟨ya1, hs5⟩ : ∃ s1, s1 = ya k := ⟨_, rfl⟩
      obtain ⟨yl1, hs6⟩ : ∃ s1, s1 = yl k := ⟨_, rfl⟩
      obtain ⟨yc1, hs7⟩ : ∃ s1, s1 = yc k := ⟨_, rfl⟩
      rw [← hs1, ← hs2, ← hs3, ← hs4, ← hs5, ← hs6, ← hs7] at KB
      rw [← hs1] at r0
      rw [← hs2, ← hs3, ← hs4] at r1
      rw [← hs5, ← hs6, ← hs7] at r2
      clear hs1 hs2 hs3 hs4 hs5 hs6 hs7 hc hnb H HB HX HY
      subst ea
      go_wp2_with (go_at_call 12; refine KB.out.mono ?_; rintro e w2 ⟨rfl, u2, q1, q2⟩; have Q1 := Lib.hid q1; have Q2 := Lib.hid q2; clear q1 q2)
      go_roundg (l - (k + 1))
      case measure => omega
      case rel => exact ⟨k + 1, u2, by omega, by simp, Q1, Lib.hid (HP.out.trans Q2.out)⟩
    · obtain rfl : k = l := by omega
      have KB := Lib.hid (bt_rowp (a := a) (l := k) (c := c) HB.out (by omega) HL2.out)
      clear H HB HR
      go_wp2_with (go_at_call 13; refine KB.out.mono ?_; rintro e w2 ⟨rfl, v2, q1, q2⟩)
      go_end0
      exact ⟨rfl, u1, v2, q1, HP.out.trans q2⟩
end
end Go.Proofs.YtkkahghhheameaaDoor
