/- A book of numbers' lists and rows of fractions: its last call. -/
import Derived.Test.YtkkahghhheameaaDoorBkRaL
import Derived.Test.YtkkahghhheameaaDoorBkInL
import Derived.Test.YtkkahghhheameaaDoorBkRaK
import Derived.Test.YtkkahghhheameaaDoorBkInK
import Derived.Test.YtkkahghhheameaaDoorBkC
namespace Go.Proofs.YtkkahghhheameaaDoor
open Go Go.Proofs Go.RowKit Go.Shelf

attribute [local go_sem] Oper.semAt_some
set_option maxRecDepth 100000
set_option linter.unusedVariables false
/-- what lies apart does so later on -/
theorem QLies.later {W0 W1 : World} {base B h N : Nat} {A : Nat → Option Addr} {L C M : Nat → Nat} (D : QLies W0 base B h N A L C M) (hs : W0.heap.size ≤ W1.heap.size) : QLies W1 base B h N A L C M :=
  ⟨D.base, D.up, fun j g hj e => ⟨(D.blk j g hj e).1, (D.blk j g hj e).2.1, Nat.lt_of_lt_of_le (D.blk j g hj e).2.2 hs⟩, D.dis, D.len, D.num, D.few⟩
/-- the lists of both kinds lie apart -/
structure QTwo (hb Nb : Nat) (Ab : Nat → Option Addr) (Lb Cb : Nat → Nat) (ht Nt : Nat) (At : Nat → Option Addr) (Lt Ct : Nat → Nat) : Prop where
  ne : hb ≠ ht
  fb : ∀ i, i < Nb → (Value.slice (Ab i) (Lb i) (Cb i)).ownBlock ≠ some ht
  ft : ∀ j, j < Nt → (Value.slice (At j) (Lt j) (Ct j)).ownBlock ≠ some hb
  dis : ∀ i j g, i < Nb → j < Nt → (Value.slice (Ab i) (Lb i) (Cb i)).ownBlock = some g → (Value.slice (At j) (Lt j) (Ct j)).ownBlock = some g → False
theorem kp_l {a b : World} {R R' : Nat → Prop} (h : Kp a b R) : Kp a b (fun g => R g ∨ R' g) := ⟨h.1, fun g hg hn => h.2 g hg (fun e => hn (.inl e))⟩
theorem kp_r {a b : World} {R R' : Nat → Prop} (h : Kp a b R') : Kp a b (fun g => R g ∨ R' g) := ⟨h.1, fun g hg hn => h.2 g hg (fun e => hn (.inr e))⟩
theorem kp_then {a b c : World} {R : Nat → Prop} (h : Kp a b R) (k : Kp b c R) : Kp a c R := ⟨Nat.le_trans h.1 k.1, fun g hg hn => (k.2 g (Nat.lt_of_lt_of_le hg h.1) hn).trans (h.2 g hg hn)⟩
theorem kp_mono {a b : World} {R R' : Nat → Prop} (h : Kp a b R) (hr : ∀ g, R g → R' g) : Kp a b R' := ⟨h.1, fun g hg hn => h.2 g hg (fun e => hn (hr g e))⟩
section
variable {W0 : World} {base B hb Nb ht Nt S : Nat} {Ab At : Nat → Option Addr} {Lb Cb Mb Lt Ct Mt : Nat → Nat}
theorem QTwo.symm (X : QTwo hb Nb Ab Lb Cb ht Nt At Lt Ct) : QTwo ht Nt At Lt Ct hb Nb Ab Lb Cb := ⟨X.ne.symm, X.ft, X.fb, fun i j g hi hj e1 e2 => X.dis j i g hj hi e2 e1⟩
theorem QTwo.held (X : QTwo hb Nb Ab Lb Cb ht Nt At Lt Ct) (Db : QLies W0 base B hb Nb Ab Lb Cb Mb) (Dt : QLies W0 base B ht Nt At Lt Ct Mt) : ¬ QR hb Nb Ab Lb Cb ht := by
  rintro (e | ⟨j, hj, e⟩)
  · exact X.ne e.symm
  · exact X.fb j hj e
theorem QTwo.lists (X : QTwo hb Nb Ab Lb Cb ht Nt At Lt Ct) (Db : QLies W0 base B hb Nb Ab Lb Cb Mb) (Dt : QLies W0 base B ht Nt At Lt Ct Mt) : ∀ j g, j < Nt → (Value.slice (At j) (Lt j) (Ct j)).ownBlock = some g → ¬ QR hb Nb Ab Lb Cb g := by
  rintro j g hj e (rfl | ⟨i, hi, e2⟩)
  · exact X.ft j hj e
  · exact X.dis i j g hi hj e2 e
theorem QTwo.held' (X : QTwo hb Nb Ab Lb Cb ht Nt At Lt Ct) : ¬ QR hb Nb Ab Lb Cb ht := by
  rintro (e | ⟨j, hj, e⟩)
  · exact X.ne e.symm
  · exact X.fb j hj e
theorem QTwo.lists' (X : QTwo hb Nb Ab Lb Cb ht Nt At Lt Ct) : ∀ j g, j < Nt → (Value.slice (At j) (Lt j) (Ct j)).ownBlock = some g → ¬ QR hb Nb Ab Lb Cb g := by
  rintro j g hj e (rfl | ⟨i, hi, e2⟩)
  · exact X.ft j hj e
  · exact X.dis i j g hi hj e2 e
theorem WLies.later {W1 : World} (D : WLies W0 base B hb Nb Ab Lb Cb Mb) (hs : W0.heap.size ≤ W1.heap.size) : WLies W1 base B hb Nb Ab Lb Cb Mb :=
  ⟨D.base, D.up, fun j g hj e => ⟨(D.blk j g hj e).1, (D.blk j g hj e).2.1, Nat.lt_of_lt_of_le (D.blk j g hj e).2.2 hs⟩, D.dis, D.len, D.num, D.few⟩
theorem qr_lowW (D : WLies W0 base B hb Nb Ab Lb Cb Mb) (hW : W0.heap.size ≤ S) (hS : hb < S) (n : Nat) : ∀ g, S ≤ g → g < n → ¬ QR hb Nb Ab Lb Cb g := by
  rintro g hg _ (rfl | ⟨j, hj, e⟩)
  · omega
  · have := D.blk j g hj e
    have := D.up
    omega
theorem WGrowO.far {W W' w : World} {T HT sz n i S0 : Nat} {PM : World → Nat → Nat → List Value → Prop} {f : Nat → Value} {R : Nat → Prop} (F : WGrowO W0 w T HT sz PM base B hb n Nb f Ab Lb Cb Mb S0 i W) (hk : Kp W W' R) (hB : QBook W' B n f) (hw : Below base w W') (hh : ¬ R hb) (hA : ∀ j g, j < Nb → (Value.slice (Ab j) (Lb j) (Cb j)).ownBlock = some g → ¬ R g) (hS : ∀ g, S0 ≤ g → g < W.heap.size → ¬ R g) (hP : ∀ m n xs, PM W m n xs → PM W' m n xs) : WGrowO W' w T HT sz PM base B hb n Nb f Ab Lb Cb Mb S0 i W' := by
  obtain ⟨G, X, Y, h0, _, h2, _, h4, _, ⟨cur, ht⟩, h5, h6, h7⟩ := F
  refine ⟨G, X, Y, h0, hB, kp_at hk h2 hh, hw, Nat.le_trans h4 hk.1, Kp.refl, ⟨cur, (hk.2 hb (Array.getElem?_eq_some_iff.1 ht).1 hh).trans ht⟩, fun j hj => ⟨kp_rdc hk (h5 j hj).1 (fun g e => hA j g hj e), hP _ _ _ (h5 j hj).2⟩, fun j hj hji => kp_row hk (h6 j hj hji) (fun g e => hA j g hj e), fun j hj hji => ?_⟩
  obtain ⟨r, p, c⟩ := h7 j hj hji
  refine ⟨kp_row hk r (fun g e => ?_), hP _ _ _ p, c⟩
  rcases c g e with h' | h'
  · exact hA j g hj h'
  · exact hS g h' (World.ownsRow.lt r g e).2
theorem qr_low (D : QLies W0 base B hb Nb Ab Lb Cb Mb) (hW : W0.heap.size ≤ S) (hS : hb < S) (n : Nat) : ∀ g, S ≤ g → g < n → ¬ QR hb Nb Ab Lb Cb g := by
  rintro g hg _ (rfl | ⟨j, hj, e⟩)
  · omega
  · have := D.blk j g hj e
    have := D.up
    omega
end
set_option maxHeartbeats 8000000 in
theorem apartIR_kp {w W : World} {base B n hb Nb capb ht Nt capt : Nat} {f : Nat → Value} {Ab At : Nat → Option Addr} {Lb Cb Mb Lt Ct Mt : Nat → Nat} (Db : QLies W base B hb Nb Ab Lb Cb Mb) (Dt : WLies W base B ht Nt At Lt Ct Mt) (X : QTwo hb Nb Ab Lb Cb ht Nt At Lt Ct)
    (hNb : Nb ≤ capb) (hNt : Nt ≤ capt) (hfb : f 2 = .slice (some ⟨hb, 0, none⟩) Nb capb) (hft : f 8 = .slice (some ⟨ht, 0, none⟩) Nt capt) (h0 : ∀ o, o ≠ 2 → o ≠ 8 → f o = .slice none 0 0)
    (Fb : QFill W w 58 1 mkIn base B hb n Nb f Ab Lb Cb Mb 0 0 W) (Ft : WFill W w 47 62 3 (PRat W.heap.size) base B ht n Nt f At Lt Ct Mt 0 0 W) :
    Calls Tryd.prog 8 #[.pointer (some ⟨B, 0, none⟩)] W fun e w' => e = .returned (.bool true) ∧ Below base w w' ∧ Kp W w' (fun g => QR hb Nb Ab Lb Cb g ∨ QR ht Nt At Lt Ct g) := by
  have HDb := Lib.hid Db
  have HDt := Lib.hid Dt
  have HX := Lib.hid X
  have HFb := Lib.hid Fb
  have HFt := Lib.hid Ft
  have b0 := Lib.hid Fb.1
  have Hfb := Lib.hid hfb
  have Hft := Lib.hid hft
  have H0 := Lib.hid h0
  have HB0 := Lib.hid Fb.2.1.lt
  clear Db Dt X Fb Ft hfb hft h0
  go_enter Tryd.func8, Tryd.ntmps8
  go_wp2_with (first
    | (go_at_call 14; go_loud (refine (qe_fillByte b0.out (H0.out 1 (by decide) (by decide))).mono ?_; rintro e w' ⟨rfl, rfl⟩))
    | (go_at_call 15; go_loud (refine (fillIn_any HDb.out hNb Hfb.out HFb.out).mono ?_; rintro e w1 ⟨rfl, q1⟩; have hs1 : W.heap.size ≤ w1.heap.size := q1.2.2.2.1.1; have P1 := Lib.hid q1; have b1 := Lib.hid q1.1; have E1 := Lib.hid (HFt.out.far q1.2.2.2.1 q1.1 q1.2.2.1 HX.out.held' HX.out.lists' (fun _ _ _ p => p.kp q1.2.2.2.1 (fun b h1 h2 => qr_low HDb.out (Nat.le_refl _) HB0.out _ b h1 h2))); have K1 := Lib.hid (show Kp W w1 (fun g => QR hb Nb Ab Lb Cb g ∨ QR ht Nt At Lt Ct g) from kp_l q1.2.2.2.1); clear q1 HFb HFt))
    | (go_at_call 16; go_loud (refine (qe_fillNum b1.out (H0.out 3 (by decide) (by decide))).mono ?_; rintro e w' ⟨rfl, rfl⟩))
    | (go_at_call 17; go_loud (refine (qe_fillBool b1.out (H0.out 4 (by decide) (by decide))).mono ?_; rintro e w' ⟨rfl, rfl⟩))
    | (go_at_call 18; go_loud (refine (qe_fillText b1.out (H0.out 5 (by decide) (by decide))).mono ?_; rintro e w' ⟨rfl, rfl⟩))
    | (go_at_call 19; go_loud (refine (qe_fillToken b1.out (H0.out 6 (by decide) (by decide))).mono ?_; rintro e w' ⟨rfl, rfl⟩))
    | (go_at_call 20; go_loud (refine (qe_fillTenant b1.out (H0.out 7 (by decide) (by decide))).mono ?_; rintro e w' ⟨rfl, rfl⟩))
    | (go_at_call 21; go_loud (refine (fillRa_any hs1 (HDt.out.later (by first | exact Nat.le_refl _ | exact hs1 | exact hs2 | exact hs3 | exact hs4 | exact hs5)) hNt Hft.out E1.out).mono ?_; rintro e w2 ⟨rfl, q2⟩; have hs2 : W.heap.size ≤ w2.heap.size := Nat.le_trans hs1 q2.2.2.2.1.1; have E2 := Lib.hid q2; have b2 := Lib.hid q2.1; have P2 := Lib.hid (P1.out.far q2.2.2.2.1 q2.1 q2.2.2.1 HX.out.symm.held' HX.out.symm.lists'); have HS2 := Lib.hid (And.intro P2.out.2.1.lt q2.2.1.lt); have G2 := Lib.hid (QGrowO.start P2.out); have Hob := Lib.hid P2.out.forms; have K2 := Lib.hid (kp_then K1.out (kp_r q2.2.2.2.1)); clear q2 P1 E1 K1))
    | (go_at_call 22; go_loud (refine (qe_fillVar b2.out (H0.out 9 (by decide) (by decide))).mono ?_; rintro e w' ⟨rfl, rfl⟩))
    | (go_at_call 23; go_loud (refine (qe_fillRow b2.out (H0.out 10 (by decide) (by decide))).mono ?_; rintro e w' ⟨rfl, rfl⟩))
    | (go_at_call 24; go_loud (refine (qe_fillNode b2.out (H0.out 11 (by decide) (by decide))).mono ?_; rintro e w' ⟨rfl, rfl⟩))
    | (go_at_call 25; go_loud (refine (qe_fillJob b2.out (H0.out 12 (by decide) (by decide))).mono ?_; rintro e w' ⟨rfl, rfl⟩))
    | (go_at_call 26; go_loud (refine (qe_growByte b2.out (H0.out 1 (by decide) (by decide))).mono ?_; rintro e w' ⟨rfl, rfl⟩))
    | (go_at_call 27; go_loud (refine (growIn_any (HDb.out.later (by first | exact Nat.le_refl _ | exact hs1 | exact hs2 | exact hs3 | exact hs4 | exact hs5)) Hob.out hNb Hfb.out HS2.out.1 (Nat.le_refl _) G2.out).mono ?_; rintro e w3 ⟨rfl, q3⟩; have P3 := Lib.hid q3; obtain ⟨G, -, q3b, -, q3w, q3s, q3k, -⟩ := q3; have E3 := Lib.hid (E2.out.far q3k q3b q3w HX.out.held' HX.out.lists' (fun _ _ _ p => p.kp q3k (fun b h1 h2 => qr_low HDb.out (Nat.le_refl _) HB0.out _ b h1 h2))); have HS3 := Lib.hid (And.intro (Nat.lt_of_lt_of_le HS2.out.1 q3s) (Nat.lt_of_lt_of_le HS2.out.2 q3s)); have b3 := Lib.hid q3b; have hs3 : W.heap.size ≤ w3.heap.size := Nat.le_trans hs2 q3s; have G3 := Lib.hid (WGrowO.start E3.out); have Hot := Lib.hid E3.out.forms; have K3 := Lib.hid (kp_then K2.out (kp_l q3k)); clear q3b q3w q3s q3k P2 E2 G2 G K2))
    | (go_at_call 28; go_loud (refine (qe_growNum b3.out (H0.out 3 (by decide) (by decide))).mono ?_; rintro e w' ⟨rfl, rfl⟩))
    | (go_at_call 29; go_loud (refine (qe_growBool b3.out (H0.out 4 (by decide) (by decide))).mono ?_; rintro e w' ⟨rfl, rfl⟩))
    | (go_at_call 30; go_loud (refine (qe_growText b3.out (H0.out 5 (by decide) (by decide))).mono ?_; rintro e w' ⟨rfl, rfl⟩))
    | (go_at_call 31; go_loud (refine (qe_growToken b3.out (H0.out 6 (by decide) (by decide))).mono ?_; rintro e w' ⟨rfl, rfl⟩))
    | (go_at_call 32; go_loud (refine (qe_growTenant b3.out (H0.out 7 (by decide) (by decide))).mono ?_; rintro e w' ⟨rfl, rfl⟩))
    | (go_at_call 33; go_loud (refine (growRa_any hs3 (HDt.out.later (by first | exact Nat.le_refl _ | exact hs1 | exact hs2 | exact hs3 | exact hs4 | exact hs5)) Hot.out hNt Hft.out HS3.out.2 (Nat.le_refl _) G3.out).mono ?_; rintro e w4 ⟨rfl, q4⟩; have E4 := Lib.hid q4; obtain ⟨G, _, _, -, q4b, -, q4w, q4s, q4k, -⟩ := q4; have b4 := Lib.hid q4b; have hs4 : W.heap.size ≤ w4.heap.size := Nat.le_trans hs3 q4s; have P4 := Lib.hid (P3.out.far q4k q4b q4w HX.out.symm.held' HX.out.symm.lists' (qr_lowW HDt.out hs2 HS2.out.2 _)); have L4 := Lib.hid (QLook.of (HDb.out.later (by first | exact Nat.le_refl _ | exact hs1 | exact hs2 | exact hs3 | exact hs4 | exact hs5)) P4.out); have K4 := Lib.hid (kp_then K3.out (kp_r q4k)); clear q4b q4w q4s q4k P3 E3 G3 P4 G K3; obtain ⟨G, L4⟩ := L4.out; have L4 := Lib.hid L4))
    | (go_at_call 34; go_loud (refine (qe_growVar b4.out (H0.out 9 (by decide) (by decide))).mono ?_; rintro e w' ⟨rfl, rfl⟩))
    | (go_at_call 35; go_loud (refine (qe_growRow b4.out (H0.out 10 (by decide) (by decide))).mono ?_; rintro e w' ⟨rfl, rfl⟩))
    | (go_at_call 36; go_loud (refine (qe_growNode b4.out (H0.out 11 (by decide) (by decide))).mono ?_; rintro e w' ⟨rfl, rfl⟩))
    | (go_at_call 37; go_loud (refine (qe_growJob b4.out (H0.out 12 (by decide) (by decide))).mono ?_; rintro e w' ⟨rfl, rfl⟩))
    | (go_at_call 38; go_loud (refine (qe_lookByte b4.out (H0.out 1 (by decide) (by decide))).mono ?_; rintro e w' ⟨rfl, rfl⟩))
    | (go_at_call 39; go_loud (refine (lookIn_any (HDb.out.later (by first | exact Nat.le_refl _ | exact hs1 | exact hs2 | exact hs3 | exact hs4 | exact hs5)) hNb Hfb.out L4.out).mono ?_; rintro e w5 ⟨rfl, q5⟩; have b5 := Lib.hid q5.1; have hs5 : W.heap.size ≤ w5.heap.size := Nat.le_trans hs4 q5.2.2.2.2.1.1; have E5 := Lib.hid (E4.out.far q5.2.2.2.2.1 q5.1 q5.2.2.1 HX.out.held' HX.out.lists' (qr_low HDb.out hs3 HS3.out.1 _) (fun _ _ _ p => p.kp q5.2.2.2.2.1 (fun b h1 h2 => qr_low HDb.out (Nat.le_refl _) HB0.out _ b h1 h2))); have L5 := WLook.of (HDt.out.later (by first | exact Nat.le_refl _ | exact hs1 | exact hs2 | exact hs3 | exact hs4 | exact hs5)) E5.out; have K5 := Lib.hid (kp_then K4.out (kp_l q5.2.2.2.2.1)); clear q5 E4 E5 L4 K4; obtain ⟨G5, X5, Y5, L5⟩ := L5; have L5 := Lib.hid L5))
    | (go_at_call 40; go_loud (refine (qe_lookNum b5.out (H0.out 3 (by decide) (by decide))).mono ?_; rintro e w' ⟨rfl, rfl⟩))
    | (go_at_call 41; go_loud (refine (qe_lookBool b5.out (H0.out 4 (by decide) (by decide))).mono ?_; rintro e w' ⟨rfl, rfl⟩))
    | (go_at_call 42; go_loud (refine (qe_lookText b5.out (H0.out 5 (by decide) (by decide))).mono ?_; rintro e w' ⟨rfl, rfl⟩))
    | (go_at_call 43; go_loud (refine (qe_lookToken b5.out (H0.out 6 (by decide) (by decide))).mono ?_; rintro e w' ⟨rfl, rfl⟩))
    | (go_at_call 44; go_loud (refine (qe_lookTenant b5.out (H0.out 7 (by decide) (by decide))).mono ?_; rintro e w' ⟨rfl, rfl⟩))
    | (go_at_call 45; go_loud (refine (lookRa_any (HDt.out.later (by first | exact Nat.le_refl _ | exact hs1 | exact hs2 | exact hs3 | exact hs4 | exact hs5)) hNt Hft.out L5.out).mono ?_; rintro e w6 ⟨rfl, q6⟩; have b6 := Lib.hid q6.1; have b6w := Lib.hid q6.2.2.1; have K6 := Lib.hid (kp_then K5.out (kp_r q6.2.2.2.2.1)); clear q6 L5 K5))
    | (go_at_call 46; go_loud (refine (qe_lookVar b6.out (H0.out 9 (by decide) (by decide))).mono ?_; rintro e w' ⟨rfl, rfl⟩))
    | (go_at_call 47; go_loud (refine (qe_lookRow b6.out (H0.out 10 (by decide) (by decide))).mono ?_; rintro e w' ⟨rfl, rfl⟩))
    | (go_at_call 48; go_loud (refine (qe_lookNode b6.out (H0.out 11 (by decide) (by decide))).mono ?_; rintro e w' ⟨rfl, rfl⟩))
    | (go_at_call 49; go_loud (refine (qe_lookJob b6.out (H0.out 12 (by decide) (by decide))).mono ?_; rintro e w' ⟨rfl, rfl⟩))
    | fail)
  go_ret
  exact ⟨rfl, b6w.out, K6.out⟩
end Go.Proofs.YtkkahghhheameaaDoor
