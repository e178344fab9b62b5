/- Fractions: the law package's alive. -/
import Derived.Deep.RegionHeld3
import Derived.Test.YthnlmjnfdokdbaaGreatDoorGRatLaw
import Derived.Test.YthnlmjnfdokdbaaGreatDoorGRatCmp
set_option linter.unusedSimpArgs false
set_option linter.unusedVariables false
namespace Go.Proofs.YthnlmjnfdokdbaaGreatDoor
open Go Go.Proofs Go.RowKit Go.Shelf Nu

attribute [local go_sem] Oper.semAt_some

theorem rcan_small {s : Bool} {L D : List Nat} {X : Rat} (h : RCan s L D X) (h1 : X.num.natAbs < 18446744073709551616) (h2 : X.den < 18446744073709551616) : L.length ≤ 2 ∧ D.length ≤ 2 := by
  obtain ⟨⟨_, rfl⟩, rfl⟩ := h
  exact ⟨len64 h1, len64 h2⟩
theorem digs_of {l : List Nat} (hs : Sm l) (hc : chk l = true) {n : Nat} (h : val l = n) : digs n = l := by rw [← h]; exact digs_val hs hc
theorem sm_one {x : Nat} (h : x < 4294967296) : Sm [x] := Sm.cons h Sm.nil
theorem cell_one {W : World} {b o c x : Nat} (g : Reads W (.slice (some ⟨b, o, none⟩) 1 c) [x]) : W.cell? ⟨b, o, none⟩ = some (.int .u32 x) := by
  rcases g with ⟨h, _⟩ | ⟨b', off, cap, e, _, _, hc⟩ | ⟨_, _, h⟩
  · cases h
  · cases e; simpa using hc 0 (by simp)
  · cases h
theorem q_back {W : World} {s : Bool} {L : List Nat} {p : Option Addr} {q : Nat} (X : Int) (hX : Can s L X) (g : Reads W (.slice p L.length q) L) (l1 : -9223372036854775808 ≤ X) (l2 : X ≤ 9223372036854775807) :
    Calls Tryz.prog 137 #[.agg #[.bool s, .slice p L.length q]] W fun e w' => e = .returned (.tuple #[.int .i64 X, .int .i64 0]) ∧ Below W.heap.size W w' := by
  obtain ⟨rfl, rfl⟩ := hX
  exact i_back X g l1 l2
theorem kx_can : RCan true [3] [2] (((6 : Int) : Rat) / ((-4 : Int) : Rat)) := by
  refine ⟨⟨by decide +kernel, ?_⟩, ?_⟩
  · rw [show ((((6 : Int) : Rat) / ((-4 : Int) : Rat)) : Rat).num.natAbs = 3 by decide +kernel]
    exact (digs_of (sm_one (by decide)) (by decide) (by decide)).symm
  · rw [show ((((6 : Int) : Rat) / ((-4 : Int) : Rat)) : Rat).den = 2 by decide +kernel]
    exact (digs_of (sm_one (by decide)) (by decide) (by decide)).symm
theorem lof_x (w : World) : Calls Tryz.prog 46 #[.int .i64 6, .int .i64 (-4)] w fun e w' => ∃ b o c b' o' c', e = .returned (.agg #[.bool true, .slice (some ⟨b, o, none⟩) 1 c, .slice (some ⟨b', o', none⟩) 1 c']) ∧ Reads w' (.slice (some ⟨b, o, none⟩) 1 c) [3] ∧ Reads w' (.slice (some ⟨b', o', none⟩) 1 c') [2] ∧ Below w.heap.size w w' := by
  refine (r_lof 6 (-4) w kx_can rfl (by decide) (by decide) (by decide) (by decide) (by decide)).mono ?_
  rintro e w' ⟨a, c, a', c', rfl, g, g', rr⟩
  obtain ⟨b, o, h1, _⟩ := g.addr
  obtain ⟨b', o', h2, _⟩ := g'.addr
  obtain ⟨rfl, _⟩ := h1 (by decide)
  obtain ⟨rfl, _⟩ := h2 (by decide)
  exact ⟨b, o, c, b', o', c', rfl, g, g', rr⟩
theorem reads_new (W : World) (x : Nat) : Reads (W.alloc (.cells #[.int .u32 x] 64)) (.slice (some ⟨W.heap.size, 0, none⟩) 1 1) [x] := by
  refine .inr (.inl ⟨W.heap.size, 0, 1, rfl, by simp, by simp, fun j hj => ?_⟩)
  have : j = 0 := by simpa using hj
  subst this
  unfold World.cell?
  rw [World.alloc_heap_new]
  rfl
theorem cell_al {W : World} {a : Addr} {v : Value} (o : Obj) (h : W.cell? a = some v) : (W.alloc o).cell? a = some v := by
  rw [World.cell?_alloc_some _ _ _ (by rw [h]; rfl)]
  exact h
theorem cell_three {W : World} {b o c : Nat} (g : Reads W (.slice (some ⟨b, o, none⟩) 1 c) [3]) : W.cell? ⟨b, o, none⟩ = some (.int .u32 3) := cell_one g
theorem cell_two {W : World} {b o c : Nat} (g : Reads W (.slice (some ⟨b, o, none⟩) 1 c) [2]) : W.cell? ⟨b, o, none⟩ = some (.int .u32 2) := cell_one g
theorem al_below (W : World) (o : Obj) : Below W.heap.size W (W.alloc o) := (Below.refl _ _).alloc (Nat.le_refl _) _
theorem rchk_bad2 (w : World) : Calls Tryz.prog 36 #[.agg #[.bool false, .slice (some ⟨w.heap.size + 1, 0, none⟩) 1 1, .slice (some ⟨w.heap.size, 0, none⟩) 1 1]] ((w.alloc (.cells #[.int .u32 4] 64)).alloc (.cells #[.int .u32 2] 64)) fun e w' => e = .returned (.bool false) ∧ Below w.heap.size w w' := by
  have g1 := (reads_new w 4).below (al_below _ (.cells #[.int .u32 ((2 : Nat) : Int)] 64))
  have g2 := reads_new (w.alloc (.cells #[.int .u32 ((4 : Nat) : Int)] 64)) 2
  rw [World.size_alloc] at g2
  have k := rcheck_any (n := false) (l := [2]) (d := [4]) g2 g1 (sm_one (by decide)) (sm_one (by decide)) (by decide) (by decide)
  rw [show rchk false [2] [4] = false by decide +kernel] at k
  refine k.mono ?_
  rintro e w' ⟨rfl, rr⟩
  exact ⟨rfl, (((Below.refl _ w).alloc (Nat.le_refl _) _).alloc (by simp) _).trans (rr.mono (by simp <;> omega))⟩
theorem rchk_bad (w : World) : Calls Tryz.prog 36 #[.agg #[.bool false, .slice (some ⟨w.heap.size, 0, none⟩) 1 1, .slice (some ⟨w.heap.size + 1, 0, none⟩) 1 1]] ((w.alloc (.cells #[.int .u32 2] 64)).alloc (.cells #[.int .u32 4] 64)) fun e w' => e = .returned (.bool false) ∧ Below w.heap.size w w' := by
  have g1 := (reads_new w 2).below ((Below.refl _ (w.alloc (.cells #[.int .u32 ((2 : Nat) : Int)] 64))).alloc (Nat.le_refl _) (.cells #[.int .u32 ((4 : Nat) : Int)] 64))
  have g2 := reads_new (w.alloc (.cells #[.int .u32 ((2 : Nat) : Int)] 64)) 4
  rw [World.size_alloc] at g2
  have k := rcheck_any (n := false) (l := [2]) (d := [4]) g1 g2 (sm_one (by decide)) (sm_one (by decide)) (by decide) (by decide)
  rw [show rchk false [2] [4] = false by decide +kernel] at k
  refine k.mono ?_
  rintro e w' ⟨rfl, rr⟩
  exact ⟨rfl, (((Below.refl _ w).alloc (Nat.le_refl _) _).alloc (by simp) _).trans (rr.mono (by simp <;> omega))⟩

theorem txt_half : (⟨#[45, 49, 47, 50]⟩ : ByteArray) = rtxt (((-1 : Int) : Rat) / ((2 : Int) : Rat)) := by
  unfold rtxt
  rw [if_neg (by decide +kernel), show ((((-1 : Int) : Rat) / ((2 : Int) : Rat)) : Rat).num = -1 by decide +kernel, show ((((-1 : Int) : Rat) / ((2 : Int) : Rat)) : Rat).den = 2 by decide +kernel]
  decide +kernel
theorem held_put (l : List Value) (d : List Deferred) (i : Nat) (v : Value) : Act.put { tmps := l.toArray, defers := d } (some i) v = { tmps := (l.set i v).toArray, defers := d } := by
  simp [Act.put]

set_option maxRecDepth 100000 in
set_option maxHeartbeats 16000000 in
theorem r_alive (w : World) : Calls Tryz.prog 44 #[] w fun e w' => e = .returned (.bool true) ∧ Below w.heap.size w w' := by
  have M := Mem.start w
  obtain ⟨s1, L1, c1⟩ := Can.ex (1 : Int)
  obtain ⟨s0, L0, c0⟩ := Can.ex (0 : Int)
  have b1 := can_len64 c1 (by decide) (by decide)
  have b0 := can_len64 c0 (by decide) (by decide)
  obtain ⟨sV, LV, cV⟩ := Can.ex (-4 : Int)
  obtain ⟨sA, LA, DA, cA⟩ := RCan.ex ((((1 : Int) : Rat) / ((2 : Int) : Rat)))
  have bA : LA.length ≤ 2 ∧ DA.length ≤ 2 := rcan_small cA (by decide +kernel) (by decide +kernel)
  obtain ⟨sB, LB, DB, cB⟩ := RCan.ex ((((-2 : Int) : Rat) / ((1 : Int) : Rat)))
  have bB : LB.length ≤ 2 ∧ DB.length ≤ 2 := rcan_small cB (by decide +kernel) (by decide +kernel)
  obtain ⟨sC, LC, DC, cC⟩ := RCan.ex ((((1 : Int) : Rat) / ((1 : Int) : Rat)))
  have bC : LC.length ≤ 2 ∧ DC.length ≤ 2 := rcan_small cC (by decide +kernel) (by decide +kernel)
  obtain ⟨sZ, LZ, DZ, cZ⟩ := RCan.ex ((((0 : Int) : Rat) / ((1 : Int) : Rat)))
  have bZ : LZ.length ≤ 2 ∧ DZ.length ≤ 2 := rcan_small cZ (by decide +kernel) (by decide +kernel)
  obtain ⟨sE, LE, DE, cE⟩ := RCan.ex ((((-7 : Int) : Rat) / ((2 : Int) : Rat)))
  have bE : LE.length ≤ 2 ∧ DE.length ≤ 2 := rcan_small cE (by decide +kernel) (by decide +kernel)
  obtain ⟨sF, LF, DF, cF⟩ := RCan.ex ((((-1 : Int) : Rat) / ((4 : Int) : Rat)))
  have bF : LF.length ≤ 2 ∧ DF.length ≤ 2 := rcan_small cF (by decide +kernel) (by decide +kernel)
  obtain ⟨sG, LG, DG, cG⟩ := RCan.ex ((((1 : Int) : Rat) / ((3 : Int) : Rat)))
  have bG : LG.length ≤ 2 ∧ DG.length ≤ 2 := rcan_small cG (by decide +kernel) (by decide +kernel)
  obtain ⟨sH, LH, DH, cH⟩ := RCan.ex ((((5 : Int) : Rat) / ((6 : Int) : Rat)))
  have bH : LH.length ≤ 2 ∧ DH.length ≤ 2 := rcan_small cH (by decide +kernel) (by decide +kernel)
  obtain ⟨sI, LI, DI, cI⟩ := RCan.ex ((((-1 : Int) : Rat) / ((2 : Int) : Rat)))
  have bI : LI.length ≤ 2 ∧ DI.length ≤ 2 := rcan_small cI (by decide +kernel) (by decide +kernel)
  obtain ⟨sK, LK, DK, cK⟩ := RCan.ex ((((-25 : Int) : Rat) / ((2 : Int) : Rat)))
  have bK : LK.length ≤ 2 ∧ DK.length ≤ 2 := rcan_small cK (by decide +kernel) (by decide +kernel)
  obtain ⟨sR, LR, DR, cR⟩ := RCan.ex ((((3 : Int) : Rat) / ((2 : Int) : Rat)))
  have bR : LR.length ≤ 2 ∧ DR.length ≤ 2 := rcan_small cR (by decide +kernel) (by decide +kernel)
  obtain ⟨sT, LT, DT, cT⟩ := RCan.ex ((((1 : Int) : Rat) / ((2 : Int) : Rat)))
  have bT : LT.length ≤ 2 ∧ DT.length ≤ 2 := rcan_small cT (by decide +kernel) (by decide +kernel)
  obtain ⟨sQ, LQ, DQ, cQ⟩ := RCan.ex ((((1 : Int) : Rat) / ((2 : Int) : Rat)) / (((-2 : Int) : Rat) / ((1 : Int) : Rat)))
  have bQ : LQ.length ≤ 2 ∧ DQ.length ≤ 2 := rcan_small cQ (by decide +kernel) (by decide +kernel)
  obtain ⟨sS, LS, DS, cS⟩ := RCan.ex ((((1 : Int) : Rat) / ((2 : Int) : Rat)) + (((1 : Int) : Rat) / ((3 : Int) : Rat)))
  have bS : LS.length ≤ 2 ∧ DS.length ≤ 2 := rcan_small cS (by decide +kernel) (by decide +kernel)
  obtain ⟨sJ, LJ, DJ, cJ⟩ := RCan.ex (((-1250 : Rat) / 100))
  have bJ : LJ.length ≤ 2 ∧ DJ.length ≤ 2 := rcan_small cJ (by decide +kernel) (by decide +kernel)
  obtain ⟨sP, LP, DP, cP⟩ := RCan.ex (((6 : Rat) / 4))
  have bP : LP.length ≤ 2 ∧ DP.length ≤ 2 := rcan_small cP (by decide +kernel) (by decide +kernel)
  have tok16 : True := trivial
  have tok17 : True := trivial
  have tok18 : True := trivial
  have tok19 : True := trivial
  have tok20 : True := trivial
  have tok21 : True := trivial
  have tok22 : True := trivial
  have tok23 : True := trivial
  have tok24 : True := trivial
  have tok25 : True := trivial
  have tok26 : True := trivial
  have tok27 : True := trivial
  have tok28 : True := trivial
  have tok29 : True := trivial
  have tok30 : True := trivial
  have k1 := fun (W : World) => q_of (W := W) 1 c1 (by decide) (by decide)
  have k2 := fun (W : World) => q_of (W := W) 0 c0 (by decide) (by decide)
  have k3 := fun (W : World) {a b : Option Addr} {c d : Nat} (g1 : Reads W (.slice a L1.length c) L1) (g2 : Reads W (.slice b L0.length d) L0) => r_make_zero c1 c0 rfl (by omega) (by omega) g1 g2
  have k4 := fun (W : World) => r_lof (1) (2) W cA rfl (by decide) (by decide) (by decide) (by decide) (by decide)
  have k5 := fun (W : World) => r_lof (-2) (1) W cB rfl (by decide) (by decide) (by decide) (by decide) (by decide)
  have k6 := fun (W : World) {a1 o1 : Option Addr} {e1 f1 : Nat} {a2 o2 : Option Addr} {e2 f2 : Nat} (g1 : Reads W (.slice a1 LA.length e1) LA) (h1 : Reads W (.slice o1 DA.length f1) DA) (g2 : Reads W (.slice a2 LB.length e2) LB) (h2 : Reads W (.slice o2 DB.length f2) DB) => r_div_ok cA cB (by decide +kernel) cQ rfl (by omega) (by omega) (by omega) (by omega) g1 h1 g2 h2
  have k7 := fun (W : World) => r_lof (1) (1) W cC rfl (by decide) (by decide) (by decide) (by decide) (by decide)
  have k8 := fun (W : World) => r_lof (0) (1) W cZ rfl (by decide) (by decide) (by decide) (by decide) (by decide)
  have k9 := fun (W : World) {a1 o1 : Option Addr} {e1 f1 : Nat} {a2 o2 : Option Addr} {e2 f2 : Nat} (g1 : Reads W (.slice a1 LC.length e1) LC) (h1 : Reads W (.slice o1 DC.length f1) DC) (g2 : Reads W (.slice a2 LZ.length e2) LZ) (h2 : Reads W (.slice o2 DZ.length f2) DZ) => r_div_zero cC cZ (by decide +kernel) (by omega) (by omega) (by omega) (by omega) g1 h1 g2 h2
  have k10 := fun (W : World) => pa_a W
  have k11 := fun (W : World) => pa_b W
  have k12 := fun (W : World) => lof_x W
  have k13 := fun (W : World) => r_lof (-7) (2) W cE rfl (by decide) (by decide) (by decide) (by decide) (by decide)
  have k14 := fun (W : World) {a1 o1 : Option Addr} {e1 f1 : Nat} (g1 : Reads W (.slice a1 LE.length e1) LE) (h1 : Reads W (.slice o1 DE.length f1) DE) => r_floor cE.is (s := sV) (L := LV) (by rw [show ((((-7 : Int) : Rat) / ((2 : Int) : Rat)) : Rat).floor = -4 by decide +kernel]; exact cV) (by omega) (by omega) g1 h1
  have k15 := fun (W : World) {a : Option Addr} {c : Nat} (g : Reads W (.slice a LV.length c) LV) => q_back (-4) cV g (by decide) (by decide)
  have k16 := fun (W : World) => r_lof (-1) (4) W cF rfl (by decide) (by decide) (by decide) (by decide) (by decide)
  have k17 := fun (W : World) {a1 o1 : Option Addr} {e1 f1 : Nat} {a2 o2 : Option Addr} {e2 f2 : Nat} (g1 : Reads W (.slice a1 LQ.length e1) LQ) (h1 : Reads W (.slice o1 DQ.length f1) DQ) (g2 : Reads W (.slice a2 LF.length e2) LF) (h2 : Reads W (.slice o2 DF.length f2) DF) => r_same true cQ cF (by decide +kernel) (by omega) (by omega) (by omega) (by omega) g1 h1 g2 h2
  have k18 := fun (W : World) => r_lof (1) (2) W cT rfl (by decide) (by decide) (by decide) (by decide) (by decide)
  have k19 := fun (W : World) => r_lof (1) (3) W cG rfl (by decide) (by decide) (by decide) (by decide) (by decide)
  have k20 := fun (W : World) {a1 o1 : Option Addr} {e1 f1 : Nat} {a2 o2 : Option Addr} {e2 f2 : Nat} (g1 : Reads W (.slice a1 LT.length e1) LT) (h1 : Reads W (.slice o1 DT.length f1) DT) (g2 : Reads W (.slice a2 LG.length e2) LG) (h2 : Reads W (.slice o2 DG.length f2) DG) => r_add cT.is cG.is cS rfl (by omega) (by omega) (by omega) (by omega) g1 h1 g2 h2
  have k21 := fun (W : World) => r_lof (5) (6) W cH rfl (by decide) (by decide) (by decide) (by decide) (by decide)
  have k22 := fun (W : World) {a1 o1 : Option Addr} {e1 f1 : Nat} {a2 o2 : Option Addr} {e2 f2 : Nat} (g1 : Reads W (.slice a1 LS.length e1) LS) (h1 : Reads W (.slice o1 DS.length f1) DS) (g2 : Reads W (.slice a2 LH.length e2) LH) (h2 : Reads W (.slice o2 DH.length f2) DH) => r_same true cS cH (by decide +kernel) (by omega) (by omega) (by omega) (by omega) g1 h1 g2 h2
  have k23 := fun (W : World) => r_lof (-1) (2) W cI rfl (by decide) (by decide) (by decide) (by decide) (by decide)
  have k24 := fun (W : World) {a1 o1 : Option Addr} {e1 f1 : Nat} (g1 : Reads W (.slice a1 LI.length e1) LI) (h1 : Reads W (.slice o1 DI.length f1) DI) => r_text ⟨#[45, 49, 47, 50]⟩ cI.is txt_half (by omega) (by omega) g1 h1
  have k25 := fun (W : World) => r_read _ W (fun W => pa_c W cJ)
  have k26 := fun (W : World) => r_lof (-25) (2) W cK rfl (by decide) (by decide) (by decide) (by decide) (by decide)
  have k27 := fun (W : World) {a1 o1 : Option Addr} {e1 f1 : Nat} {a2 o2 : Option Addr} {e2 f2 : Nat} (g1 : Reads W (.slice a1 LJ.length e1) LJ) (h1 : Reads W (.slice o1 DJ.length f1) DJ) (g2 : Reads W (.slice a2 LK.length e2) LK) (h2 : Reads W (.slice o2 DK.length f2) DK) => r_same true cJ cK (by decide +kernel) (by omega) (by omega) (by omega) (by omega) g1 h1 g2 h2
  have k28 := fun (W : World) => r_read _ W (fun W => pa_d W cP)
  have k29 := fun (W : World) => r_lof (3) (2) W cR rfl (by decide) (by decide) (by decide) (by decide) (by decide)
  have k30 := fun (W : World) {a1 o1 : Option Addr} {e1 f1 : Nat} {a2 o2 : Option Addr} {e2 f2 : Nat} (g1 : Reads W (.slice a1 LP.length e1) LP) (h1 : Reads W (.slice o1 DP.length f1) DP) (g2 : Reads W (.slice a2 LR.length e2) LR) (h2 : Reads W (.slice o2 DR.length f2) DR) => r_same true cP cR (by decide +kernel) (by omega) (by omega) (by omega) (by omega) g1 h1 g2 h2
  clear c1 c0 b1 b0 cV cA bA cB bB cC bC cZ bZ cE bE cF bF cG bG cH bH cI bI cK bK cR bR cT bT cQ bQ cS bS cJ bJ cP bP
  go_enter Tryz.func44, Tryz.ntmps44
  go_wp2_with (first
    | (go_at_call 114; refine (k1 _).mono ?_; clear k1; rintro e w1 ⟨x1, y1, rfl, g, rr⟩; have M' := (M.up rr).add g; clear M rr g; have M := M'; clear M')
    | (go_at_call 114; refine (k2 _).mono ?_; clear k2; rintro e w2 ⟨x0, y0, rfl, g, rr⟩; have M' := (M.up rr).add g; clear M rr g; have M := M'; clear M')
    | (go_at_call 27; refine (k3 _ (M.get 1 rfl) (M.get 0 rfl)).mono ?_; clear k3; rintro e w3 ⟨rfl, rr⟩; have M' := (M.up rr).new 27 [.bool false, .slice none 0 0, .slice none 0 0]; clear M rr ; have M := M'; clear M')
    | (go_at_call 46; refine (k4 _).mono ?_; clear k4; rintro e w4 ⟨aA, eA, oA, fA, rfl, g, g', rr⟩; have M' := ((M.up rr).add g).add g'; clear M rr g g'; have M := M'; clear M')
    | (go_at_call 46; refine (k5 _).mono ?_; clear k5; rintro e w5 ⟨aB, eB, oB, fB, rfl, g, g', rr⟩; have M' := ((M.up rr).add g).add g'; clear M rr g g'; have M := M'; clear M')
    | (go_at_call 13; refine (k6 _ (M.get 3 rfl) (M.get 2 rfl) (M.get 1 rfl) (M.get 0 rfl)).mono ?_; clear k6; rintro e w6 ⟨aQ, eQ, oQ, fQ, rfl, g, g', rr⟩; have M' := (((M.up rr).add g).add g').new 27 [.bool sQ, .slice aQ LQ.length eQ, .slice oQ DQ.length fQ]; clear M rr g g'; have M := M'; clear M')
    | (go_at_call 46; refine (k7 _).mono ?_; clear k7; rintro e w7 ⟨aC, eC, oC, fC, rfl, g, g', rr⟩; have M' := ((M.up rr).add g).add g'; clear M rr g g'; have M := M'; clear M')
    | (go_at_call 46; refine (k8 _).mono ?_; clear k8; rintro e w8 ⟨aZ, eZ, oZ, fZ, rfl, g, g', rr⟩; have M' := ((M.up rr).add g).add g'; clear M rr g g'; have M := M'; clear M')
    | (go_at_call 13; refine (k9 _ (M.get 3 rfl) (M.get 2 rfl) (M.get 1 rfl) (M.get 0 rfl)).mono ?_; clear k9; rintro e w9 ⟨rfl, rr⟩; have M' := (M.up rr).new 27 [.bool false, .slice none 0 0, .slice none 0 0]; clear M rr ; have M := M'; clear M')
    | (go_at_call 34; refine (k10 _).mono ?_; clear k10; rintro e w10 ⟨rfl, rr⟩; have M' := (M.up rr).new 27 [.bool false, .slice none 0 0, .slice none 0 0]; clear M rr ; have M := M'; clear M')
    | (go_at_call 34; refine (k11 _).mono ?_; clear k11; rintro e w11 ⟨rfl, rr⟩; have M' := (M.up rr).new 27 [.bool false, .slice none 0 0, .slice none 0 0]; clear M rr ; have M := M'; clear M')
    | (go_at_call 46; refine (k12 _).mono ?_; clear k12; rintro e w12 ⟨bx, ox, cx, bx', ox', cx', rfl, g, g', rr⟩; have M' := (((M.up rr).add g).add g').new 27 [.bool true, .slice (some ⟨bx, ox, none⟩) 1 cx, .slice (some ⟨bx', ox', none⟩) 1 cx']; clear M rr g g'; have M := M'; clear M')
    | (go_at_call 46; refine (k13 _).mono ?_; clear k13; rintro e w13 ⟨aE, eE, oE, fE, rfl, g, g', rr⟩; have M' := ((M.up rr).add g).add g'; clear M rr g g'; have M := M'; clear M')
    | (go_at_call 33; refine (k14 _ (M.get 1 rfl) (M.get 0 rfl)).mono ?_; clear k14; rintro e w14 ⟨aV, eV, rfl, g, rr⟩; have M' := (M.up rr).add g; clear M rr g; have M := M'; clear M')
    | (go_at_call 137; refine (k15 _ (M.get 0 rfl)).mono ?_; clear k15; rintro e w15 ⟨rfl, rr⟩; have M' := M.up rr; clear M rr ; have M := M'; clear M'; have y3 := cell_one (M.get 4 rfl); have y2 := cell_one (M.get 3 rfl); have z0_0 := M.cell 0 rfl 0 rfl; have z0_1 := M.cell 0 rfl 1 rfl; have z0_2 := M.cell 0 rfl 2 rfl; have z4_0 := M.cell 4 rfl 0 rfl; have z4_1 := M.cell 4 rfl 1 rfl; have z4_2 := M.cell 4 rfl 2 rfl))
  have N : Mem w [(w12.heap.size, 27, [.bool true, .slice (some ⟨bx, ox, none⟩) 1 cx, .slice (some ⟨bx', ox', none⟩) 1 cx']), (w6.heap.size, 27, [.bool sQ, .slice aQ LQ.length eQ, .slice oQ DQ.length fQ])] [(.slice (some ⟨bx, ox, none⟩) 1 cx, [3]), (.slice (some ⟨bx', ox', none⟩) 1 cx', [2])] w15 := ((Mem.start' w15 M.below (M.box 0 rfl) (M.at 0 rfl) (M.box 4 rfl) (M.at 4 rfl) (M.ne 0 4 rfl rfl (by decide))).add (M.get 3 rfl)).add (M.get 4 rfl)
  replace N := N.drew
  replace M := M.drew
  dsimp only [List.append]
  refine wp_region_noPanic ?_
  refine wp_region_held_drew (S := (fun W => W.cell? ⟨w12.heap.size, 0, none⟩ = some (.bool true) ∧ W.cell? ⟨w12.heap.size, 1, none⟩ = some (.slice (some ⟨bx, ox, none⟩) 1 cx) ∧ W.cell? ⟨w12.heap.size, 2, none⟩ = some (.slice (some ⟨bx', ox', none⟩) 1 cx') ∧ W.cell? ⟨w6.heap.size, 0, none⟩ = some (.bool sQ) ∧ W.cell? ⟨w6.heap.size, 1, none⟩ = some (.slice aQ LQ.length eQ) ∧ W.cell? ⟨w6.heap.size, 2, none⟩ = some (.slice oQ DQ.length fQ) ∧ W.cell? ⟨bx, ox, none⟩ = some (.int .u32 3) ∧ W.cell? ⟨bx', ox', none⟩ = some (.int .u32 2))) (by as_aux_lemma => kernel_rfl) ?_ (fun hHeld => ?_)
  · try dsimp only
    (first | (have y0_ := N.cell 0 rfl 0 rfl; have y1_ := N.cell 0 rfl 1 rfl; have y2_ := N.cell 0 rfl 2 rfl; have y3_ := N.cell 1 rfl 0 rfl; have y4_ := N.cell 1 rfl 1 rfl; have y5_ := N.cell 1 rfl 2 rfl; have y6_ := cell_three (N.get 0 rfl); have y7_ := cell_two (N.get 1 rfl); first | (with_reducible exact ⟨y0_, y1_, y2_, y3_, y4_, y5_, y6_, y7_⟩) | (with_reducible exact ⟨cell_al _ y0_, cell_al _ y1_, cell_al _ y2_, cell_al _ y3_, cell_al _ y4_, cell_al _ y5_, cell_al _ y6_, cell_al _ y7_⟩) | (with_reducible exact ⟨cell_al _ (cell_al _ y0_), cell_al _ (cell_al _ y1_), cell_al _ (cell_al _ y2_), cell_al _ (cell_al _ y3_), cell_al _ (cell_al _ y4_), cell_al _ (cell_al _ y5_), cell_al _ (cell_al _ y6_), cell_al _ (cell_al _ y7_)⟩)))
  refine wpAnyH_take (i := 0) (oi := ⟨_, _, _, _, _, _⟩) (v := ?_) rfl (by as_aux_lemma => kernel_rfl) (by as_aux_lemma => kernel_rfl) (by as_aux_lemma => kernel_rfl) (fun _ _ _ h => h) (Or.inl ⟨by rfl, ?_⟩) (by assumption) ?_
  rotate_left
  · intro w hSw; (try dsimp only at hSw); (go_simp <;> with_reducible rfl)
  (try dsimp only); (try rw [held_put]); (try dsimp only [List.set_cons_zero, List.set_cons_succ])
  refine wpAnyH_take (i := 1) (oi := ⟨_, _, _, _, _, _⟩) (v := ?_) rfl (by as_aux_lemma => kernel_rfl) (by as_aux_lemma => kernel_rfl) (by as_aux_lemma => kernel_rfl) (fun _ _ _ h => h) (Or.inl ⟨by rfl, ?_⟩) (by assumption) ?_
  rotate_left
  · intro w hSw; (try dsimp only at hSw); (go_simp <;> with_reducible rfl)
  (try dsimp only); (try rw [held_put]); (try dsimp only [List.set_cons_zero, List.set_cons_succ])
  refine wpAnyH_take (i := 2) (oi := ⟨_, _, _, _, _, _⟩) (v := ?_) rfl (by as_aux_lemma => kernel_rfl) (by as_aux_lemma => kernel_rfl) (by as_aux_lemma => kernel_rfl) (fun _ _ _ h => h) (Or.inl ⟨by rfl, ?_⟩) (by assumption) ?_
  rotate_left
  · intro w hSw; (try dsimp only at hSw); (go_simp <;> with_reducible rfl)
  (try dsimp only); (try rw [held_put]); (try dsimp only [List.set_cons_zero, List.set_cons_succ])
  refine wpAnyH_take (i := 3) (oi := ⟨_, _, _, _, _, _⟩) (v := ?_) rfl (by as_aux_lemma => kernel_rfl) (by as_aux_lemma => kernel_rfl) (by as_aux_lemma => kernel_rfl) (fun _ _ _ h => h) (Or.inl ⟨by rfl, ?_⟩) (by assumption) ?_
  rotate_left
  · intro w hSw; (try dsimp only at hSw); (go_simp <;> with_reducible rfl)
  (try dsimp only); (try rw [held_put]); (try dsimp only [List.set_cons_zero, List.set_cons_succ])
  refine wpAnyH_take (i := 4) (oi := ⟨_, _, _, _, _, _⟩) (v := ?_) rfl (by as_aux_lemma => kernel_rfl) (by as_aux_lemma => kernel_rfl) (by as_aux_lemma => kernel_rfl) (fun _ _ _ h => h) (Or.inl ⟨by rfl, ?_⟩) (by assumption) ?_
  rotate_left
  · intro w hSw; (try dsimp only at hSw); (go_simp <;> with_reducible rfl)
  (try dsimp only); (try rw [held_put]); (try dsimp only [List.set_cons_zero, List.set_cons_succ])
  refine wpAnyH_take (i := 5) (oi := ⟨_, _, _, _, _, _⟩) (v := ?_) rfl (by as_aux_lemma => kernel_rfl) (by as_aux_lemma => kernel_rfl) (by as_aux_lemma => kernel_rfl) (fun _ _ _ h => h) (Or.inl ⟨by rfl, ?_⟩) (by assumption) ?_
  rotate_left
  · intro w hSw; (try dsimp only at hSw); (go_simp <;> with_reducible rfl)
  (try dsimp only); (try rw [held_put]); (try dsimp only [List.set_cons_zero, List.set_cons_succ])
  refine wpAnyH_take (i := 6) (oi := ⟨_, _, _, _, _, _⟩) (v := ?_) rfl (by as_aux_lemma => kernel_rfl) (by as_aux_lemma => kernel_rfl) (by as_aux_lemma => kernel_rfl) (fun _ _ _ h => h) (Or.inl ⟨by rfl, ?_⟩) (by assumption) ?_
  rotate_left
  · intro w hSw; (try dsimp only at hSw); (go_simp <;> with_reducible rfl)
  (try dsimp only); (try rw [held_put]); (try dsimp only [List.set_cons_zero, List.set_cons_succ])
  refine wpAnyH_take (i := 7) (oi := ⟨_, _, _, _, _, _⟩) (v := ?_) rfl (by as_aux_lemma => kernel_rfl) (by as_aux_lemma => kernel_rfl) (by as_aux_lemma => kernel_rfl) (fun _ _ _ h => h) (Or.inl ⟨by rfl, ?_⟩) (by assumption) ?_
  rotate_left
  · intro w hSw; (try dsimp only at hSw); (go_simp <;> with_reducible rfl)
  (try dsimp only); (try rw [held_put]); (try dsimp only [List.set_cons_zero, List.set_cons_succ])
  refine wpAnyH_take (i := 8) (oi := ⟨_, _, _, _, _, _⟩) (v := ?_) rfl (by as_aux_lemma => kernel_rfl) (by as_aux_lemma => kernel_rfl) (by as_aux_lemma => kernel_rfl) (fun _ _ _ h => h) (Or.inl ⟨by rfl, ?_⟩) (by assumption) ?_
  rotate_left
  · intro w hSw; (try dsimp only at hSw); (go_simp <;> with_reducible rfl)
  (try dsimp only); (try rw [held_put]); (try dsimp only [List.set_cons_zero, List.set_cons_succ])
  refine wpAnyH_take (i := 9) (oi := ⟨_, _, _, _, _, _⟩) (v := ?_) rfl (by as_aux_lemma => kernel_rfl) (by as_aux_lemma => kernel_rfl) (by as_aux_lemma => kernel_rfl) (fun _ _ _ h => h) (Or.inl ⟨by rfl, ?_⟩) (by assumption) ?_
  rotate_left
  · intro w hSw; (try dsimp only at hSw); (go_simp <;> with_reducible rfl)
  (try dsimp only); (try rw [held_put]); (try dsimp only [List.set_cons_zero, List.set_cons_succ])
  refine wpAnyH_take (i := 10) (oi := ⟨_, _, _, _, _, _⟩) (v := ?_) rfl (by as_aux_lemma => kernel_rfl) (by as_aux_lemma => kernel_rfl) (by as_aux_lemma => kernel_rfl) (fun _ _ _ h => h) (Or.inl ⟨by rfl, ?_⟩) (by assumption) ?_
  rotate_left
  · intro w hSw; (try dsimp only at hSw); (go_simp <;> with_reducible rfl)
  (try dsimp only); (try rw [held_put]); (try dsimp only [List.set_cons_zero, List.set_cons_succ])
  refine wpAnyH_take (i := 11) (oi := ⟨_, _, _, _, _, _⟩) (v := ?_) rfl (by as_aux_lemma => kernel_rfl) (by as_aux_lemma => kernel_rfl) (by as_aux_lemma => kernel_rfl) (fun _ _ _ h => h) (Or.inl ⟨by rfl, ?_⟩) (by assumption) ?_
  rotate_left
  · intro w hSw; (try dsimp only at hSw); (go_simp <;> with_reducible rfl)
  (try dsimp only); (try rw [held_put]); (try dsimp only [List.set_cons_zero, List.set_cons_succ])
  refine wpAnyH_take (i := 12) (oi := ⟨_, _, _, _, _, _⟩) (v := ?_) rfl (by as_aux_lemma => kernel_rfl) (by as_aux_lemma => kernel_rfl) (by as_aux_lemma => kernel_rfl) (fun _ _ _ h => h) (Or.inl ⟨by rfl, ?_⟩) (by assumption) ?_
  rotate_left
  · intro w hSw; (try dsimp only at hSw); (go_simp <;> with_reducible rfl)
  (try dsimp only); (try rw [held_put]); (try dsimp only [List.set_cons_zero, List.set_cons_succ])
  refine wpAnyH_take (i := 13) (oi := ⟨_, _, _, _, _, _⟩) (v := ?_) rfl (by as_aux_lemma => kernel_rfl) (by as_aux_lemma => kernel_rfl) (by as_aux_lemma => kernel_rfl) (fun _ _ _ h => h) (Or.inl ⟨by rfl, ?_⟩) (by assumption) ?_
  rotate_left
  · intro w hSw; (try dsimp only at hSw); (go_simp <;> with_reducible rfl)
  (try dsimp only); (try rw [held_put]); (try dsimp only [List.set_cons_zero, List.set_cons_succ])
  refine wpAnyH_take (i := 14) (oi := ⟨_, _, _, _, _, _⟩) (v := ?_) rfl (by as_aux_lemma => kernel_rfl) (by as_aux_lemma => kernel_rfl) (by as_aux_lemma => kernel_rfl) (fun _ _ _ h => h) (Or.inl ⟨by rfl, ?_⟩) (by assumption) ?_
  rotate_left
  · intro w hSw; (try dsimp only at hSw); (go_simp <;> with_reducible rfl)
  (try dsimp only); (try rw [held_put]); (try dsimp only [List.set_cons_zero, List.set_cons_succ])
  refine wpAnyH_take (i := 15) (oi := ⟨_, _, _, _, _, _⟩) (v := ?_) rfl (by as_aux_lemma => kernel_rfl) (by as_aux_lemma => kernel_rfl) (by as_aux_lemma => kernel_rfl) (fun _ _ _ h => h) (Or.inl ⟨by rfl, ?_⟩) (by assumption) ?_
  rotate_left
  · intro w hSw; (try dsimp only at hSw); (go_simp <;> with_reducible rfl)
  (try dsimp only); (try rw [held_put]); (try dsimp only [List.set_cons_zero, List.set_cons_succ])
  refine wpAnyH_take (i := 16) (oi := ⟨_, _, _, _, _, _⟩) (v := ?_) rfl (by as_aux_lemma => kernel_rfl) (by as_aux_lemma => kernel_rfl) (by as_aux_lemma => kernel_rfl) (fun _ _ _ h => h) (Or.inl ⟨by rfl, ?_⟩) (by assumption) ?_
  rotate_left
  · intro w hSw; (try dsimp only at hSw); (go_simp <;> with_reducible rfl)
  (try dsimp only); (try rw [held_put]); (try dsimp only [List.set_cons_zero, List.set_cons_succ])
  refine wpAnyH_take (i := 17) (oi := ⟨_, _, _, _, _, _⟩) (v := ?_) rfl (by as_aux_lemma => kernel_rfl) (by as_aux_lemma => kernel_rfl) (by as_aux_lemma => kernel_rfl) (fun _ _ _ h => h) (Or.inl ⟨by rfl, ?_⟩) (by assumption) ?_
  rotate_left
  · intro w hSw; (try dsimp only at hSw); (go_simp <;> with_reducible rfl)
  (try dsimp only); (try rw [held_put]); (try dsimp only [List.set_cons_zero, List.set_cons_succ])
  refine wpAnyH_take (i := 18) (oi := ⟨_, _, _, _, _, _⟩) (v := ?_) rfl (by as_aux_lemma => kernel_rfl) (by as_aux_lemma => kernel_rfl) (by as_aux_lemma => kernel_rfl) (fun _ _ _ h => h) (Or.inl ⟨by rfl, ?_⟩) (by assumption) ?_
  rotate_left
  · intro w hSw; (try dsimp only at hSw); (go_simp <;> with_reducible rfl)
  (try dsimp only); (try rw [held_put]); (try dsimp only [List.set_cons_zero, List.set_cons_succ])
  refine wpAnyH_take (i := 19) (oi := ⟨_, _, _, _, _, _⟩) (v := ?_) rfl (by as_aux_lemma => kernel_rfl) (by as_aux_lemma => kernel_rfl) (by as_aux_lemma => kernel_rfl) (fun _ _ _ h => h) (Or.inl ⟨by rfl, ?_⟩) (by assumption) ?_
  rotate_left
  · intro w hSw; (try dsimp only at hSw); (go_simp <;> with_reducible rfl)
  (try dsimp only); (try rw [held_put]); (try dsimp only [List.set_cons_zero, List.set_cons_succ])
  refine wpAnyH_take (i := 20) (oi := ⟨_, _, _, _, _, _⟩) (v := ?_) rfl (by as_aux_lemma => kernel_rfl) (by as_aux_lemma => kernel_rfl) (by as_aux_lemma => kernel_rfl) (fun _ _ _ h => h) (Or.inl ⟨by rfl, ?_⟩) (by assumption) ?_
  rotate_left
  · intro w hSw; (try dsimp only at hSw); (go_simp <;> with_reducible rfl)
  (try dsimp only); (try rw [held_put]); (try dsimp only [List.set_cons_zero, List.set_cons_succ])
  refine wpAnyH_take (i := 21) (oi := ⟨_, _, _, _, _, _⟩) (v := ?_) rfl (by as_aux_lemma => kernel_rfl) (by as_aux_lemma => kernel_rfl) (by as_aux_lemma => kernel_rfl) (fun _ _ _ h => h) (Or.inl ⟨by rfl, ?_⟩) (by assumption) ?_
  rotate_left
  · intro w hSw; (try dsimp only at hSw); (go_simp <;> with_reducible rfl)
  (try dsimp only); (try rw [held_put]); (try dsimp only [List.set_cons_zero, List.set_cons_succ])
  refine wpAnyH_take (i := 22) (oi := ⟨_, _, _, _, _, _⟩) (v := ?_) rfl (by as_aux_lemma => kernel_rfl) (by as_aux_lemma => kernel_rfl) (by as_aux_lemma => kernel_rfl) (fun _ _ _ h => h) (Or.inl ⟨by rfl, ?_⟩) (by assumption) ?_
  rotate_left
  · intro w hSw; (try dsimp only at hSw); (go_simp <;> with_reducible rfl)
  (try dsimp only); (try rw [held_put]); (try dsimp only [List.set_cons_zero, List.set_cons_succ])
  refine wpAnyH_take (i := 23) (oi := ⟨_, _, _, _, _, _⟩) (v := ?_) rfl (by as_aux_lemma => kernel_rfl) (by as_aux_lemma => kernel_rfl) (by as_aux_lemma => kernel_rfl) (fun _ _ _ h => h) (Or.inl ⟨by rfl, ?_⟩) (by assumption) ?_
  rotate_left
  · intro w hSw; (try dsimp only at hSw); (go_simp <;> with_reducible rfl)
  (try dsimp only); (try rw [held_put]); (try dsimp only [List.set_cons_zero, List.set_cons_succ])
  refine wpAnyH_take (i := 24) (oi := ⟨_, _, _, _, _, _⟩) (v := ?_) rfl (by as_aux_lemma => kernel_rfl) (by as_aux_lemma => kernel_rfl) (by as_aux_lemma => kernel_rfl) (fun _ _ _ h => h) (Or.inl ⟨by rfl, ?_⟩) (by assumption) ?_
  rotate_left
  · intro w hSw; (try dsimp only at hSw); (go_simp <;> with_reducible rfl)
  (try dsimp only); (try rw [held_put]); (try dsimp only [List.set_cons_zero, List.set_cons_succ])
  refine wpAnyH_take (i := 25) (oi := ⟨_, _, _, _, _, _⟩) (v := ?_) rfl (by as_aux_lemma => kernel_rfl) (by as_aux_lemma => kernel_rfl) (by as_aux_lemma => kernel_rfl) (fun _ _ _ h => h) (Or.inl ⟨by rfl, ?_⟩) (by assumption) ?_
  rotate_left
  · intro w hSw; (try dsimp only at hSw); (go_simp <;> with_reducible rfl)
  (try dsimp only); (try rw [held_put]); (try dsimp only [List.set_cons_zero, List.set_cons_succ])
  refine wpAnyH_take (i := 26) (oi := ⟨_, _, _, _, _, _⟩) (v := ?_) rfl (by as_aux_lemma => kernel_rfl) (by as_aux_lemma => kernel_rfl) (by as_aux_lemma => kernel_rfl) (fun _ _ _ h => h) (Or.inl ⟨by rfl, ?_⟩) (by assumption) ?_
  rotate_left
  · intro w hSw; (try dsimp only at hSw); (go_simp <;> with_reducible rfl)
  (try dsimp only); (try rw [held_put]); (try dsimp only [List.set_cons_zero, List.set_cons_succ])
  refine wpAnyH_take (i := 27) (oi := ⟨_, _, _, _, _, _⟩) (v := ?_) rfl (by as_aux_lemma => kernel_rfl) (by as_aux_lemma => kernel_rfl) (by as_aux_lemma => kernel_rfl) (fun _ _ _ h => h) (Or.inl ⟨by rfl, ?_⟩) (by assumption) ?_
  rotate_left
  · intro w hSw; (try dsimp only at hSw); (go_simp <;> with_reducible rfl)
  (try dsimp only); (try rw [held_put]); (try dsimp only [List.set_cons_zero, List.set_cons_succ])
  refine wpAnyH_take (i := 28) (oi := ⟨_, _, _, _, _, _⟩) (v := ?_) rfl (by as_aux_lemma => kernel_rfl) (by as_aux_lemma => kernel_rfl) (by as_aux_lemma => kernel_rfl) (fun _ _ _ h => h) (Or.inl ⟨by rfl, ?_⟩) (by assumption) ?_
  rotate_left
  · intro w hSw; (try dsimp only at hSw); (go_simp <;> with_reducible rfl)
  (try dsimp only); (try rw [held_put]); (try dsimp only [List.set_cons_zero, List.set_cons_succ])
  refine wpAnyH_take (i := 29) (oi := ⟨_, _, _, _, _, _⟩) (v := ?_) rfl (by as_aux_lemma => kernel_rfl) (by as_aux_lemma => kernel_rfl) (by as_aux_lemma => kernel_rfl) (fun _ _ _ h => h) (Or.inl ⟨by rfl, ?_⟩) (by assumption) ?_
  rotate_left
  · intro w hSw; (try dsimp only at hSw); (go_simp <;> with_reducible rfl)
  (try dsimp only); (try rw [held_put]); (try dsimp only [List.set_cons_zero, List.set_cons_succ])
  refine wpAnyH_take (i := 30) (oi := ⟨_, _, _, _, _, _⟩) (v := ?_) rfl (by as_aux_lemma => kernel_rfl) (by as_aux_lemma => kernel_rfl) (by as_aux_lemma => kernel_rfl) (fun _ _ _ h => h) (Or.inl ⟨by rfl, ?_⟩) (by assumption) ?_
  rotate_left
  · intro w hSw; (try dsimp only at hSw); (go_simp <;> with_reducible rfl)
  (try dsimp only); (try rw [held_put]); (try dsimp only [List.set_cons_zero, List.set_cons_succ])
  refine wpAnyH_take (i := 31) (oi := ⟨_, _, _, _, _, _⟩) (v := ?_) rfl (by as_aux_lemma => kernel_rfl) (by as_aux_lemma => kernel_rfl) (by as_aux_lemma => kernel_rfl) (fun _ _ _ h => h) (Or.inl ⟨by rfl, ?_⟩) (by assumption) ?_
  rotate_left
  · intro w hSw; (try dsimp only at hSw); (go_simp <;> with_reducible rfl)
  (try dsimp only); (try rw [held_put]); (try dsimp only [List.set_cons_zero, List.set_cons_succ])
  refine wpAnyH_take (i := 32) (oi := ⟨_, _, _, _, _, _⟩) (v := ?_) rfl (by as_aux_lemma => kernel_rfl) (by as_aux_lemma => kernel_rfl) (by as_aux_lemma => kernel_rfl) (fun _ _ _ h => h) (Or.inl ⟨by rfl, ?_⟩) (by assumption) ?_
  rotate_left
  · intro w hSw; (try dsimp only at hSw); (go_simp <;> with_reducible rfl)
  (try dsimp only); (try rw [held_put]); (try dsimp only [List.set_cons_zero, List.set_cons_succ])
  refine wpAnyH_take (i := 33) (oi := ⟨_, _, _, _, _, _⟩) (v := ?_) rfl (by as_aux_lemma => kernel_rfl) (by as_aux_lemma => kernel_rfl) (by as_aux_lemma => kernel_rfl) (fun _ _ _ h => h) (Or.inl ⟨by rfl, ?_⟩) (by assumption) ?_
  rotate_left
  · intro w hSw; (try dsimp only at hSw); (go_simp <;> with_reducible rfl)
  (try dsimp only); (try rw [held_put]); (try dsimp only [List.set_cons_zero, List.set_cons_succ])
  refine wpAnyH_take (i := 34) (oi := ⟨_, _, _, _, _, _⟩) (v := ?_) rfl (by as_aux_lemma => kernel_rfl) (by as_aux_lemma => kernel_rfl) (by as_aux_lemma => kernel_rfl) (fun _ _ _ h => h) (Or.inl ⟨by rfl, ?_⟩) (by assumption) ?_
  rotate_left
  · intro w hSw; (try dsimp only at hSw); (go_simp <;> with_reducible rfl)
  (try dsimp only); (try rw [held_put]); (try dsimp only [List.set_cons_zero, List.set_cons_succ])
  refine wpAnyH_take (i := 35) (oi := ⟨_, _, _, _, _, _⟩) (v := ?_) rfl (by as_aux_lemma => kernel_rfl) (by as_aux_lemma => kernel_rfl) (by as_aux_lemma => kernel_rfl) (fun _ _ _ h => h) (Or.inl ⟨by rfl, ?_⟩) (by assumption) ?_
  rotate_left
  · intro w hSw; (try dsimp only at hSw); (go_simp <;> with_reducible rfl)
  (try dsimp only); (try rw [held_put]); (try dsimp only [List.set_cons_zero, List.set_cons_succ])
  refine wpAnyH_take (i := 36) (oi := ⟨_, _, _, _, _, _⟩) (v := ?_) rfl (by as_aux_lemma => kernel_rfl) (by as_aux_lemma => kernel_rfl) (by as_aux_lemma => kernel_rfl) (fun _ _ _ h => h) (Or.inl ⟨by rfl, ?_⟩) (by assumption) ?_
  rotate_left
  · intro w hSw; (try dsimp only at hSw); (go_simp <;> with_reducible rfl)
  (try dsimp only); (try rw [held_put]); (try dsimp only [List.set_cons_zero, List.set_cons_succ])
  refine wpAnyH_take (i := 37) (oi := ⟨_, _, _, _, _, _⟩) (v := ?_) rfl (by as_aux_lemma => kernel_rfl) (by as_aux_lemma => kernel_rfl) (by as_aux_lemma => kernel_rfl) (fun _ _ _ h => h) (Or.inl ⟨by rfl, ?_⟩) (by assumption) ?_
  rotate_left
  · intro w hSw; (try dsimp only at hSw); (go_simp <;> with_reducible rfl)
  (try dsimp only); (try rw [held_put]); (try dsimp only [List.set_cons_zero, List.set_cons_succ])
  refine wpAnyH_take (i := 38) (oi := ⟨_, _, _, _, _, _⟩) (v := ?_) rfl (by as_aux_lemma => kernel_rfl) (by as_aux_lemma => kernel_rfl) (by as_aux_lemma => kernel_rfl) (fun _ _ _ h => h) (Or.inl ⟨by rfl, ?_⟩) (by assumption) ?_
  rotate_left
  · intro w hSw; (try dsimp only at hSw); (go_simp <;> with_reducible rfl)
  (try dsimp only); (try rw [held_put]); (try dsimp only [List.set_cons_zero, List.set_cons_succ])
  refine wpAnyH_take (i := 39) (oi := ⟨_, _, _, _, _, _⟩) (v := ?_) rfl (by as_aux_lemma => kernel_rfl) (by as_aux_lemma => kernel_rfl) (by as_aux_lemma => kernel_rfl) (fun _ _ _ h => h) (Or.inl ⟨by rfl, ?_⟩) (by assumption) ?_
  rotate_left
  · intro w hSw; (try dsimp only at hSw); (go_simp <;> with_reducible rfl)
  (try dsimp only); (try rw [held_put]); (try dsimp only [List.set_cons_zero, List.set_cons_succ])
  refine wpAnyH_take (i := 40) (oi := ⟨_, _, _, _, _, _⟩) (v := ?_) rfl (by as_aux_lemma => kernel_rfl) (by as_aux_lemma => kernel_rfl) (by as_aux_lemma => kernel_rfl) (fun _ _ _ h => h) (Or.inl ⟨by rfl, ?_⟩) (by assumption) ?_
  rotate_left
  · intro w hSw; (try dsimp only at hSw); (go_simp <;> with_reducible rfl)
  (try dsimp only); (try rw [held_put]); (try dsimp only [List.set_cons_zero, List.set_cons_succ])
  refine wpAnyH_take (i := 41) (oi := ⟨_, _, _, _, _, _⟩) (v := ?_) rfl (by as_aux_lemma => kernel_rfl) (by as_aux_lemma => kernel_rfl) (by as_aux_lemma => kernel_rfl) (fun _ _ _ h => h) (Or.inl ⟨by rfl, ?_⟩) (by assumption) ?_
  rotate_left
  · intro w hSw; (try dsimp only at hSw); (go_simp <;> with_reducible rfl)
  (try dsimp only); (try rw [held_put]); (try dsimp only [List.set_cons_zero, List.set_cons_succ])
  refine wpAnyH_take (i := 42) (oi := ⟨_, _, _, _, _, _⟩) (v := ?_) rfl (by as_aux_lemma => kernel_rfl) (by as_aux_lemma => kernel_rfl) (by as_aux_lemma => kernel_rfl) (fun _ _ _ h => h) (Or.inl ⟨by rfl, ?_⟩) (by assumption) ?_
  rotate_left
  · intro w hSw; (try dsimp only at hSw); (go_simp <;> with_reducible rfl)
  (try dsimp only); (try rw [held_put]); (try dsimp only [List.set_cons_zero, List.set_cons_succ])
  refine wpAnyH_take (i := 43) (oi := ⟨_, _, _, _, _, _⟩) (v := ?_) rfl (by as_aux_lemma => kernel_rfl) (by as_aux_lemma => kernel_rfl) (by as_aux_lemma => kernel_rfl) (fun _ _ _ h => h) (Or.inl ⟨by rfl, ?_⟩) (by assumption) ?_
  rotate_left
  · intro w hSw; (try dsimp only at hSw); (go_simp <;> with_reducible rfl)
  (try dsimp only); (try rw [held_put]); (try dsimp only [List.set_cons_zero, List.set_cons_succ])
  refine wpAnyH_take (i := 44) (oi := ⟨_, _, _, _, _, _⟩) (v := ?_) rfl (by as_aux_lemma => kernel_rfl) (by as_aux_lemma => kernel_rfl) (by as_aux_lemma => kernel_rfl) (fun _ _ _ h => h) (Or.inl ⟨by rfl, ?_⟩) (by assumption) ?_
  rotate_left
  · intro w hSw; (try dsimp only at hSw); (go_simp <;> with_reducible rfl)
  (try dsimp only); (try rw [held_put]); (try dsimp only [List.set_cons_zero, List.set_cons_succ])
  refine wpAnyH_take (i := 45) (oi := ⟨_, _, _, _, _, _⟩) (v := ?_) rfl (by as_aux_lemma => kernel_rfl) (by as_aux_lemma => kernel_rfl) (by as_aux_lemma => kernel_rfl) (fun _ _ _ h => h) (Or.inl ⟨by rfl, ?_⟩) (by assumption) ?_
  rotate_left
  · intro w hSw; (try dsimp only at hSw); (go_simp <;> with_reducible rfl)
  (try dsimp only); (try rw [held_put]); (try dsimp only [List.set_cons_zero, List.set_cons_succ])
  refine wpAnyH_take (i := 46) (oi := ⟨_, _, _, _, _, _⟩) (v := ?_) rfl (by as_aux_lemma => kernel_rfl) (by as_aux_lemma => kernel_rfl) (by as_aux_lemma => kernel_rfl) (fun _ _ _ h => h) (Or.inl ⟨by rfl, ?_⟩) (by assumption) ?_
  rotate_left
  · intro w hSw; (try dsimp only at hSw); (go_simp <;> with_reducible rfl)
  (try dsimp only); (try rw [held_put]); (try dsimp only [List.set_cons_zero, List.set_cons_succ])
  refine wpAnyH_take (i := 47) (oi := ⟨_, _, _, _, _, _⟩) (v := ?_) rfl (by as_aux_lemma => kernel_rfl) (by as_aux_lemma => kernel_rfl) (by as_aux_lemma => kernel_rfl) (fun _ _ _ h => h) (Or.inl ⟨by rfl, ?_⟩) (by assumption) ?_
  rotate_left
  · intro w hSw; (try dsimp only at hSw); (go_simp <;> with_reducible rfl)
  (try dsimp only); (try rw [held_put]); (try dsimp only [List.set_cons_zero, List.set_cons_succ])
  refine wpAnyH_take (i := 48) (oi := ⟨_, _, _, _, _, _⟩) (v := ?_) rfl (by as_aux_lemma => kernel_rfl) (by as_aux_lemma => kernel_rfl) (by as_aux_lemma => kernel_rfl) (fun _ _ _ h => h) (Or.inl ⟨by rfl, ?_⟩) (by assumption) ?_
  rotate_left
  · intro w hSw; (try dsimp only at hSw); (go_simp <;> with_reducible rfl)
  (try dsimp only); (try rw [held_put]); (try dsimp only [List.set_cons_zero, List.set_cons_succ])
  refine wpAnyH_take (i := 49) (oi := ⟨_, _, _, _, _, _⟩) (v := ?_) rfl (by as_aux_lemma => kernel_rfl) (by as_aux_lemma => kernel_rfl) (by as_aux_lemma => kernel_rfl) (fun _ _ _ h => h) (Or.inl ⟨by rfl, ?_⟩) (by assumption) ?_
  rotate_left
  · intro w hSw; (try dsimp only at hSw); (go_simp <;> with_reducible rfl)
  (try dsimp only); (try rw [held_put]); (try dsimp only [List.set_cons_zero, List.set_cons_succ])
  refine wpAnyH_take (i := 50) (oi := ⟨_, _, _, _, _, _⟩) (v := ?_) rfl (by as_aux_lemma => kernel_rfl) (by as_aux_lemma => kernel_rfl) (by as_aux_lemma => kernel_rfl) (fun _ _ _ h => h) (Or.inl ⟨by rfl, ?_⟩) (by assumption) ?_
  rotate_left
  · intro w hSw; (try dsimp only at hSw); (go_simp <;> with_reducible rfl)
  (try dsimp only); (try rw [held_put]); (try dsimp only [List.set_cons_zero, List.set_cons_succ])
  refine wpAnyH_take (i := 51) (oi := ⟨_, _, _, _, _, _⟩) (v := ?_) rfl (by as_aux_lemma => kernel_rfl) (by as_aux_lemma => kernel_rfl) (by as_aux_lemma => kernel_rfl) (fun _ _ _ h => h) (Or.inl ⟨by rfl, ?_⟩) (by assumption) ?_
  rotate_left
  · intro w hSw; (try dsimp only at hSw); (go_simp <;> with_reducible rfl)
  (try dsimp only); (try rw [held_put]); (try dsimp only [List.set_cons_zero, List.set_cons_succ])
  refine wpAnyH_take (i := 52) (oi := ⟨_, _, _, _, _, _⟩) (v := ?_) rfl (by as_aux_lemma => kernel_rfl) (by as_aux_lemma => kernel_rfl) (by as_aux_lemma => kernel_rfl) (fun _ _ _ h => h) (Or.inl ⟨by rfl, ?_⟩) (by assumption) ?_
  rotate_left
  · intro w hSw; (try dsimp only at hSw); (go_simp <;> with_reducible rfl)
  (try dsimp only); (try rw [held_put]); (try dsimp only [List.set_cons_zero, List.set_cons_succ])
  refine wpAnyH_take (i := 53) (oi := ⟨_, _, _, _, _, _⟩) (v := ?_) rfl (by as_aux_lemma => kernel_rfl) (by as_aux_lemma => kernel_rfl) (by as_aux_lemma => kernel_rfl) (fun _ _ _ h => h) (Or.inl ⟨by rfl, ?_⟩) (by assumption) ?_
  rotate_left
  · intro w hSw; (try dsimp only at hSw); (go_simp <;> with_reducible rfl)
  (try dsimp only); (try rw [held_put]); (try dsimp only [List.set_cons_zero, List.set_cons_succ])
  refine wpAnyH_take (i := 54) (oi := ⟨_, _, _, _, _, _⟩) (v := ?_) rfl (by as_aux_lemma => kernel_rfl) (by as_aux_lemma => kernel_rfl) (by as_aux_lemma => kernel_rfl) (fun _ _ _ h => h) (Or.inl ⟨by rfl, ?_⟩) (by assumption) ?_
  rotate_left
  · intro w hSw; (try dsimp only at hSw); (go_simp <;> with_reducible rfl)
  (try dsimp only); (try rw [held_put]); (try dsimp only [List.set_cons_zero, List.set_cons_succ])
  refine wpAnyH_take (i := 55) (oi := ⟨_, _, _, _, _, _⟩) (v := ?_) rfl (by as_aux_lemma => kernel_rfl) (by as_aux_lemma => kernel_rfl) (by as_aux_lemma => kernel_rfl) (fun _ _ _ h => h) (Or.inl ⟨by rfl, ?_⟩) (by assumption) ?_
  rotate_left
  · intro w hSw; (try dsimp only at hSw); (go_simp <;> with_reducible rfl)
  (try dsimp only); (try rw [held_put]); (try dsimp only [List.set_cons_zero, List.set_cons_succ])
  refine wpAnyH_take (i := 56) (oi := ⟨_, _, _, _, _, _⟩) (v := ?_) rfl (by as_aux_lemma => kernel_rfl) (by as_aux_lemma => kernel_rfl) (by as_aux_lemma => kernel_rfl) (fun _ _ _ h => h) (Or.inl ⟨by rfl, ?_⟩) (by assumption) ?_
  rotate_left
  · intro w hSw; (try dsimp only at hSw); (go_simp <;> with_reducible rfl)
  (try dsimp only); (try rw [held_put]); (try dsimp only [List.set_cons_zero, List.set_cons_succ])
  refine wpAnyH_take (i := 57) (oi := ⟨_, _, _, _, _, _⟩) (v := ?_) rfl (by as_aux_lemma => kernel_rfl) (by as_aux_lemma => kernel_rfl) (by as_aux_lemma => kernel_rfl) (fun _ _ _ h => h) (Or.inl ⟨by rfl, ?_⟩) (by assumption) ?_
  rotate_left
  · intro w hSw; (try dsimp only at hSw); (go_simp <;> with_reducible rfl)
  (try dsimp only); (try rw [held_put]); (try dsimp only [List.set_cons_zero, List.set_cons_succ])
  refine wpAnyH_take (i := 58) (oi := ⟨_, _, _, _, _, _⟩) (v := ?_) rfl (by as_aux_lemma => kernel_rfl) (by as_aux_lemma => kernel_rfl) (by as_aux_lemma => kernel_rfl) (fun _ _ _ h => h) (Or.inl ⟨by rfl, ?_⟩) (by assumption) ?_
  rotate_left
  · intro w hSw; (try dsimp only at hSw); (go_simp <;> with_reducible rfl)
  (try dsimp only); (try rw [held_put]); (try dsimp only [List.set_cons_zero, List.set_cons_succ])
  refine wpAnyH_take (i := 59) (oi := ⟨_, _, _, _, _, _⟩) (v := ?_) rfl (by as_aux_lemma => kernel_rfl) (by as_aux_lemma => kernel_rfl) (by as_aux_lemma => kernel_rfl) (fun _ _ _ h => h) (Or.inl ⟨by rfl, ?_⟩) (by assumption) ?_
  rotate_left
  · intro w hSw; (try dsimp only at hSw); (go_simp <;> with_reducible rfl)
  (try dsimp only); (try rw [held_put]); (try dsimp only [List.set_cons_zero, List.set_cons_succ])
  refine wpAnyH_take (i := 60) (oi := ⟨_, _, _, _, _, _⟩) (v := ?_) rfl (by as_aux_lemma => kernel_rfl) (by as_aux_lemma => kernel_rfl) (by as_aux_lemma => kernel_rfl) (fun _ _ _ h => h) (Or.inl ⟨by rfl, ?_⟩) (by assumption) ?_
  rotate_left
  · intro w hSw; (try dsimp only at hSw); (go_simp <;> with_reducible rfl)
  (try dsimp only); (try rw [held_put]); (try dsimp only [List.set_cons_zero, List.set_cons_succ])
  refine wpAnyH_ready (rs := [61]) (by as_aux_lemma => kernel_rfl) (by simp) ?_
  refine AllReadyH.cons rfl (fun K hK => ?_) ?_
  rotate_left
  exact AllReadyH.nil
  go_simp
  try (first | (go_at_call 46; clear tok16; with_reducible refine (k16 _).mono ?_; rintro e w16 ⟨aF, eF, oF, fF, rfl, g, g', rr⟩; have M' := ((M.up rr).add g).add g'; replace N := N.up rr; clear M rr g g'; have M := M'; clear M') | (go_at_call 45; clear tok17; with_reducible refine (k17 _ (M.get 12 rfl) (M.get 11 rfl) (M.get 1 rfl) (M.get 0 rfl)).mono ?_; rintro e w17 ⟨rfl, rr⟩; have M' := M.up rr; replace N := N.up rr; clear M rr ; have M := M'; clear M') | (go_at_call 46; clear tok18; with_reducible refine (k18 _).mono ?_; rintro e w18 ⟨aT, eT, oT, fT, rfl, g, g', rr⟩; have M' := ((M.up rr).add g).add g'; replace N := N.up rr; clear M rr g g'; have M := M'; clear M') | (go_at_call 46; clear tok19; with_reducible refine (k19 _).mono ?_; rintro e w19 ⟨aG, eG, oG, fG, rfl, g, g', rr⟩; have M' := ((M.up rr).add g).add g'; replace N := N.up rr; clear M rr g g'; have M := M'; clear M') | (go_at_call 10; clear tok20; with_reducible refine (k20 _ (M.get 3 rfl) (M.get 2 rfl) (M.get 1 rfl) (M.get 0 rfl)).mono ?_; rintro e w20 ⟨aS, eS, oS, fS, rfl, g, g', rr⟩; have M' := ((M.up rr).add g).add g'; replace N := N.up rr; clear M rr g g'; have M := M'; clear M') | (go_at_call 46; clear tok21; with_reducible refine (k21 _).mono ?_; rintro e w21 ⟨aH, eH, oH, fH, rfl, g, g', rr⟩; have M' := ((M.up rr).add g).add g'; replace N := N.up rr; clear M rr g g'; have M := M'; clear M') | (go_at_call 45; clear tok22; with_reducible refine (k22 _ (M.get 3 rfl) (M.get 2 rfl) (M.get 1 rfl) (M.get 0 rfl)).mono ?_; rintro e w22 ⟨rfl, rr⟩; have M' := M.up rr; replace N := N.up rr; clear M rr ; have M := M'; clear M') | (go_at_call 46; clear tok23; with_reducible refine (k23 _).mono ?_; rintro e w23 ⟨aI, eI, oI, fI, rfl, g, g', rr⟩; have M' := ((M.up rr).add g).add g'; replace N := N.up rr; clear M rr g g'; have M := M'; clear M') | (go_at_call 42; clear tok24; with_reducible refine (k24 _ (M.get 1 rfl) (M.get 0 rfl)).mono ?_; rintro e w24 ⟨rfl, rr⟩; have M' := M.up rr; replace N := N.up rr; clear M rr ; have M := M'; clear M') | (go_at_call 138; clear tok25; with_reducible refine (k25 _).mono ?_; rintro e w25 ⟨aJ, eJ, oJ, fJ, rfl, g, g', rr⟩; have M' := ((M.up rr).add g).add g'; replace N := N.up rr; clear M rr g g'; have M := M'; clear M') | (go_at_call 46; clear tok26; with_reducible refine (k26 _).mono ?_; rintro e w26 ⟨aK, eK, oK, fK, rfl, g, g', rr⟩; have M' := ((M.up rr).add g).add g'; replace N := N.up rr; clear M rr g g'; have M := M'; clear M') | (go_at_call 45; clear tok27; with_reducible refine (k27 _ (M.get 3 rfl) (M.get 2 rfl) (M.get 1 rfl) (M.get 0 rfl)).mono ?_; rintro e w27 ⟨rfl, rr⟩; have M' := M.up rr; replace N := N.up rr; clear M rr ; have M := M'; clear M') | (go_at_call 138; clear tok28; with_reducible refine (k28 _).mono ?_; rintro e w28 ⟨aP, eP, oP, fP, rfl, g, g', rr⟩; have M' := ((M.up rr).add g).add g'; replace N := N.up rr; clear M rr g g'; have M := M'; clear M') | (go_at_call 46; clear tok29; with_reducible refine (k29 _).mono ?_; rintro e w29 ⟨aR, eR, oR, fR, rfl, g, g', rr⟩; have M' := ((M.up rr).add g).add g'; replace N := N.up rr; clear M rr g g'; have M := M'; clear M') | (go_at_call 45; clear tok30; with_reducible refine (k30 _ (M.get 3 rfl) (M.get 2 rfl) (M.get 1 rfl) (M.get 0 rfl)).mono ?_; rintro e w30 ⟨rfl, rr⟩; have M' := M.up rr; replace N := N.up rr; clear M rr ; have M := M'; clear M') | (go_at_call 36; with_reducible refine (rchk_bad _).mono ?_; rintro e w31 ⟨rfl, rr⟩; replace M := M.up rr; replace N := N.up rr; clear rr) | (go_at_call 36; with_reducible refine (rchk_bad2 _).mono ?_; rintro e w31 ⟨rfl, rr⟩; replace M := M.up rr; replace N := N.up rr; clear rr))
  clear hHeld
  refine hK.out _ _ ?_ (fun hHeld => ?_)
  · try dsimp only
    (first | (have y0_ := N.cell 0 rfl 0 rfl; have y1_ := N.cell 0 rfl 1 rfl; have y2_ := N.cell 0 rfl 2 rfl; have y3_ := N.cell 1 rfl 0 rfl; have y4_ := N.cell 1 rfl 1 rfl; have y5_ := N.cell 1 rfl 2 rfl; have y6_ := cell_three (N.get 0 rfl); have y7_ := cell_two (N.get 1 rfl); first | (with_reducible exact ⟨y0_, y1_, y2_, y3_, y4_, y5_, y6_, y7_⟩) | (with_reducible exact ⟨cell_al _ y0_, cell_al _ y1_, cell_al _ y2_, cell_al _ y3_, cell_al _ y4_, cell_al _ y5_, cell_al _ y6_, cell_al _ y7_⟩) | (with_reducible exact ⟨cell_al _ (cell_al _ y0_), cell_al _ (cell_al _ y1_), cell_al _ (cell_al _ y2_), cell_al _ (cell_al _ y3_), cell_al _ (cell_al _ y4_), cell_al _ (cell_al _ y5_), cell_al _ (cell_al _ y6_), cell_al _ (cell_al _ y7_)⟩)))
  clear hK K
  (try dsimp only); (try rw [held_put]); (try dsimp only [List.set_cons_zero, List.set_cons_succ])
  refine wpAnyH_ready (rs := [62]) (by as_aux_lemma => kernel_rfl) (by simp) ?_
  refine AllReadyH.cons rfl (fun K hK => ?_) ?_
  rotate_left
  exact AllReadyH.nil
  go_simp
  try (first | (go_at_call 46; clear tok16; with_reducible refine (k16 _).mono ?_; rintro e w16 ⟨aF, eF, oF, fF, rfl, g, g', rr⟩; have M' := ((M.up rr).add g).add g'; replace N := N.up rr; clear M rr g g'; have M := M'; clear M') | (go_at_call 45; clear tok17; with_reducible refine (k17 _ (M.get 12 rfl) (M.get 11 rfl) (M.get 1 rfl) (M.get 0 rfl)).mono ?_; rintro e w17 ⟨rfl, rr⟩; have M' := M.up rr; replace N := N.up rr; clear M rr ; have M := M'; clear M') | (go_at_call 46; clear tok18; with_reducible refine (k18 _).mono ?_; rintro e w18 ⟨aT, eT, oT, fT, rfl, g, g', rr⟩; have M' := ((M.up rr).add g).add g'; replace N := N.up rr; clear M rr g g'; have M := M'; clear M') | (go_at_call 46; clear tok19; with_reducible refine (k19 _).mono ?_; rintro e w19 ⟨aG, eG, oG, fG, rfl, g, g', rr⟩; have M' := ((M.up rr).add g).add g'; replace N := N.up rr; clear M rr g g'; have M := M'; clear M') | (go_at_call 10; clear tok20; with_reducible refine (k20 _ (M.get 3 rfl) (M.get 2 rfl) (M.get 1 rfl) (M.get 0 rfl)).mono ?_; rintro e w20 ⟨aS, eS, oS, fS, rfl, g, g', rr⟩; have M' := ((M.up rr).add g).add g'; replace N := N.up rr; clear M rr g g'; have M := M'; clear M') | (go_at_call 46; clear tok21; with_reducible refine (k21 _).mono ?_; rintro e w21 ⟨aH, eH, oH, fH, rfl, g, g', rr⟩; have M' := ((M.up rr).add g).add g'; replace N := N.up rr; clear M rr g g'; have M := M'; clear M') | (go_at_call 45; clear tok22; with_reducible refine (k22 _ (M.get 3 rfl) (M.get 2 rfl) (M.get 1 rfl) (M.get 0 rfl)).mono ?_; rintro e w22 ⟨rfl, rr⟩; have M' := M.up rr; replace N := N.up rr; clear M rr ; have M := M'; clear M') | (go_at_call 46; clear tok23; with_reducible refine (k23 _).mono ?_; rintro e w23 ⟨aI, eI, oI, fI, rfl, g, g', rr⟩; have M' := ((M.up rr).add g).add g'; replace N := N.up rr; clear M rr g g'; have M := M'; clear M') | (go_at_call 42; clear tok24; with_reducible refine (k24 _ (M.get 1 rfl) (M.get 0 rfl)).mono ?_; rintro e w24 ⟨rfl, rr⟩; have M' := M.up rr; replace N := N.up rr; clear M rr ; have M := M'; clear M') | (go_at_call 138; clear tok25; with_reducible refine (k25 _).mono ?_; rintro e w25 ⟨aJ, eJ, oJ, fJ, rfl, g, g', rr⟩; have M' := ((M.up rr).add g).add g'; replace N := N.up rr; clear M rr g g'; have M := M'; clear M') | (go_at_call 46; clear tok26; with_reducible refine (k26 _).mono ?_; rintro e w26 ⟨aK, eK, oK, fK, rfl, g, g', rr⟩; have M' := ((M.up rr).add g).add g'; replace N := N.up rr; clear M rr g g'; have M := M'; clear M') | (go_at_call 45; clear tok27; with_reducible refine (k27 _ (M.get 3 rfl) (M.get 2 rfl) (M.get 1 rfl) (M.get 0 rfl)).mono ?_; rintro e w27 ⟨rfl, rr⟩; have M' := M.up rr; replace N := N.up rr; clear M rr ; have M := M'; clear M') | (go_at_call 138; clear tok28; with_reducible refine (k28 _).mono ?_; rintro e w28 ⟨aP, eP, oP, fP, rfl, g, g', rr⟩; have M' := ((M.up rr).add g).add g'; replace N := N.up rr; clear M rr g g'; have M := M'; clear M') | (go_at_call 46; clear tok29; with_reducible refine (k29 _).mono ?_; rintro e w29 ⟨aR, eR, oR, fR, rfl, g, g', rr⟩; have M' := ((M.up rr).add g).add g'; replace N := N.up rr; clear M rr g g'; have M := M'; clear M') | (go_at_call 45; clear tok30; with_reducible refine (k30 _ (M.get 3 rfl) (M.get 2 rfl) (M.get 1 rfl) (M.get 0 rfl)).mono ?_; rintro e w30 ⟨rfl, rr⟩; have M' := M.up rr; replace N := N.up rr; clear M rr ; have M := M'; clear M') | (go_at_call 36; with_reducible refine (rchk_bad _).mono ?_; rintro e w31 ⟨rfl, rr⟩; replace M := M.up rr; replace N := N.up rr; clear rr) | (go_at_call 36; with_reducible refine (rchk_bad2 _).mono ?_; rintro e w31 ⟨rfl, rr⟩; replace M := M.up rr; replace N := N.up rr; clear rr))
  clear hHeld
  refine hK.out _ _ ?_ (fun hHeld => ?_)
  · try dsimp only
    (first | (have y0_ := N.cell 0 rfl 0 rfl; have y1_ := N.cell 0 rfl 1 rfl; have y2_ := N.cell 0 rfl 2 rfl; have y3_ := N.cell 1 rfl 0 rfl; have y4_ := N.cell 1 rfl 1 rfl; have y5_ := N.cell 1 rfl 2 rfl; have y6_ := cell_three (N.get 0 rfl); have y7_ := cell_two (N.get 1 rfl); first | (with_reducible exact ⟨y0_, y1_, y2_, y3_, y4_, y5_, y6_, y7_⟩) | (with_reducible exact ⟨cell_al _ y0_, cell_al _ y1_, cell_al _ y2_, cell_al _ y3_, cell_al _ y4_, cell_al _ y5_, cell_al _ y6_, cell_al _ y7_⟩) | (with_reducible exact ⟨cell_al _ (cell_al _ y0_), cell_al _ (cell_al _ y1_), cell_al _ (cell_al _ y2_), cell_al _ (cell_al _ y3_), cell_al _ (cell_al _ y4_), cell_al _ (cell_al _ y5_), cell_al _ (cell_al _ y6_), cell_al _ (cell_al _ y7_)⟩)))
  clear hK K
  (try dsimp only); (try rw [held_put]); (try dsimp only [List.set_cons_zero, List.set_cons_succ])
  refine wpAnyH_take (i := 63) (oi := ⟨_, _, _, _, _, _⟩) (v := ?_) rfl (by as_aux_lemma => kernel_rfl) (by as_aux_lemma => kernel_rfl) (by as_aux_lemma => kernel_rfl) (fun _ _ _ h => h) (Or.inl ⟨by rfl, ?_⟩) (by assumption) ?_
  rotate_left
  · intro w hSw; (try dsimp only at hSw); (go_simp <;> with_reducible rfl)
  (try dsimp only); (try rw [held_put]); (try dsimp only [List.set_cons_zero, List.set_cons_succ])
  refine wpAnyH_take (i := 64) (oi := ⟨_, _, _, _, _, _⟩) (v := ?_) rfl (by as_aux_lemma => kernel_rfl) (by as_aux_lemma => kernel_rfl) (by as_aux_lemma => kernel_rfl) (fun _ _ _ h => h) (Or.inl ⟨by rfl, ?_⟩) (by assumption) ?_
  rotate_left
  · intro w hSw; (try dsimp only at hSw); (go_simp <;> with_reducible rfl)
  (try dsimp only); (try rw [held_put]); (try dsimp only [List.set_cons_zero, List.set_cons_succ])
  refine wpAnyH_ready (rs := [65]) (by as_aux_lemma => kernel_rfl) (by simp) ?_
  refine AllReadyH.cons rfl (fun K hK => ?_) ?_
  rotate_left
  exact AllReadyH.nil
  go_simp
  try (first | (go_at_call 46; clear tok16; with_reducible refine (k16 _).mono ?_; rintro e w16 ⟨aF, eF, oF, fF, rfl, g, g', rr⟩; have M' := ((M.up rr).add g).add g'; replace N := N.up rr; clear M rr g g'; have M := M'; clear M') | (go_at_call 45; clear tok17; with_reducible refine (k17 _ (M.get 12 rfl) (M.get 11 rfl) (M.get 1 rfl) (M.get 0 rfl)).mono ?_; rintro e w17 ⟨rfl, rr⟩; have M' := M.up rr; replace N := N.up rr; clear M rr ; have M := M'; clear M') | (go_at_call 46; clear tok18; with_reducible refine (k18 _).mono ?_; rintro e w18 ⟨aT, eT, oT, fT, rfl, g, g', rr⟩; have M' := ((M.up rr).add g).add g'; replace N := N.up rr; clear M rr g g'; have M := M'; clear M') | (go_at_call 46; clear tok19; with_reducible refine (k19 _).mono ?_; rintro e w19 ⟨aG, eG, oG, fG, rfl, g, g', rr⟩; have M' := ((M.up rr).add g).add g'; replace N := N.up rr; clear M rr g g'; have M := M'; clear M') | (go_at_call 10; clear tok20; with_reducible refine (k20 _ (M.get 3 rfl) (M.get 2 rfl) (M.get 1 rfl) (M.get 0 rfl)).mono ?_; rintro e w20 ⟨aS, eS, oS, fS, rfl, g, g', rr⟩; have M' := ((M.up rr).add g).add g'; replace N := N.up rr; clear M rr g g'; have M := M'; clear M') | (go_at_call 46; clear tok21; with_reducible refine (k21 _).mono ?_; rintro e w21 ⟨aH, eH, oH, fH, rfl, g, g', rr⟩; have M' := ((M.up rr).add g).add g'; replace N := N.up rr; clear M rr g g'; have M := M'; clear M') | (go_at_call 45; clear tok22; with_reducible refine (k22 _ (M.get 3 rfl) (M.get 2 rfl) (M.get 1 rfl) (M.get 0 rfl)).mono ?_; rintro e w22 ⟨rfl, rr⟩; have M' := M.up rr; replace N := N.up rr; clear M rr ; have M := M'; clear M') | (go_at_call 46; clear tok23; with_reducible refine (k23 _).mono ?_; rintro e w23 ⟨aI, eI, oI, fI, rfl, g, g', rr⟩; have M' := ((M.up rr).add g).add g'; replace N := N.up rr; clear M rr g g'; have M := M'; clear M') | (go_at_call 42; clear tok24; with_reducible refine (k24 _ (M.get 1 rfl) (M.get 0 rfl)).mono ?_; rintro e w24 ⟨rfl, rr⟩; have M' := M.up rr; replace N := N.up rr; clear M rr ; have M := M'; clear M') | (go_at_call 138; clear tok25; with_reducible refine (k25 _).mono ?_; rintro e w25 ⟨aJ, eJ, oJ, fJ, rfl, g, g', rr⟩; have M' := ((M.up rr).add g).add g'; replace N := N.up rr; clear M rr g g'; have M := M'; clear M') | (go_at_call 46; clear tok26; with_reducible refine (k26 _).mono ?_; rintro e w26 ⟨aK, eK, oK, fK, rfl, g, g', rr⟩; have M' := ((M.up rr).add g).add g'; replace N := N.up rr; clear M rr g g'; have M := M'; clear M') | (go_at_call 45; clear tok27; with_reducible refine (k27 _ (M.get 3 rfl) (M.get 2 rfl) (M.get 1 rfl) (M.get 0 rfl)).mono ?_; rintro e w27 ⟨rfl, rr⟩; have M' := M.up rr; replace N := N.up rr; clear M rr ; have M := M'; clear M') | (go_at_call 138; clear tok28; with_reducible refine (k28 _).mono ?_; rintro e w28 ⟨aP, eP, oP, fP, rfl, g, g', rr⟩; have M' := ((M.up rr).add g).add g'; replace N := N.up rr; clear M rr g g'; have M := M'; clear M') | (go_at_call 46; clear tok29; with_reducible refine (k29 _).mono ?_; rintro e w29 ⟨aR, eR, oR, fR, rfl, g, g', rr⟩; have M' := ((M.up rr).add g).add g'; replace N := N.up rr; clear M rr g g'; have M := M'; clear M') | (go_at_call 45; clear tok30; with_reducible refine (k30 _ (M.get 3 rfl) (M.get 2 rfl) (M.get 1 rfl) (M.get 0 rfl)).mono ?_; rintro e w30 ⟨rfl, rr⟩; have M' := M.up rr; replace N := N.up rr; clear M rr ; have M := M'; clear M') | (go_at_call 36; with_reducible refine (rchk_bad _).mono ?_; rintro e w31 ⟨rfl, rr⟩; replace M := M.up rr; replace N := N.up rr; clear rr) | (go_at_call 36; with_reducible refine (rchk_bad2 _).mono ?_; rintro e w31 ⟨rfl, rr⟩; replace M := M.up rr; replace N := N.up rr; clear rr))
  clear hHeld
  refine hK.out _ _ ?_ (fun hHeld => ?_)
  · try dsimp only
    (first | (have y0_ := N.cell 0 rfl 0 rfl; have y1_ := N.cell 0 rfl 1 rfl; have y2_ := N.cell 0 rfl 2 rfl; have y3_ := N.cell 1 rfl 0 rfl; have y4_ := N.cell 1 rfl 1 rfl; have y5_ := N.cell 1 rfl 2 rfl; have y6_ := cell_three (N.get 0 rfl); have y7_ := cell_two (N.get 1 rfl); first | (with_reducible exact ⟨y0_, y1_, y2_, y3_, y4_, y5_, y6_, y7_⟩) | (with_reducible exact ⟨cell_al _ y0_, cell_al _ y1_, cell_al _ y2_, cell_al _ y3_, cell_al _ y4_, cell_al _ y5_, cell_al _ y6_, cell_al _ y7_⟩) | (with_reducible exact ⟨cell_al _ (cell_al _ y0_), cell_al _ (cell_al _ y1_), cell_al _ (cell_al _ y2_), cell_al _ (cell_al _ y3_), cell_al _ (cell_al _ y4_), cell_al _ (cell_al _ y5_), cell_al _ (cell_al _ y6_), cell_al _ (cell_al _ y7_)⟩)))
  clear hK K
  (try dsimp only); (try rw [held_put]); (try dsimp only [List.set_cons_zero, List.set_cons_succ])
  as_aux_lemma =>
    refine wpAnyH_ready (rs := [66]) (by as_aux_lemma => kernel_rfl) (by simp) ?_
    refine AllReadyH.cons rfl (fun K hK => ?_) ?_
    rotate_left
    exact AllReadyH.nil
    go_simp
    try (first | (go_at_call 46; clear tok16; with_reducible refine (k16 _).mono ?_; rintro e w16 ⟨aF, eF, oF, fF, rfl, g, g', rr⟩; have M' := ((M.up rr).add g).add g'; replace N := N.up rr; clear M rr g g'; have M := M'; clear M') | (go_at_call 45; clear tok17; with_reducible refine (k17 _ (M.get 12 rfl) (M.get 11 rfl) (M.get 1 rfl) (M.get 0 rfl)).mono ?_; rintro e w17 ⟨rfl, rr⟩; have M' := M.up rr; replace N := N.up rr; clear M rr ; have M := M'; clear M') | (go_at_call 46; clear tok18; with_reducible refine (k18 _).mono ?_; rintro e w18 ⟨aT, eT, oT, fT, rfl, g, g', rr⟩; have M' := ((M.up rr).add g).add g'; replace N := N.up rr; clear M rr g g'; have M := M'; clear M') | (go_at_call 46; clear tok19; with_reducible refine (k19 _).mono ?_; rintro e w19 ⟨aG, eG, oG, fG, rfl, g, g', rr⟩; have M' := ((M.up rr).add g).add g'; replace N := N.up rr; clear M rr g g'; have M := M'; clear M') | (go_at_call 10; clear tok20; with_reducible refine (k20 _ (M.get 3 rfl) (M.get 2 rfl) (M.get 1 rfl) (M.get 0 rfl)).mono ?_; rintro e w20 ⟨aS, eS, oS, fS, rfl, g, g', rr⟩; have M' := ((M.up rr).add g).add g'; replace N := N.up rr; clear M rr g g'; have M := M'; clear M') | (go_at_call 46; clear tok21; with_reducible refine (k21 _).mono ?_; rintro e w21 ⟨aH, eH, oH, fH, rfl, g, g', rr⟩; have M' := ((M.up rr).add g).add g'; replace N := N.up rr; clear M rr g g'; have M := M'; clear M') | (go_at_call 45; clear tok22; with_reducible refine (k22 _ (M.get 3 rfl) (M.get 2 rfl) (M.get 1 rfl) (M.get 0 rfl)).mono ?_; rintro e w22 ⟨rfl, rr⟩; have M' := M.up rr; replace N := N.up rr; clear M rr ; have M := M'; clear M') | (go_at_call 46; clear tok23; with_reducible refine (k23 _).mono ?_; rintro e w23 ⟨aI, eI, oI, fI, rfl, g, g', rr⟩; have M' := ((M.up rr).add g).add g'; replace N := N.up rr; clear M rr g g'; have M := M'; clear M') | (go_at_call 42; clear tok24; with_reducible refine (k24 _ (M.get 1 rfl) (M.get 0 rfl)).mono ?_; rintro e w24 ⟨rfl, rr⟩; have M' := M.up rr; replace N := N.up rr; clear M rr ; have M := M'; clear M') | (go_at_call 138; clear tok25; with_reducible refine (k25 _).mono ?_; rintro e w25 ⟨aJ, eJ, oJ, fJ, rfl, g, g', rr⟩; have M' := ((M.up rr).add g).add g'; replace N := N.up rr; clear M rr g g'; have M := M'; clear M') | (go_at_call 46; clear tok26; with_reducible refine (k26 _).mono ?_; rintro e w26 ⟨aK, eK, oK, fK, rfl, g, g', rr⟩; have M' := ((M.up rr).add g).add g'; replace N := N.up rr; clear M rr g g'; have M := M'; clear M') | (go_at_call 45; clear tok27; with_reducible refine (k27 _ (M.get 3 rfl) (M.get 2 rfl) (M.get 1 rfl) (M.get 0 rfl)).mono ?_; rintro e w27 ⟨rfl, rr⟩; have M' := M.up rr; replace N := N.up rr; clear M rr ; have M := M'; clear M') | (go_at_call 138; clear tok28; with_reducible refine (k28 _).mono ?_; rintro e w28 ⟨aP, eP, oP, fP, rfl, g, g', rr⟩; have M' := ((M.up rr).add g).add g'; replace N := N.up rr; clear M rr g g'; have M := M'; clear M') | (go_at_call 46; clear tok29; with_reducible refine (k29 _).mono ?_; rintro e w29 ⟨aR, eR, oR, fR, rfl, g, g', rr⟩; have M' := ((M.up rr).add g).add g'; replace N := N.up rr; clear M rr g g'; have M := M'; clear M') | (go_at_call 45; clear tok30; with_reducible refine (k30 _ (M.get 3 rfl) (M.get 2 rfl) (M.get 1 rfl) (M.get 0 rfl)).mono ?_; rintro e w30 ⟨rfl, rr⟩; have M' := M.up rr; replace N := N.up rr; clear M rr ; have M := M'; clear M') | (go_at_call 36; with_reducible refine (rchk_bad _).mono ?_; rintro e w31 ⟨rfl, rr⟩; replace M := M.up rr; replace N := N.up rr; clear rr) | (go_at_call 36; with_reducible refine (rchk_bad2 _).mono ?_; rintro e w31 ⟨rfl, rr⟩; replace M := M.up rr; replace N := N.up rr; clear rr))
    clear hHeld
    refine hK.out _ _ ?_ (fun hHeld => ?_)
    · try dsimp only
      (first | (have y0_ := N.cell 0 rfl 0 rfl; have y1_ := N.cell 0 rfl 1 rfl; have y2_ := N.cell 0 rfl 2 rfl; have y3_ := N.cell 1 rfl 0 rfl; have y4_ := N.cell 1 rfl 1 rfl; have y5_ := N.cell 1 rfl 2 rfl; have y6_ := cell_three (N.get 0 rfl); have y7_ := cell_two (N.get 1 rfl); first | (with_reducible exact ⟨y0_, y1_, y2_, y3_, y4_, y5_, y6_, y7_⟩) | (with_reducible exact ⟨cell_al _ y0_, cell_al _ y1_, cell_al _ y2_, cell_al _ y3_, cell_al _ y4_, cell_al _ y5_, cell_al _ y6_, cell_al _ y7_⟩) | (with_reducible exact ⟨cell_al _ (cell_al _ y0_), cell_al _ (cell_al _ y1_), cell_al _ (cell_al _ y2_), cell_al _ (cell_al _ y3_), cell_al _ (cell_al _ y4_), cell_al _ (cell_al _ y5_), cell_al _ (cell_al _ y6_), cell_al _ (cell_al _ y7_)⟩)))
    clear hK K
    (try dsimp only); (try rw [held_put]); (try dsimp only [List.set_cons_zero, List.set_cons_succ])
    refine wpAnyH_ready (rs := [67]) (by as_aux_lemma => kernel_rfl) (by simp) ?_
    refine AllReadyH.cons rfl (fun K hK => ?_) ?_
    rotate_left
    exact AllReadyH.nil
    go_simp
    try (first | (go_at_call 46; clear tok16; with_reducible refine (k16 _).mono ?_; rintro e w16 ⟨aF, eF, oF, fF, rfl, g, g', rr⟩; have M' := ((M.up rr).add g).add g'; replace N := N.up rr; clear M rr g g'; have M := M'; clear M') | (go_at_call 45; clear tok17; with_reducible refine (k17 _ (M.get 12 rfl) (M.get 11 rfl) (M.get 1 rfl) (M.get 0 rfl)).mono ?_; rintro e w17 ⟨rfl, rr⟩; have M' := M.up rr; replace N := N.up rr; clear M rr ; have M := M'; clear M') | (go_at_call 46; clear tok18; with_reducible refine (k18 _).mono ?_; rintro e w18 ⟨aT, eT, oT, fT, rfl, g, g', rr⟩; have M' := ((M.up rr).add g).add g'; replace N := N.up rr; clear M rr g g'; have M := M'; clear M') | (go_at_call 46; clear tok19; with_reducible refine (k19 _).mono ?_; rintro e w19 ⟨aG, eG, oG, fG, rfl, g, g', rr⟩; have M' := ((M.up rr).add g).add g'; replace N := N.up rr; clear M rr g g'; have M := M'; clear M') | (go_at_call 10; clear tok20; with_reducible refine (k20 _ (M.get 3 rfl) (M.get 2 rfl) (M.get 1 rfl) (M.get 0 rfl)).mono ?_; rintro e w20 ⟨aS, eS, oS, fS, rfl, g, g', rr⟩; have M' := ((M.up rr).add g).add g'; replace N := N.up rr; clear M rr g g'; have M := M'; clear M') | (go_at_call 46; clear tok21; with_reducible refine (k21 _).mono ?_; rintro e w21 ⟨aH, eH, oH, fH, rfl, g, g', rr⟩; have M' := ((M.up rr).add g).add g'; replace N := N.up rr; clear M rr g g'; have M := M'; clear M') | (go_at_call 45; clear tok22; with_reducible refine (k22 _ (M.get 3 rfl) (M.get 2 rfl) (M.get 1 rfl) (M.get 0 rfl)).mono ?_; rintro e w22 ⟨rfl, rr⟩; have M' := M.up rr; replace N := N.up rr; clear M rr ; have M := M'; clear M') | (go_at_call 46; clear tok23; with_reducible refine (k23 _).mono ?_; rintro e w23 ⟨aI, eI, oI, fI, rfl, g, g', rr⟩; have M' := ((M.up rr).add g).add g'; replace N := N.up rr; clear M rr g g'; have M := M'; clear M') | (go_at_call 42; clear tok24; with_reducible refine (k24 _ (M.get 1 rfl) (M.get 0 rfl)).mono ?_; rintro e w24 ⟨rfl, rr⟩; have M' := M.up rr; replace N := N.up rr; clear M rr ; have M := M'; clear M') | (go_at_call 138; clear tok25; with_reducible refine (k25 _).mono ?_; rintro e w25 ⟨aJ, eJ, oJ, fJ, rfl, g, g', rr⟩; have M' := ((M.up rr).add g).add g'; replace N := N.up rr; clear M rr g g'; have M := M'; clear M') | (go_at_call 46; clear tok26; with_reducible refine (k26 _).mono ?_; rintro e w26 ⟨aK, eK, oK, fK, rfl, g, g', rr⟩; have M' := ((M.up rr).add g).add g'; replace N := N.up rr; clear M rr g g'; have M := M'; clear M') | (go_at_call 45; clear tok27; with_reducible refine (k27 _ (M.get 3 rfl) (M.get 2 rfl) (M.get 1 rfl) (M.get 0 rfl)).mono ?_; rintro e w27 ⟨rfl, rr⟩; have M' := M.up rr; replace N := N.up rr; clear M rr ; have M := M'; clear M') | (go_at_call 138; clear tok28; with_reducible refine (k28 _).mono ?_; rintro e w28 ⟨aP, eP, oP, fP, rfl, g, g', rr⟩; have M' := ((M.up rr).add g).add g'; replace N := N.up rr; clear M rr g g'; have M := M'; clear M') | (go_at_call 46; clear tok29; with_reducible refine (k29 _).mono ?_; rintro e w29 ⟨aR, eR, oR, fR, rfl, g, g', rr⟩; have M' := ((M.up rr).add g).add g'; replace N := N.up rr; clear M rr g g'; have M := M'; clear M') | (go_at_call 45; clear tok30; with_reducible refine (k30 _ (M.get 3 rfl) (M.get 2 rfl) (M.get 1 rfl) (M.get 0 rfl)).mono ?_; rintro e w30 ⟨rfl, rr⟩; have M' := M.up rr; replace N := N.up rr; clear M rr ; have M := M'; clear M') | (go_at_call 36; with_reducible refine (rchk_bad _).mono ?_; rintro e w31 ⟨rfl, rr⟩; replace M := M.up rr; replace N := N.up rr; clear rr) | (go_at_call 36; with_reducible refine (rchk_bad2 _).mono ?_; rintro e w31 ⟨rfl, rr⟩; replace M := M.up rr; replace N := N.up rr; clear rr))
    clear hHeld
    refine hK.out _ _ ?_ (fun hHeld => ?_)
    · try dsimp only
      (first | (have y0_ := N.cell 0 rfl 0 rfl; have y1_ := N.cell 0 rfl 1 rfl; have y2_ := N.cell 0 rfl 2 rfl; have y3_ := N.cell 1 rfl 0 rfl; have y4_ := N.cell 1 rfl 1 rfl; have y5_ := N.cell 1 rfl 2 rfl; have y6_ := cell_three (N.get 0 rfl); have y7_ := cell_two (N.get 1 rfl); first | (with_reducible exact ⟨y0_, y1_, y2_, y3_, y4_, y5_, y6_, y7_⟩) | (with_reducible exact ⟨cell_al _ y0_, cell_al _ y1_, cell_al _ y2_, cell_al _ y3_, cell_al _ y4_, cell_al _ y5_, cell_al _ y6_, cell_al _ y7_⟩) | (with_reducible exact ⟨cell_al _ (cell_al _ y0_), cell_al _ (cell_al _ y1_), cell_al _ (cell_al _ y2_), cell_al _ (cell_al _ y3_), cell_al _ (cell_al _ y4_), cell_al _ (cell_al _ y5_), cell_al _ (cell_al _ y6_), cell_al _ (cell_al _ y7_)⟩)))
    clear hK K
    (try dsimp only); (try rw [held_put]); (try dsimp only [List.set_cons_zero, List.set_cons_succ])
    refine wpAnyH_ready (rs := [68]) (by as_aux_lemma => kernel_rfl) (by simp) ?_
    refine AllReadyH.cons rfl (fun K hK => ?_) ?_
    rotate_left
    exact AllReadyH.nil
    go_simp
    try (first | (go_at_call 46; clear tok16; with_reducible refine (k16 _).mono ?_; rintro e w16 ⟨aF, eF, oF, fF, rfl, g, g', rr⟩; have M' := ((M.up rr).add g).add g'; replace N := N.up rr; clear M rr g g'; have M := M'; clear M') | (go_at_call 45; clear tok17; with_reducible refine (k17 _ (M.get 12 rfl) (M.get 11 rfl) (M.get 1 rfl) (M.get 0 rfl)).mono ?_; rintro e w17 ⟨rfl, rr⟩; have M' := M.up rr; replace N := N.up rr; clear M rr ; have M := M'; clear M') | (go_at_call 46; clear tok18; with_reducible refine (k18 _).mono ?_; rintro e w18 ⟨aT, eT, oT, fT, rfl, g, g', rr⟩; have M' := ((M.up rr).add g).add g'; replace N := N.up rr; clear M rr g g'; have M := M'; clear M') | (go_at_call 46; clear tok19; with_reducible refine (k19 _).mono ?_; rintro e w19 ⟨aG, eG, oG, fG, rfl, g, g', rr⟩; have M' := ((M.up rr).add g).add g'; replace N := N.up rr; clear M rr g g'; have M := M'; clear M') | (go_at_call 10; clear tok20; with_reducible refine (k20 _ (M.get 3 rfl) (M.get 2 rfl) (M.get 1 rfl) (M.get 0 rfl)).mono ?_; rintro e w20 ⟨aS, eS, oS, fS, rfl, g, g', rr⟩; have M' := ((M.up rr).add g).add g'; replace N := N.up rr; clear M rr g g'; have M := M'; clear M') | (go_at_call 46; clear tok21; with_reducible refine (k21 _).mono ?_; rintro e w21 ⟨aH, eH, oH, fH, rfl, g, g', rr⟩; have M' := ((M.up rr).add g).add g'; replace N := N.up rr; clear M rr g g'; have M := M'; clear M') | (go_at_call 45; clear tok22; with_reducible refine (k22 _ (M.get 3 rfl) (M.get 2 rfl) (M.get 1 rfl) (M.get 0 rfl)).mono ?_; rintro e w22 ⟨rfl, rr⟩; have M' := M.up rr; replace N := N.up rr; clear M rr ; have M := M'; clear M') | (go_at_call 46; clear tok23; with_reducible refine (k23 _).mono ?_; rintro e w23 ⟨aI, eI, oI, fI, rfl, g, g', rr⟩; have M' := ((M.up rr).add g).add g'; replace N := N.up rr; clear M rr g g'; have M := M'; clear M') | (go_at_call 42; clear tok24; with_reducible refine (k24 _ (M.get 1 rfl) (M.get 0 rfl)).mono ?_; rintro e w24 ⟨rfl, rr⟩; have M' := M.up rr; replace N := N.up rr; clear M rr ; have M := M'; clear M') | (go_at_call 138; clear tok25; with_reducible refine (k25 _).mono ?_; rintro e w25 ⟨aJ, eJ, oJ, fJ, rfl, g, g', rr⟩; have M' := ((M.up rr).add g).add g'; replace N := N.up rr; clear M rr g g'; have M := M'; clear M') | (go_at_call 46; clear tok26; with_reducible refine (k26 _).mono ?_; rintro e w26 ⟨aK, eK, oK, fK, rfl, g, g', rr⟩; have M' := ((M.up rr).add g).add g'; replace N := N.up rr; clear M rr g g'; have M := M'; clear M') | (go_at_call 45; clear tok27; with_reducible refine (k27 _ (M.get 3 rfl) (M.get 2 rfl) (M.get 1 rfl) (M.get 0 rfl)).mono ?_; rintro e w27 ⟨rfl, rr⟩; have M' := M.up rr; replace N := N.up rr; clear M rr ; have M := M'; clear M') | (go_at_call 138; clear tok28; with_reducible refine (k28 _).mono ?_; rintro e w28 ⟨aP, eP, oP, fP, rfl, g, g', rr⟩; have M' := ((M.up rr).add g).add g'; replace N := N.up rr; clear M rr g g'; have M := M'; clear M') | (go_at_call 46; clear tok29; with_reducible refine (k29 _).mono ?_; rintro e w29 ⟨aR, eR, oR, fR, rfl, g, g', rr⟩; have M' := ((M.up rr).add g).add g'; replace N := N.up rr; clear M rr g g'; have M := M'; clear M') | (go_at_call 45; clear tok30; with_reducible refine (k30 _ (M.get 3 rfl) (M.get 2 rfl) (M.get 1 rfl) (M.get 0 rfl)).mono ?_; rintro e w30 ⟨rfl, rr⟩; have M' := M.up rr; replace N := N.up rr; clear M rr ; have M := M'; clear M') | (go_at_call 36; with_reducible refine (rchk_bad _).mono ?_; rintro e w31 ⟨rfl, rr⟩; replace M := M.up rr; replace N := N.up rr; clear rr) | (go_at_call 36; with_reducible refine (rchk_bad2 _).mono ?_; rintro e w31 ⟨rfl, rr⟩; replace M := M.up rr; replace N := N.up rr; clear rr))
    clear hHeld
    refine hK.out _ _ ?_ (fun hHeld => ?_)
    · try dsimp only
      (first | (have y0_ := N.cell 0 rfl 0 rfl; have y1_ := N.cell 0 rfl 1 rfl; have y2_ := N.cell 0 rfl 2 rfl; have y3_ := N.cell 1 rfl 0 rfl; have y4_ := N.cell 1 rfl 1 rfl; have y5_ := N.cell 1 rfl 2 rfl; have y6_ := cell_three (N.get 0 rfl); have y7_ := cell_two (N.get 1 rfl); first | (with_reducible exact ⟨y0_, y1_, y2_, y3_, y4_, y5_, y6_, y7_⟩) | (with_reducible exact ⟨cell_al _ y0_, cell_al _ y1_, cell_al _ y2_, cell_al _ y3_, cell_al _ y4_, cell_al _ y5_, cell_al _ y6_, cell_al _ y7_⟩) | (with_reducible exact ⟨cell_al _ (cell_al _ y0_), cell_al _ (cell_al _ y1_), cell_al _ (cell_al _ y2_), cell_al _ (cell_al _ y3_), cell_al _ (cell_al _ y4_), cell_al _ (cell_al _ y5_), cell_al _ (cell_al _ y6_), cell_al _ (cell_al _ y7_)⟩)))
    clear hK K
    (try dsimp only); (try rw [held_put]); (try dsimp only [List.set_cons_zero, List.set_cons_succ])
    as_aux_lemma =>
      refine wpAnyH_ready (rs := [69]) (by as_aux_lemma => kernel_rfl) (by simp) ?_
      refine AllReadyH.cons rfl (fun K hK => ?_) ?_
      rotate_left
      exact AllReadyH.nil
      go_simp
      try (first | (go_at_call 46; clear tok16; with_reducible refine (k16 _).mono ?_; rintro e w16 ⟨aF, eF, oF, fF, rfl, g, g', rr⟩; have M' := ((M.up rr).add g).add g'; replace N := N.up rr; clear M rr g g'; have M := M'; clear M') | (go_at_call 45; clear tok17; with_reducible refine (k17 _ (M.get 12 rfl) (M.get 11 rfl) (M.get 1 rfl) (M.get 0 rfl)).mono ?_; rintro e w17 ⟨rfl, rr⟩; have M' := M.up rr; replace N := N.up rr; clear M rr ; have M := M'; clear M') | (go_at_call 46; clear tok18; with_reducible refine (k18 _).mono ?_; rintro e w18 ⟨aT, eT, oT, fT, rfl, g, g', rr⟩; have M' := ((M.up rr).add g).add g'; replace N := N.up rr; clear M rr g g'; have M := M'; clear M') | (go_at_call 46; clear tok19; with_reducible refine (k19 _).mono ?_; rintro e w19 ⟨aG, eG, oG, fG, rfl, g, g', rr⟩; have M' := ((M.up rr).add g).add g'; replace N := N.up rr; clear M rr g g'; have M := M'; clear M') | (go_at_call 10; clear tok20; with_reducible refine (k20 _ (M.get 3 rfl) (M.get 2 rfl) (M.get 1 rfl) (M.get 0 rfl)).mono ?_; rintro e w20 ⟨aS, eS, oS, fS, rfl, g, g', rr⟩; have M' := ((M.up rr).add g).add g'; replace N := N.up rr; clear M rr g g'; have M := M'; clear M') | (go_at_call 46; clear tok21; with_reducible refine (k21 _).mono ?_; rintro e w21 ⟨aH, eH, oH, fH, rfl, g, g', rr⟩; have M' := ((M.up rr).add g).add g'; replace N := N.up rr; clear M rr g g'; have M := M'; clear M') | (go_at_call 45; clear tok22; with_reducible refine (k22 _ (M.get 3 rfl) (M.get 2 rfl) (M.get 1 rfl) (M.get 0 rfl)).mono ?_; rintro e w22 ⟨rfl, rr⟩; have M' := M.up rr; replace N := N.up rr; clear M rr ; have M := M'; clear M') | (go_at_call 46; clear tok23; with_reducible refine (k23 _).mono ?_; rintro e w23 ⟨aI, eI, oI, fI, rfl, g, g', rr⟩; have M' := ((M.up rr).add g).add g'; replace N := N.up rr; clear M rr g g'; have M := M'; clear M') | (go_at_call 42; clear tok24; with_reducible refine (k24 _ (M.get 1 rfl) (M.get 0 rfl)).mono ?_; rintro e w24 ⟨rfl, rr⟩; have M' := M.up rr; replace N := N.up rr; clear M rr ; have M := M'; clear M') | (go_at_call 138; clear tok25; with_reducible refine (k25 _).mono ?_; rintro e w25 ⟨aJ, eJ, oJ, fJ, rfl, g, g', rr⟩; have M' := ((M.up rr).add g).add g'; replace N := N.up rr; clear M rr g g'; have M := M'; clear M') | (go_at_call 46; clear tok26; with_reducible refine (k26 _).mono ?_; rintro e w26 ⟨aK, eK, oK, fK, rfl, g, g', rr⟩; have M' := ((M.up rr).add g).add g'; replace N := N.up rr; clear M rr g g'; have M := M'; clear M') | (go_at_call 45; clear tok27; with_reducible refine (k27 _ (M.get 3 rfl) (M.get 2 rfl) (M.get 1 rfl) (M.get 0 rfl)).mono ?_; rintro e w27 ⟨rfl, rr⟩; have M' := M.up rr; replace N := N.up rr; clear M rr ; have M := M'; clear M') | (go_at_call 138; clear tok28; with_reducible refine (k28 _).mono ?_; rintro e w28 ⟨aP, eP, oP, fP, rfl, g, g', rr⟩; have M' := ((M.up rr).add g).add g'; replace N := N.up rr; clear M rr g g'; have M := M'; clear M') | (go_at_call 46; clear tok29; with_reducible refine (k29 _).mono ?_; rintro e w29 ⟨aR, eR, oR, fR, rfl, g, g', rr⟩; have M' := ((M.up rr).add g).add g'; replace N := N.up rr; clear M rr g g'; have M := M'; clear M') | (go_at_call 45; clear tok30; with_reducible refine (k30 _ (M.get 3 rfl) (M.get 2 rfl) (M.get 1 rfl) (M.get 0 rfl)).mono ?_; rintro e w30 ⟨rfl, rr⟩; have M' := M.up rr; replace N := N.up rr; clear M rr ; have M := M'; clear M') | (go_at_call 36; with_reducible refine (rchk_bad _).mono ?_; rintro e w31 ⟨rfl, rr⟩; replace M := M.up rr; replace N := N.up rr; clear rr) | (go_at_call 36; with_reducible refine (rchk_bad2 _).mono ?_; rintro e w31 ⟨rfl, rr⟩; replace M := M.up rr; replace N := N.up rr; clear rr))
      clear hHeld
      refine hK.out _ _ ?_ (fun hHeld => ?_)
      · try dsimp only
        (first | (have y0_ := N.cell 0 rfl 0 rfl; have y1_ := N.cell 0 rfl 1 rfl; have y2_ := N.cell 0 rfl 2 rfl; have y3_ := N.cell 1 rfl 0 rfl; have y4_ := N.cell 1 rfl 1 rfl; have y5_ := N.cell 1 rfl 2 rfl; have y6_ := cell_three (N.get 0 rfl); have y7_ := cell_two (N.get 1 rfl); first | (with_reducible exact ⟨y0_, y1_, y2_, y3_, y4_, y5_, y6_, y7_⟩) | (with_reducible exact ⟨cell_al _ y0_, cell_al _ y1_, cell_al _ y2_, cell_al _ y3_, cell_al _ y4_, cell_al _ y5_, cell_al _ y6_, cell_al _ y7_⟩) | (with_reducible exact ⟨cell_al _ (cell_al _ y0_), cell_al _ (cell_al _ y1_), cell_al _ (cell_al _ y2_), cell_al _ (cell_al _ y3_), cell_al _ (cell_al _ y4_), cell_al _ (cell_al _ y5_), cell_al _ (cell_al _ y6_), cell_al _ (cell_al _ y7_)⟩)))
      clear hK K
      (try dsimp only); (try rw [held_put]); (try dsimp only [List.set_cons_zero, List.set_cons_succ])
      refine wpAnyH_take (i := 70) (oi := ⟨_, _, _, _, _, _⟩) (v := ?_) rfl (by as_aux_lemma => kernel_rfl) (by as_aux_lemma => kernel_rfl) (by as_aux_lemma => kernel_rfl) (fun _ _ _ h => h) (Or.inl ⟨by rfl, ?_⟩) (by assumption) ?_
      rotate_left
      · intro w hSw; (try dsimp only at hSw); (go_simp <;> with_reducible rfl)
      (try dsimp only); (try rw [held_put]); (try dsimp only [List.set_cons_zero, List.set_cons_succ])
      refine wpAnyH_take (i := 71) (oi := ⟨_, _, _, _, _, _⟩) (v := ?_) rfl (by as_aux_lemma => kernel_rfl) (by as_aux_lemma => kernel_rfl) (by as_aux_lemma => kernel_rfl) (fun _ _ _ h => h) (Or.inl ⟨by rfl, ?_⟩) (by assumption) ?_
      rotate_left
      · intro w hSw; (try dsimp only at hSw); (go_simp <;> with_reducible rfl)
      (try dsimp only); (try rw [held_put]); (try dsimp only [List.set_cons_zero, List.set_cons_succ])
      refine wpAnyH_ready (rs := [72]) (by as_aux_lemma => kernel_rfl) (by simp) ?_
      refine AllReadyH.cons rfl (fun K hK => ?_) ?_
      rotate_left
      exact AllReadyH.nil
      go_simp
      try (first | (go_at_call 46; clear tok16; with_reducible refine (k16 _).mono ?_; rintro e w16 ⟨aF, eF, oF, fF, rfl, g, g', rr⟩; have M' := ((M.up rr).add g).add g'; replace N := N.up rr; clear M rr g g'; have M := M'; clear M') | (go_at_call 45; clear tok17; with_reducible refine (k17 _ (M.get 12 rfl) (M.get 11 rfl) (M.get 1 rfl) (M.get 0 rfl)).mono ?_; rintro e w17 ⟨rfl, rr⟩; have M' := M.up rr; replace N := N.up rr; clear M rr ; have M := M'; clear M') | (go_at_call 46; clear tok18; with_reducible refine (k18 _).mono ?_; rintro e w18 ⟨aT, eT, oT, fT, rfl, g, g', rr⟩; have M' := ((M.up rr).add g).add g'; replace N := N.up rr; clear M rr g g'; have M := M'; clear M') | (go_at_call 46; clear tok19; with_reducible refine (k19 _).mono ?_; rintro e w19 ⟨aG, eG, oG, fG, rfl, g, g', rr⟩; have M' := ((M.up rr).add g).add g'; replace N := N.up rr; clear M rr g g'; have M := M'; clear M') | (go_at_call 10; clear tok20; with_reducible refine (k20 _ (M.get 3 rfl) (M.get 2 rfl) (M.get 1 rfl) (M.get 0 rfl)).mono ?_; rintro e w20 ⟨aS, eS, oS, fS, rfl, g, g', rr⟩; have M' := ((M.up rr).add g).add g'; replace N := N.up rr; clear M rr g g'; have M := M'; clear M') | (go_at_call 46; clear tok21; with_reducible refine (k21 _).mono ?_; rintro e w21 ⟨aH, eH, oH, fH, rfl, g, g', rr⟩; have M' := ((M.up rr).add g).add g'; replace N := N.up rr; clear M rr g g'; have M := M'; clear M') | (go_at_call 45; clear tok22; with_reducible refine (k22 _ (M.get 3 rfl) (M.get 2 rfl) (M.get 1 rfl) (M.get 0 rfl)).mono ?_; rintro e w22 ⟨rfl, rr⟩; have M' := M.up rr; replace N := N.up rr; clear M rr ; have M := M'; clear M') | (go_at_call 46; clear tok23; with_reducible refine (k23 _).mono ?_; rintro e w23 ⟨aI, eI, oI, fI, rfl, g, g', rr⟩; have M' := ((M.up rr).add g).add g'; replace N := N.up rr; clear M rr g g'; have M := M'; clear M') | (go_at_call 42; clear tok24; with_reducible refine (k24 _ (M.get 1 rfl) (M.get 0 rfl)).mono ?_; rintro e w24 ⟨rfl, rr⟩; have M' := M.up rr; replace N := N.up rr; clear M rr ; have M := M'; clear M') | (go_at_call 138; clear tok25; with_reducible refine (k25 _).mono ?_; rintro e w25 ⟨aJ, eJ, oJ, fJ, rfl, g, g', rr⟩; have M' := ((M.up rr).add g).add g'; replace N := N.up rr; clear M rr g g'; have M := M'; clear M') | (go_at_call 46; clear tok26; with_reducible refine (k26 _).mono ?_; rintro e w26 ⟨aK, eK, oK, fK, rfl, g, g', rr⟩; have M' := ((M.up rr).add g).add g'; replace N := N.up rr; clear M rr g g'; have M := M'; clear M') | (go_at_call 45; clear tok27; with_reducible refine (k27 _ (M.get 3 rfl) (M.get 2 rfl) (M.get 1 rfl) (M.get 0 rfl)).mono ?_; rintro e w27 ⟨rfl, rr⟩; have M' := M.up rr; replace N := N.up rr; clear M rr ; have M := M'; clear M') | (go_at_call 138; clear tok28; with_reducible refine (k28 _).mono ?_; rintro e w28 ⟨aP, eP, oP, fP, rfl, g, g', rr⟩; have M' := ((M.up rr).add g).add g'; replace N := N.up rr; clear M rr g g'; have M := M'; clear M') | (go_at_call 46; clear tok29; with_reducible refine (k29 _).mono ?_; rintro e w29 ⟨aR, eR, oR, fR, rfl, g, g', rr⟩; have M' := ((M.up rr).add g).add g'; replace N := N.up rr; clear M rr g g'; have M := M'; clear M') | (go_at_call 45; clear tok30; with_reducible refine (k30 _ (M.get 3 rfl) (M.get 2 rfl) (M.get 1 rfl) (M.get 0 rfl)).mono ?_; rintro e w30 ⟨rfl, rr⟩; have M' := M.up rr; replace N := N.up rr; clear M rr ; have M := M'; clear M') | (go_at_call 36; with_reducible refine (rchk_bad _).mono ?_; rintro e w31 ⟨rfl, rr⟩; replace M := M.up rr; replace N := N.up rr; clear rr) | (go_at_call 36; with_reducible refine (rchk_bad2 _).mono ?_; rintro e w31 ⟨rfl, rr⟩; replace M := M.up rr; replace N := N.up rr; clear rr))
      clear hHeld
      refine hK.out _ _ ?_ (fun hHeld => ?_)
      · try dsimp only
        (first | (have y0_ := N.cell 0 rfl 0 rfl; have y1_ := N.cell 0 rfl 1 rfl; have y2_ := N.cell 0 rfl 2 rfl; have y3_ := N.cell 1 rfl 0 rfl; have y4_ := N.cell 1 rfl 1 rfl; have y5_ := N.cell 1 rfl 2 rfl; have y6_ := cell_three (N.get 0 rfl); have y7_ := cell_two (N.get 1 rfl); first | (with_reducible exact ⟨y0_, y1_, y2_, y3_, y4_, y5_, y6_, y7_⟩) | (with_reducible exact ⟨cell_al _ y0_, cell_al _ y1_, cell_al _ y2_, cell_al _ y3_, cell_al _ y4_, cell_al _ y5_, cell_al _ y6_, cell_al _ y7_⟩) | (with_reducible exact ⟨cell_al _ (cell_al _ y0_), cell_al _ (cell_al _ y1_), cell_al _ (cell_al _ y2_), cell_al _ (cell_al _ y3_), cell_al _ (cell_al _ y4_), cell_al _ (cell_al _ y5_), cell_al _ (cell_al _ y6_), cell_al _ (cell_al _ y7_)⟩)))
      clear hK K
      (try dsimp only); (try rw [held_put]); (try dsimp only [List.set_cons_zero, List.set_cons_succ])
      refine wpAnyH_ready (rs := [73]) (by as_aux_lemma => kernel_rfl) (by simp) ?_
      refine AllReadyH.cons rfl (fun K hK => ?_) ?_
      rotate_left
      exact AllReadyH.nil
      go_simp
      try (first | (go_at_call 46; clear tok16; with_reducible refine (k16 _).mono ?_; rintro e w16 ⟨aF, eF, oF, fF, rfl, g, g', rr⟩; have M' := ((M.up rr).add g).add g'; replace N := N.up rr; clear M rr g g'; have M := M'; clear M') | (go_at_call 45; clear tok17; with_reducible refine (k17 _ (M.get 12 rfl) (M.get 11 rfl) (M.get 1 rfl) (M.get 0 rfl)).mono ?_; rintro e w17 ⟨rfl, rr⟩; have M' := M.up rr; replace N := N.up rr; clear M rr ; have M := M'; clear M') | (go_at_call 46; clear tok18; with_reducible refine (k18 _).mono ?_; rintro e w18 ⟨aT, eT, oT, fT, rfl, g, g', rr⟩; have M' := ((M.up rr).add g).add g'; replace N := N.up rr; clear M rr g g'; have M := M'; clear M') | (go_at_call 46; clear tok19; with_reducible refine (k19 _).mono ?_; rintro e w19 ⟨aG, eG, oG, fG, rfl, g, g', rr⟩; have M' := ((M.up rr).add g).add g'; replace N := N.up rr; clear M rr g g'; have M := M'; clear M') | (go_at_call 10; clear tok20; with_reducible refine (k20 _ (M.get 3 rfl) (M.get 2 rfl) (M.get 1 rfl) (M.get 0 rfl)).mono ?_; rintro e w20 ⟨aS, eS, oS, fS, rfl, g, g', rr⟩; have M' := ((M.up rr).add g).add g'; replace N := N.up rr; clear M rr g g'; have M := M'; clear M') | (go_at_call 46; clear tok21; with_reducible refine (k21 _).mono ?_; rintro e w21 ⟨aH, eH, oH, fH, rfl, g, g', rr⟩; have M' := ((M.up rr).add g).add g'; replace N := N.up rr; clear M rr g g'; have M := M'; clear M') | (go_at_call 45; clear tok22; with_reducible refine (k22 _ (M.get 3 rfl) (M.get 2 rfl) (M.get 1 rfl) (M.get 0 rfl)).mono ?_; rintro e w22 ⟨rfl, rr⟩; have M' := M.up rr; replace N := N.up rr; clear M rr ; have M := M'; clear M') | (go_at_call 46; clear tok23; with_reducible refine (k23 _).mono ?_; rintro e w23 ⟨aI, eI, oI, fI, rfl, g, g', rr⟩; have M' := ((M.up rr).add g).add g'; replace N := N.up rr; clear M rr g g'; have M := M'; clear M') | (go_at_call 42; clear tok24; with_reducible refine (k24 _ (M.get 1 rfl) (M.get 0 rfl)).mono ?_; rintro e w24 ⟨rfl, rr⟩; have M' := M.up rr; replace N := N.up rr; clear M rr ; have M := M'; clear M') | (go_at_call 138; clear tok25; with_reducible refine (k25 _).mono ?_; rintro e w25 ⟨aJ, eJ, oJ, fJ, rfl, g, g', rr⟩; have M' := ((M.up rr).add g).add g'; replace N := N.up rr; clear M rr g g'; have M := M'; clear M') | (go_at_call 46; clear tok26; with_reducible refine (k26 _).mono ?_; rintro e w26 ⟨aK, eK, oK, fK, rfl, g, g', rr⟩; have M' := ((M.up rr).add g).add g'; replace N := N.up rr; clear M rr g g'; have M := M'; clear M') | (go_at_call 45; clear tok27; with_reducible refine (k27 _ (M.get 3 rfl) (M.get 2 rfl) (M.get 1 rfl) (M.get 0 rfl)).mono ?_; rintro e w27 ⟨rfl, rr⟩; have M' := M.up rr; replace N := N.up rr; clear M rr ; have M := M'; clear M') | (go_at_call 138; clear tok28; with_reducible refine (k28 _).mono ?_; rintro e w28 ⟨aP, eP, oP, fP, rfl, g, g', rr⟩; have M' := ((M.up rr).add g).add g'; replace N := N.up rr; clear M rr g g'; have M := M'; clear M') | (go_at_call 46; clear tok29; with_reducible refine (k29 _).mono ?_; rintro e w29 ⟨aR, eR, oR, fR, rfl, g, g', rr⟩; have M' := ((M.up rr).add g).add g'; replace N := N.up rr; clear M rr g g'; have M := M'; clear M') | (go_at_call 45; clear tok30; with_reducible refine (k30 _ (M.get 3 rfl) (M.get 2 rfl) (M.get 1 rfl) (M.get 0 rfl)).mono ?_; rintro e w30 ⟨rfl, rr⟩; have M' := M.up rr; replace N := N.up rr; clear M rr ; have M := M'; clear M') | (go_at_call 36; with_reducible refine (rchk_bad _).mono ?_; rintro e w31 ⟨rfl, rr⟩; replace M := M.up rr; replace N := N.up rr; clear rr) | (go_at_call 36; with_reducible refine (rchk_bad2 _).mono ?_; rintro e w31 ⟨rfl, rr⟩; replace M := M.up rr; replace N := N.up rr; clear rr))
      clear hHeld
      refine hK.out _ _ ?_ (fun hHeld => ?_)
      · try dsimp only
        (first | (have y0_ := N.cell 0 rfl 0 rfl; have y1_ := N.cell 0 rfl 1 rfl; have y2_ := N.cell 0 rfl 2 rfl; have y3_ := N.cell 1 rfl 0 rfl; have y4_ := N.cell 1 rfl 1 rfl; have y5_ := N.cell 1 rfl 2 rfl; have y6_ := cell_three (N.get 0 rfl); have y7_ := cell_two (N.get 1 rfl); first | (with_reducible exact ⟨y0_, y1_, y2_, y3_, y4_, y5_, y6_, y7_⟩) | (with_reducible exact ⟨cell_al _ y0_, cell_al _ y1_, cell_al _ y2_, cell_al _ y3_, cell_al _ y4_, cell_al _ y5_, cell_al _ y6_, cell_al _ y7_⟩) | (with_reducible exact ⟨cell_al _ (cell_al _ y0_), cell_al _ (cell_al _ y1_), cell_al _ (cell_al _ y2_), cell_al _ (cell_al _ y3_), cell_al _ (cell_al _ y4_), cell_al _ (cell_al _ y5_), cell_al _ (cell_al _ y6_), cell_al _ (cell_al _ y7_)⟩)))
      clear hK K
      (try dsimp only); (try rw [held_put]); (try dsimp only [List.set_cons_zero, List.set_cons_succ])
      as_aux_lemma =>
        refine wpAnyH_take (i := 74) (oi := ⟨_, _, _, _, _, _⟩) (v := ?_) rfl (by as_aux_lemma => kernel_rfl) (by as_aux_lemma => kernel_rfl) (by as_aux_lemma => kernel_rfl) (fun _ _ _ h => h) (Or.inl ⟨by rfl, ?_⟩) (by assumption) ?_
        rotate_left
        · intro w hSw; (try dsimp only at hSw); (go_simp <;> with_reducible rfl)
        (try dsimp only); (try rw [held_put]); (try dsimp only [List.set_cons_zero, List.set_cons_succ])
        refine wpAnyH_take (i := 75) (oi := ⟨_, _, _, _, _, _⟩) (v := ?_) rfl (by as_aux_lemma => kernel_rfl) (by as_aux_lemma => kernel_rfl) (by as_aux_lemma => kernel_rfl) (fun _ _ _ h => h) (Or.inl ⟨by rfl, ?_⟩) (by assumption) ?_
        rotate_left
        · intro w hSw; (try dsimp only at hSw); (go_simp <;> with_reducible rfl)
        (try dsimp only); (try rw [held_put]); (try dsimp only [List.set_cons_zero, List.set_cons_succ])
        refine wpAnyH_take (i := 76) (oi := ⟨_, _, _, _, _, _⟩) (v := ?_) rfl (by as_aux_lemma => kernel_rfl) (by as_aux_lemma => kernel_rfl) (by as_aux_lemma => kernel_rfl) (fun _ _ _ h => h) (Or.inl ⟨by rfl, ?_⟩) (by assumption) ?_
        rotate_left
        · intro w hSw; (try dsimp only at hSw); (go_simp <;> with_reducible rfl)
        (try dsimp only); (try rw [held_put]); (try dsimp only [List.set_cons_zero, List.set_cons_succ])
        refine wpAnyH_ready (rs := [77]) (by as_aux_lemma => kernel_rfl) (by simp) ?_
        refine AllReadyH.cons rfl (fun K hK => ?_) ?_
        rotate_left
        exact AllReadyH.nil
        go_simp
        try (first | (go_at_call 46; clear tok16; with_reducible refine (k16 _).mono ?_; rintro e w16 ⟨aF, eF, oF, fF, rfl, g, g', rr⟩; have M' := ((M.up rr).add g).add g'; replace N := N.up rr; clear M rr g g'; have M := M'; clear M') | (go_at_call 45; clear tok17; with_reducible refine (k17 _ (M.get 12 rfl) (M.get 11 rfl) (M.get 1 rfl) (M.get 0 rfl)).mono ?_; rintro e w17 ⟨rfl, rr⟩; have M' := M.up rr; replace N := N.up rr; clear M rr ; have M := M'; clear M') | (go_at_call 46; clear tok18; with_reducible refine (k18 _).mono ?_; rintro e w18 ⟨aT, eT, oT, fT, rfl, g, g', rr⟩; have M' := ((M.up rr).add g).add g'; replace N := N.up rr; clear M rr g g'; have M := M'; clear M') | (go_at_call 46; clear tok19; with_reducible refine (k19 _).mono ?_; rintro e w19 ⟨aG, eG, oG, fG, rfl, g, g', rr⟩; have M' := ((M.up rr).add g).add g'; replace N := N.up rr; clear M rr g g'; have M := M'; clear M') | (go_at_call 10; clear tok20; with_reducible refine (k20 _ (M.get 3 rfl) (M.get 2 rfl) (M.get 1 rfl) (M.get 0 rfl)).mono ?_; rintro e w20 ⟨aS, eS, oS, fS, rfl, g, g', rr⟩; have M' := ((M.up rr).add g).add g'; replace N := N.up rr; clear M rr g g'; have M := M'; clear M') | (go_at_call 46; clear tok21; with_reducible refine (k21 _).mono ?_; rintro e w21 ⟨aH, eH, oH, fH, rfl, g, g', rr⟩; have M' := ((M.up rr).add g).add g'; replace N := N.up rr; clear M rr g g'; have M := M'; clear M') | (go_at_call 45; clear tok22; with_reducible refine (k22 _ (M.get 3 rfl) (M.get 2 rfl) (M.get 1 rfl) (M.get 0 rfl)).mono ?_; rintro e w22 ⟨rfl, rr⟩; have M' := M.up rr; replace N := N.up rr; clear M rr ; have M := M'; clear M') | (go_at_call 46; clear tok23; with_reducible refine (k23 _).mono ?_; rintro e w23 ⟨aI, eI, oI, fI, rfl, g, g', rr⟩; have M' := ((M.up rr).add g).add g'; replace N := N.up rr; clear M rr g g'; have M := M'; clear M') | (go_at_call 42; clear tok24; with_reducible refine (k24 _ (M.get 1 rfl) (M.get 0 rfl)).mono ?_; rintro e w24 ⟨rfl, rr⟩; have M' := M.up rr; replace N := N.up rr; clear M rr ; have M := M'; clear M') | (go_at_call 138; clear tok25; with_reducible refine (k25 _).mono ?_; rintro e w25 ⟨aJ, eJ, oJ, fJ, rfl, g, g', rr⟩; have M' := ((M.up rr).add g).add g'; replace N := N.up rr; clear M rr g g'; have M := M'; clear M') | (go_at_call 46; clear tok26; with_reducible refine (k26 _).mono ?_; rintro e w26 ⟨aK, eK, oK, fK, rfl, g, g', rr⟩; have M' := ((M.up rr).add g).add g'; replace N := N.up rr; clear M rr g g'; have M := M'; clear M') | (go_at_call 45; clear tok27; with_reducible refine (k27 _ (M.get 3 rfl) (M.get 2 rfl) (M.get 1 rfl) (M.get 0 rfl)).mono ?_; rintro e w27 ⟨rfl, rr⟩; have M' := M.up rr; replace N := N.up rr; clear M rr ; have M := M'; clear M') | (go_at_call 138; clear tok28; with_reducible refine (k28 _).mono ?_; rintro e w28 ⟨aP, eP, oP, fP, rfl, g, g', rr⟩; have M' := ((M.up rr).add g).add g'; replace N := N.up rr; clear M rr g g'; have M := M'; clear M') | (go_at_call 46; clear tok29; with_reducible refine (k29 _).mono ?_; rintro e w29 ⟨aR, eR, oR, fR, rfl, g, g', rr⟩; have M' := ((M.up rr).add g).add g'; replace N := N.up rr; clear M rr g g'; have M := M'; clear M') | (go_at_call 45; clear tok30; with_reducible refine (k30 _ (M.get 3 rfl) (M.get 2 rfl) (M.get 1 rfl) (M.get 0 rfl)).mono ?_; rintro e w30 ⟨rfl, rr⟩; have M' := M.up rr; replace N := N.up rr; clear M rr ; have M := M'; clear M') | (go_at_call 36; with_reducible refine (rchk_bad _).mono ?_; rintro e w31 ⟨rfl, rr⟩; replace M := M.up rr; replace N := N.up rr; clear rr) | (go_at_call 36; with_reducible refine (rchk_bad2 _).mono ?_; rintro e w31 ⟨rfl, rr⟩; replace M := M.up rr; replace N := N.up rr; clear rr))
        clear hHeld
        refine hK.out _ _ ?_ (fun hHeld => ?_)
        · try dsimp only
          (first | (have y0_ := N.cell 0 rfl 0 rfl; have y1_ := N.cell 0 rfl 1 rfl; have y2_ := N.cell 0 rfl 2 rfl; have y3_ := N.cell 1 rfl 0 rfl; have y4_ := N.cell 1 rfl 1 rfl; have y5_ := N.cell 1 rfl 2 rfl; have y6_ := cell_three (N.get 0 rfl); have y7_ := cell_two (N.get 1 rfl); first | (with_reducible exact ⟨y0_, y1_, y2_, y3_, y4_, y5_, y6_, y7_⟩) | (with_reducible exact ⟨cell_al _ y0_, cell_al _ y1_, cell_al _ y2_, cell_al _ y3_, cell_al _ y4_, cell_al _ y5_, cell_al _ y6_, cell_al _ y7_⟩) | (with_reducible exact ⟨cell_al _ (cell_al _ y0_), cell_al _ (cell_al _ y1_), cell_al _ (cell_al _ y2_), cell_al _ (cell_al _ y3_), cell_al _ (cell_al _ y4_), cell_al _ (cell_al _ y5_), cell_al _ (cell_al _ y6_), cell_al _ (cell_al _ y7_)⟩)))
        clear hK K
        (try dsimp only); (try rw [held_put]); (try dsimp only [List.set_cons_zero, List.set_cons_succ])
        refine wpAnyH_ready (rs := [78]) (by as_aux_lemma => kernel_rfl) (by simp) ?_
        refine AllReadyH.cons rfl (fun K hK => ?_) ?_
        rotate_left
        exact AllReadyH.nil
        go_simp
        try (first | (go_at_call 46; clear tok16; with_reducible refine (k16 _).mono ?_; rintro e w16 ⟨aF, eF, oF, fF, rfl, g, g', rr⟩; have M' := ((M.up rr).add g).add g'; replace N := N.up rr; clear M rr g g'; have M := M'; clear M') | (go_at_call 45; clear tok17; with_reducible refine (k17 _ (M.get 12 rfl) (M.get 11 rfl) (M.get 1 rfl) (M.get 0 rfl)).mono ?_; rintro e w17 ⟨rfl, rr⟩; have M' := M.up rr; replace N := N.up rr; clear M rr ; have M := M'; clear M') | (go_at_call 46; clear tok18; with_reducible refine (k18 _).mono ?_; rintro e w18 ⟨aT, eT, oT, fT, rfl, g, g', rr⟩; have M' := ((M.up rr).add g).add g'; replace N := N.up rr; clear M rr g g'; have M := M'; clear M') | (go_at_call 46; clear tok19; with_reducible refine (k19 _).mono ?_; rintro e w19 ⟨aG, eG, oG, fG, rfl, g, g', rr⟩; have M' := ((M.up rr).add g).add g'; replace N := N.up rr; clear M rr g g'; have M := M'; clear M') | (go_at_call 10; clear tok20; with_reducible refine (k20 _ (M.get 3 rfl) (M.get 2 rfl) (M.get 1 rfl) (M.get 0 rfl)).mono ?_; rintro e w20 ⟨aS, eS, oS, fS, rfl, g, g', rr⟩; have M' := ((M.up rr).add g).add g'; replace N := N.up rr; clear M rr g g'; have M := M'; clear M') | (go_at_call 46; clear tok21; with_reducible refine (k21 _).mono ?_; rintro e w21 ⟨aH, eH, oH, fH, rfl, g, g', rr⟩; have M' := ((M.up rr).add g).add g'; replace N := N.up rr; clear M rr g g'; have M := M'; clear M') | (go_at_call 45; clear tok22; with_reducible refine (k22 _ (M.get 3 rfl) (M.get 2 rfl) (M.get 1 rfl) (M.get 0 rfl)).mono ?_; rintro e w22 ⟨rfl, rr⟩; have M' := M.up rr; replace N := N.up rr; clear M rr ; have M := M'; clear M') | (go_at_call 46; clear tok23; with_reducible refine (k23 _).mono ?_; rintro e w23 ⟨aI, eI, oI, fI, rfl, g, g', rr⟩; have M' := ((M.up rr).add g).add g'; replace N := N.up rr; clear M rr g g'; have M := M'; clear M') | (go_at_call 42; clear tok24; with_reducible refine (k24 _ (M.get 1 rfl) (M.get 0 rfl)).mono ?_; rintro e w24 ⟨rfl, rr⟩; have M' := M.up rr; replace N := N.up rr; clear M rr ; have M := M'; clear M') | (go_at_call 138; clear tok25; with_reducible refine (k25 _).mono ?_; rintro e w25 ⟨aJ, eJ, oJ, fJ, rfl, g, g', rr⟩; have M' := ((M.up rr).add g).add g'; replace N := N.up rr; clear M rr g g'; have M := M'; clear M') | (go_at_call 46; clear tok26; with_reducible refine (k26 _).mono ?_; rintro e w26 ⟨aK, eK, oK, fK, rfl, g, g', rr⟩; have M' := ((M.up rr).add g).add g'; replace N := N.up rr; clear M rr g g'; have M := M'; clear M') | (go_at_call 45; clear tok27; with_reducible refine (k27 _ (M.get 3 rfl) (M.get 2 rfl) (M.get 1 rfl) (M.get 0 rfl)).mono ?_; rintro e w27 ⟨rfl, rr⟩; have M' := M.up rr; replace N := N.up rr; clear M rr ; have M := M'; clear M') | (go_at_call 138; clear tok28; with_reducible refine (k28 _).mono ?_; rintro e w28 ⟨aP, eP, oP, fP, rfl, g, g', rr⟩; have M' := ((M.up rr).add g).add g'; replace N := N.up rr; clear M rr g g'; have M := M'; clear M') | (go_at_call 46; clear tok29; with_reducible refine (k29 _).mono ?_; rintro e w29 ⟨aR, eR, oR, fR, rfl, g, g', rr⟩; have M' := ((M.up rr).add g).add g'; replace N := N.up rr; clear M rr g g'; have M := M'; clear M') | (go_at_call 45; clear tok30; with_reducible refine (k30 _ (M.get 3 rfl) (M.get 2 rfl) (M.get 1 rfl) (M.get 0 rfl)).mono ?_; rintro e w30 ⟨rfl, rr⟩; have M' := M.up rr; replace N := N.up rr; clear M rr ; have M := M'; clear M') | (go_at_call 36; with_reducible refine (rchk_bad _).mono ?_; rintro e w31 ⟨rfl, rr⟩; replace M := M.up rr; replace N := N.up rr; clear rr) | (go_at_call 36; with_reducible refine (rchk_bad2 _).mono ?_; rintro e w31 ⟨rfl, rr⟩; replace M := M.up rr; replace N := N.up rr; clear rr))
        clear hHeld
        refine hK.out _ _ ?_ (fun hHeld => ?_)
        · try dsimp only
          (first | (have y0_ := N.cell 0 rfl 0 rfl; have y1_ := N.cell 0 rfl 1 rfl; have y2_ := N.cell 0 rfl 2 rfl; have y3_ := N.cell 1 rfl 0 rfl; have y4_ := N.cell 1 rfl 1 rfl; have y5_ := N.cell 1 rfl 2 rfl; have y6_ := cell_three (N.get 0 rfl); have y7_ := cell_two (N.get 1 rfl); first | (with_reducible exact ⟨y0_, y1_, y2_, y3_, y4_, y5_, y6_, y7_⟩) | (with_reducible exact ⟨cell_al _ y0_, cell_al _ y1_, cell_al _ y2_, cell_al _ y3_, cell_al _ y4_, cell_al _ y5_, cell_al _ y6_, cell_al _ y7_⟩) | (with_reducible exact ⟨cell_al _ (cell_al _ y0_), cell_al _ (cell_al _ y1_), cell_al _ (cell_al _ y2_), cell_al _ (cell_al _ y3_), cell_al _ (cell_al _ y4_), cell_al _ (cell_al _ y5_), cell_al _ (cell_al _ y6_), cell_al _ (cell_al _ y7_)⟩)))
        clear hK K
        (try dsimp only); (try rw [held_put]); (try dsimp only [List.set_cons_zero, List.set_cons_succ])
        refine wpAnyH_ready (rs := [79]) (by as_aux_lemma => kernel_rfl) (by simp) ?_
        refine AllReadyH.cons rfl (fun K hK => ?_) ?_
        rotate_left
        exact AllReadyH.nil
        go_simp
        try (first | (go_at_call 46; clear tok16; with_reducible refine (k16 _).mono ?_; rintro e w16 ⟨aF, eF, oF, fF, rfl, g, g', rr⟩; have M' := ((M.up rr).add g).add g'; replace N := N.up rr; clear M rr g g'; have M := M'; clear M') | (go_at_call 45; clear tok17; with_reducible refine (k17 _ (M.get 12 rfl) (M.get 11 rfl) (M.get 1 rfl) (M.get 0 rfl)).mono ?_; rintro e w17 ⟨rfl, rr⟩; have M' := M.up rr; replace N := N.up rr; clear M rr ; have M := M'; clear M') | (go_at_call 46; clear tok18; with_reducible refine (k18 _).mono ?_; rintro e w18 ⟨aT, eT, oT, fT, rfl, g, g', rr⟩; have M' := ((M.up rr).add g).add g'; replace N := N.up rr; clear M rr g g'; have M := M'; clear M') | (go_at_call 46; clear tok19; with_reducible refine (k19 _).mono ?_; rintro e w19 ⟨aG, eG, oG, fG, rfl, g, g', rr⟩; have M' := ((M.up rr).add g).add g'; replace N := N.up rr; clear M rr g g'; have M := M'; clear M') | (go_at_call 10; clear tok20; with_reducible refine (k20 _ (M.get 3 rfl) (M.get 2 rfl) (M.get 1 rfl) (M.get 0 rfl)).mono ?_; rintro e w20 ⟨aS, eS, oS, fS, rfl, g, g', rr⟩; have M' := ((M.up rr).add g).add g'; replace N := N.up rr; clear M rr g g'; have M := M'; clear M') | (go_at_call 46; clear tok21; with_reducible refine (k21 _).mono ?_; rintro e w21 ⟨aH, eH, oH, fH, rfl, g, g', rr⟩; have M' := ((M.up rr).add g).add g'; replace N := N.up rr; clear M rr g g'; have M := M'; clear M') | (go_at_call 45; clear tok22; with_reducible refine (k22 _ (M.get 3 rfl) (M.get 2 rfl) (M.get 1 rfl) (M.get 0 rfl)).mono ?_; rintro e w22 ⟨rfl, rr⟩; have M' := M.up rr; replace N := N.up rr; clear M rr ; have M := M'; clear M') | (go_at_call 46; clear tok23; with_reducible refine (k23 _).mono ?_; rintro e w23 ⟨aI, eI, oI, fI, rfl, g, g', rr⟩; have M' := ((M.up rr).add g).add g'; replace N := N.up rr; clear M rr g g'; have M := M'; clear M') | (go_at_call 42; clear tok24; with_reducible refine (k24 _ (M.get 1 rfl) (M.get 0 rfl)).mono ?_; rintro e w24 ⟨rfl, rr⟩; have M' := M.up rr; replace N := N.up rr; clear M rr ; have M := M'; clear M') | (go_at_call 138; clear tok25; with_reducible refine (k25 _).mono ?_; rintro e w25 ⟨aJ, eJ, oJ, fJ, rfl, g, g', rr⟩; have M' := ((M.up rr).add g).add g'; replace N := N.up rr; clear M rr g g'; have M := M'; clear M') | (go_at_call 46; clear tok26; with_reducible refine (k26 _).mono ?_; rintro e w26 ⟨aK, eK, oK, fK, rfl, g, g', rr⟩; have M' := ((M.up rr).add g).add g'; replace N := N.up rr; clear M rr g g'; have M := M'; clear M') | (go_at_call 45; clear tok27; with_reducible refine (k27 _ (M.get 3 rfl) (M.get 2 rfl) (M.get 1 rfl) (M.get 0 rfl)).mono ?_; rintro e w27 ⟨rfl, rr⟩; have M' := M.up rr; replace N := N.up rr; clear M rr ; have M := M'; clear M') | (go_at_call 138; clear tok28; with_reducible refine (k28 _).mono ?_; rintro e w28 ⟨aP, eP, oP, fP, rfl, g, g', rr⟩; have M' := ((M.up rr).add g).add g'; replace N := N.up rr; clear M rr g g'; have M := M'; clear M') | (go_at_call 46; clear tok29; with_reducible refine (k29 _).mono ?_; rintro e w29 ⟨aR, eR, oR, fR, rfl, g, g', rr⟩; have M' := ((M.up rr).add g).add g'; replace N := N.up rr; clear M rr g g'; have M := M'; clear M') | (go_at_call 45; clear tok30; with_reducible refine (k30 _ (M.get 3 rfl) (M.get 2 rfl) (M.get 1 rfl) (M.get 0 rfl)).mono ?_; rintro e w30 ⟨rfl, rr⟩; have M' := M.up rr; replace N := N.up rr; clear M rr ; have M := M'; clear M') | (go_at_call 36; with_reducible refine (rchk_bad _).mono ?_; rintro e w31 ⟨rfl, rr⟩; replace M := M.up rr; replace N := N.up rr; clear rr) | (go_at_call 36; with_reducible refine (rchk_bad2 _).mono ?_; rintro e w31 ⟨rfl, rr⟩; replace M := M.up rr; replace N := N.up rr; clear rr))
        clear hHeld
        refine hK.out _ _ ?_ (fun hHeld => ?_)
        · try dsimp only
          (first | (have y0_ := N.cell 0 rfl 0 rfl; have y1_ := N.cell 0 rfl 1 rfl; have y2_ := N.cell 0 rfl 2 rfl; have y3_ := N.cell 1 rfl 0 rfl; have y4_ := N.cell 1 rfl 1 rfl; have y5_ := N.cell 1 rfl 2 rfl; have y6_ := cell_three (N.get 0 rfl); have y7_ := cell_two (N.get 1 rfl); first | (with_reducible exact ⟨y0_, y1_, y2_, y3_, y4_, y5_, y6_, y7_⟩) | (with_reducible exact ⟨cell_al _ y0_, cell_al _ y1_, cell_al _ y2_, cell_al _ y3_, cell_al _ y4_, cell_al _ y5_, cell_al _ y6_, cell_al _ y7_⟩) | (with_reducible exact ⟨cell_al _ (cell_al _ y0_), cell_al _ (cell_al _ y1_), cell_al _ (cell_al _ y2_), cell_al _ (cell_al _ y3_), cell_al _ (cell_al _ y4_), cell_al _ (cell_al _ y5_), cell_al _ (cell_al _ y6_), cell_al _ (cell_al _ y7_)⟩)))
        clear hK K
        (try dsimp only); (try rw [held_put]); (try dsimp only [List.set_cons_zero, List.set_cons_succ])
        as_aux_lemma =>
          refine wpAnyH_take (i := 80) (oi := ⟨_, _, _, _, _, _⟩) (v := ?_) rfl (by as_aux_lemma => kernel_rfl) (by as_aux_lemma => kernel_rfl) (by as_aux_lemma => kernel_rfl) (fun _ _ _ h => h) (Or.inl ⟨by rfl, ?_⟩) (by assumption) ?_
          rotate_left
          · intro w hSw; (try dsimp only at hSw); (go_simp <;> with_reducible rfl)
          (try dsimp only); (try rw [held_put]); (try dsimp only [List.set_cons_zero, List.set_cons_succ])
          refine wpAnyH_take (i := 81) (oi := ⟨_, _, _, _, _, _⟩) (v := ?_) rfl (by as_aux_lemma => kernel_rfl) (by as_aux_lemma => kernel_rfl) (by as_aux_lemma => kernel_rfl) (fun _ _ _ h => h) (Or.inl ⟨by rfl, ?_⟩) (by assumption) ?_
          rotate_left
          · intro w hSw; (try dsimp only at hSw); (go_simp <;> with_reducible rfl)
          (try dsimp only); (try rw [held_put]); (try dsimp only [List.set_cons_zero, List.set_cons_succ])
          refine wpAnyH_ready (rs := [82]) (by as_aux_lemma => kernel_rfl) (by simp) ?_
          refine AllReadyH.cons rfl (fun K hK => ?_) ?_
          rotate_left
          exact AllReadyH.nil
          go_simp
          try (first | (go_at_call 46; clear tok16; with_reducible refine (k16 _).mono ?_; rintro e w16 ⟨aF, eF, oF, fF, rfl, g, g', rr⟩; have M' := ((M.up rr).add g).add g'; replace N := N.up rr; clear M rr g g'; have M := M'; clear M') | (go_at_call 45; clear tok17; with_reducible refine (k17 _ (M.get 12 rfl) (M.get 11 rfl) (M.get 1 rfl) (M.get 0 rfl)).mono ?_; rintro e w17 ⟨rfl, rr⟩; have M' := M.up rr; replace N := N.up rr; clear M rr ; have M := M'; clear M') | (go_at_call 46; clear tok18; with_reducible refine (k18 _).mono ?_; rintro e w18 ⟨aT, eT, oT, fT, rfl, g, g', rr⟩; have M' := ((M.up rr).add g).add g'; replace N := N.up rr; clear M rr g g'; have M := M'; clear M') | (go_at_call 46; clear tok19; with_reducible refine (k19 _).mono ?_; rintro e w19 ⟨aG, eG, oG, fG, rfl, g, g', rr⟩; have M' := ((M.up rr).add g).add g'; replace N := N.up rr; clear M rr g g'; have M := M'; clear M') | (go_at_call 10; clear tok20; with_reducible refine (k20 _ (M.get 3 rfl) (M.get 2 rfl) (M.get 1 rfl) (M.get 0 rfl)).mono ?_; rintro e w20 ⟨aS, eS, oS, fS, rfl, g, g', rr⟩; have M' := ((M.up rr).add g).add g'; replace N := N.up rr; clear M rr g g'; have M := M'; clear M') | (go_at_call 46; clear tok21; with_reducible refine (k21 _).mono ?_; rintro e w21 ⟨aH, eH, oH, fH, rfl, g, g', rr⟩; have M' := ((M.up rr).add g).add g'; replace N := N.up rr; clear M rr g g'; have M := M'; clear M') | (go_at_call 45; clear tok22; with_reducible refine (k22 _ (M.get 3 rfl) (M.get 2 rfl) (M.get 1 rfl) (M.get 0 rfl)).mono ?_; rintro e w22 ⟨rfl, rr⟩; have M' := M.up rr; replace N := N.up rr; clear M rr ; have M := M'; clear M') | (go_at_call 46; clear tok23; with_reducible refine (k23 _).mono ?_; rintro e w23 ⟨aI, eI, oI, fI, rfl, g, g', rr⟩; have M' := ((M.up rr).add g).add g'; replace N := N.up rr; clear M rr g g'; have M := M'; clear M') | (go_at_call 42; clear tok24; with_reducible refine (k24 _ (M.get 1 rfl) (M.get 0 rfl)).mono ?_; rintro e w24 ⟨rfl, rr⟩; have M' := M.up rr; replace N := N.up rr; clear M rr ; have M := M'; clear M') | (go_at_call 138; clear tok25; with_reducible refine (k25 _).mono ?_; rintro e w25 ⟨aJ, eJ, oJ, fJ, rfl, g, g', rr⟩; have M' := ((M.up rr).add g).add g'; replace N := N.up rr; clear M rr g g'; have M := M'; clear M') | (go_at_call 46; clear tok26; with_reducible refine (k26 _).mono ?_; rintro e w26 ⟨aK, eK, oK, fK, rfl, g, g', rr⟩; have M' := ((M.up rr).add g).add g'; replace N := N.up rr; clear M rr g g'; have M := M'; clear M') | (go_at_call 45; clear tok27; with_reducible refine (k27 _ (M.get 3 rfl) (M.get 2 rfl) (M.get 1 rfl) (M.get 0 rfl)).mono ?_; rintro e w27 ⟨rfl, rr⟩; have M' := M.up rr; replace N := N.up rr; clear M rr ; have M := M'; clear M') | (go_at_call 138; clear tok28; with_reducible refine (k28 _).mono ?_; rintro e w28 ⟨aP, eP, oP, fP, rfl, g, g', rr⟩; have M' := ((M.up rr).add g).add g'; replace N := N.up rr; clear M rr g g'; have M := M'; clear M') | (go_at_call 46; clear tok29; with_reducible refine (k29 _).mono ?_; rintro e w29 ⟨aR, eR, oR, fR, rfl, g, g', rr⟩; have M' := ((M.up rr).add g).add g'; replace N := N.up rr; clear M rr g g'; have M := M'; clear M') | (go_at_call 45; clear tok30; with_reducible refine (k30 _ (M.get 3 rfl) (M.get 2 rfl) (M.get 1 rfl) (M.get 0 rfl)).mono ?_; rintro e w30 ⟨rfl, rr⟩; have M' := M.up rr; replace N := N.up rr; clear M rr ; have M := M'; clear M') | (go_at_call 36; with_reducible refine (rchk_bad _).mono ?_; rintro e w31 ⟨rfl, rr⟩; replace M := M.up rr; replace N := N.up rr; clear rr) | (go_at_call 36; with_reducible refine (rchk_bad2 _).mono ?_; rintro e w31 ⟨rfl, rr⟩; replace M := M.up rr; replace N := N.up rr; clear rr))
          clear hHeld
          refine hK.out _ _ ?_ (fun hHeld => ?_)
          · try dsimp only
            (first | (have y0_ := N.cell 0 rfl 0 rfl; have y1_ := N.cell 0 rfl 1 rfl; have y2_ := N.cell 0 rfl 2 rfl; have y3_ := N.cell 1 rfl 0 rfl; have y4_ := N.cell 1 rfl 1 rfl; have y5_ := N.cell 1 rfl 2 rfl; have y6_ := cell_three (N.get 0 rfl); have y7_ := cell_two (N.get 1 rfl); first | (with_reducible exact ⟨y0_, y1_, y2_, y3_, y4_, y5_, y6_, y7_⟩) | (with_reducible exact ⟨cell_al _ y0_, cell_al _ y1_, cell_al _ y2_, cell_al _ y3_, cell_al _ y4_, cell_al _ y5_, cell_al _ y6_, cell_al _ y7_⟩) | (with_reducible exact ⟨cell_al _ (cell_al _ y0_), cell_al _ (cell_al _ y1_), cell_al _ (cell_al _ y2_), cell_al _ (cell_al _ y3_), cell_al _ (cell_al _ y4_), cell_al _ (cell_al _ y5_), cell_al _ (cell_al _ y6_), cell_al _ (cell_al _ y7_)⟩)))
          clear hK K
          (try dsimp only); (try rw [held_put]); (try dsimp only [List.set_cons_zero, List.set_cons_succ])
          refine wpAnyH_ready (rs := [83]) (by as_aux_lemma => kernel_rfl) (by simp) ?_
          refine AllReadyH.cons rfl (fun K hK => ?_) ?_
          rotate_left
          exact AllReadyH.nil
          go_simp
          try (first | (go_at_call 46; clear tok16; with_reducible refine (k16 _).mono ?_; rintro e w16 ⟨aF, eF, oF, fF, rfl, g, g', rr⟩; have M' := ((M.up rr).add g).add g'; replace N := N.up rr; clear M rr g g'; have M := M'; clear M') | (go_at_call 45; clear tok17; with_reducible refine (k17 _ (M.get 12 rfl) (M.get 11 rfl) (M.get 1 rfl) (M.get 0 rfl)).mono ?_; rintro e w17 ⟨rfl, rr⟩; have M' := M.up rr; replace N := N.up rr; clear M rr ; have M := M'; clear M') | (go_at_call 46; clear tok18; with_reducible refine (k18 _).mono ?_; rintro e w18 ⟨aT, eT, oT, fT, rfl, g, g', rr⟩; have M' := ((M.up rr).add g).add g'; replace N := N.up rr; clear M rr g g'; have M := M'; clear M') | (go_at_call 46; clear tok19; with_reducible refine (k19 _).mono ?_; rintro e w19 ⟨aG, eG, oG, fG, rfl, g, g', rr⟩; have M' := ((M.up rr).add g).add g'; replace N := N.up rr; clear M rr g g'; have M := M'; clear M') | (go_at_call 10; clear tok20; with_reducible refine (k20 _ (M.get 3 rfl) (M.get 2 rfl) (M.get 1 rfl) (M.get 0 rfl)).mono ?_; rintro e w20 ⟨aS, eS, oS, fS, rfl, g, g', rr⟩; have M' := ((M.up rr).add g).add g'; replace N := N.up rr; clear M rr g g'; have M := M'; clear M') | (go_at_call 46; clear tok21; with_reducible refine (k21 _).mono ?_; rintro e w21 ⟨aH, eH, oH, fH, rfl, g, g', rr⟩; have M' := ((M.up rr).add g).add g'; replace N := N.up rr; clear M rr g g'; have M := M'; clear M') | (go_at_call 45; clear tok22; with_reducible refine (k22 _ (M.get 3 rfl) (M.get 2 rfl) (M.get 1 rfl) (M.get 0 rfl)).mono ?_; rintro e w22 ⟨rfl, rr⟩; have M' := M.up rr; replace N := N.up rr; clear M rr ; have M := M'; clear M') | (go_at_call 46; clear tok23; with_reducible refine (k23 _).mono ?_; rintro e w23 ⟨aI, eI, oI, fI, rfl, g, g', rr⟩; have M' := ((M.up rr).add g).add g'; replace N := N.up rr; clear M rr g g'; have M := M'; clear M') | (go_at_call 42; clear tok24; with_reducible refine (k24 _ (M.get 1 rfl) (M.get 0 rfl)).mono ?_; rintro e w24 ⟨rfl, rr⟩; have M' := M.up rr; replace N := N.up rr; clear M rr ; have M := M'; clear M') | (go_at_call 138; clear tok25; with_reducible refine (k25 _).mono ?_; rintro e w25 ⟨aJ, eJ, oJ, fJ, rfl, g, g', rr⟩; have M' := ((M.up rr).add g).add g'; replace N := N.up rr; clear M rr g g'; have M := M'; clear M') | (go_at_call 46; clear tok26; with_reducible refine (k26 _).mono ?_; rintro e w26 ⟨aK, eK, oK, fK, rfl, g, g', rr⟩; have M' := ((M.up rr).add g).add g'; replace N := N.up rr; clear M rr g g'; have M := M'; clear M') | (go_at_call 45; clear tok27; with_reducible refine (k27 _ (M.get 3 rfl) (M.get 2 rfl) (M.get 1 rfl) (M.get 0 rfl)).mono ?_; rintro e w27 ⟨rfl, rr⟩; have M' := M.up rr; replace N := N.up rr; clear M rr ; have M := M'; clear M') | (go_at_call 138; clear tok28; with_reducible refine (k28 _).mono ?_; rintro e w28 ⟨aP, eP, oP, fP, rfl, g, g', rr⟩; have M' := ((M.up rr).add g).add g'; replace N := N.up rr; clear M rr g g'; have M := M'; clear M') | (go_at_call 46; clear tok29; with_reducible refine (k29 _).mono ?_; rintro e w29 ⟨aR, eR, oR, fR, rfl, g, g', rr⟩; have M' := ((M.up rr).add g).add g'; replace N := N.up rr; clear M rr g g'; have M := M'; clear M') | (go_at_call 45; clear tok30; with_reducible refine (k30 _ (M.get 3 rfl) (M.get 2 rfl) (M.get 1 rfl) (M.get 0 rfl)).mono ?_; rintro e w30 ⟨rfl, rr⟩; have M' := M.up rr; replace N := N.up rr; clear M rr ; have M := M'; clear M') | (go_at_call 36; with_reducible refine (rchk_bad _).mono ?_; rintro e w31 ⟨rfl, rr⟩; replace M := M.up rr; replace N := N.up rr; clear rr) | (go_at_call 36; with_reducible refine (rchk_bad2 _).mono ?_; rintro e w31 ⟨rfl, rr⟩; replace M := M.up rr; replace N := N.up rr; clear rr))
          clear hHeld
          refine hK.out _ _ ?_ (fun hHeld => ?_)
          · try dsimp only
            (first | (have y0_ := N.cell 0 rfl 0 rfl; have y1_ := N.cell 0 rfl 1 rfl; have y2_ := N.cell 0 rfl 2 rfl; have y3_ := N.cell 1 rfl 0 rfl; have y4_ := N.cell 1 rfl 1 rfl; have y5_ := N.cell 1 rfl 2 rfl; have y6_ := cell_three (N.get 0 rfl); have y7_ := cell_two (N.get 1 rfl); first | (with_reducible exact ⟨y0_, y1_, y2_, y3_, y4_, y5_, y6_, y7_⟩) | (with_reducible exact ⟨cell_al _ y0_, cell_al _ y1_, cell_al _ y2_, cell_al _ y3_, cell_al _ y4_, cell_al _ y5_, cell_al _ y6_, cell_al _ y7_⟩) | (with_reducible exact ⟨cell_al _ (cell_al _ y0_), cell_al _ (cell_al _ y1_), cell_al _ (cell_al _ y2_), cell_al _ (cell_al _ y3_), cell_al _ (cell_al _ y4_), cell_al _ (cell_al _ y5_), cell_al _ (cell_al _ y6_), cell_al _ (cell_al _ y7_)⟩)))
          clear hK K
          (try dsimp only); (try rw [held_put]); (try dsimp only [List.set_cons_zero, List.set_cons_succ])
          refine wpAnyH_ready (rs := [84]) (by as_aux_lemma => kernel_rfl) (by simp) ?_
          refine AllReadyH.cons rfl (fun K hK => ?_) ?_
          rotate_left
          exact AllReadyH.nil
          go_simp
          try (first | (go_at_call 46; clear tok16; with_reducible refine (k16 _).mono ?_; rintro e w16 ⟨aF, eF, oF, fF, rfl, g, g', rr⟩; have M' := ((M.up rr).add g).add g'; replace N := N.up rr; clear M rr g g'; have M := M'; clear M') | (go_at_call 45; clear tok17; with_reducible refine (k17 _ (M.get 12 rfl) (M.get 11 rfl) (M.get 1 rfl) (M.get 0 rfl)).mono ?_; rintro e w17 ⟨rfl, rr⟩; have M' := M.up rr; replace N := N.up rr; clear M rr ; have M := M'; clear M') | (go_at_call 46; clear tok18; with_reducible refine (k18 _).mono ?_; rintro e w18 ⟨aT, eT, oT, fT, rfl, g, g', rr⟩; have M' := ((M.up rr).add g).add g'; replace N := N.up rr; clear M rr g g'; have M := M'; clear M') | (go_at_call 46; clear tok19; with_reducible refine (k19 _).mono ?_; rintro e w19 ⟨aG, eG, oG, fG, rfl, g, g', rr⟩; have M' := ((M.up rr).add g).add g'; replace N := N.up rr; clear M rr g g'; have M := M'; clear M') | (go_at_call 10; clear tok20; with_reducible refine (k20 _ (M.get 3 rfl) (M.get 2 rfl) (M.get 1 rfl) (M.get 0 rfl)).mono ?_; rintro e w20 ⟨aS, eS, oS, fS, rfl, g, g', rr⟩; have M' := ((M.up rr).add g).add g'; replace N := N.up rr; clear M rr g g'; have M := M'; clear M') | (go_at_call 46; clear tok21; with_reducible refine (k21 _).mono ?_; rintro e w21 ⟨aH, eH, oH, fH, rfl, g, g', rr⟩; have M' := ((M.up rr).add g).add g'; replace N := N.up rr; clear M rr g g'; have M := M'; clear M') | (go_at_call 45; clear tok22; with_reducible refine (k22 _ (M.get 3 rfl) (M.get 2 rfl) (M.get 1 rfl) (M.get 0 rfl)).mono ?_; rintro e w22 ⟨rfl, rr⟩; have M' := M.up rr; replace N := N.up rr; clear M rr ; have M := M'; clear M') | (go_at_call 46; clear tok23; with_reducible refine (k23 _).mono ?_; rintro e w23 ⟨aI, eI, oI, fI, rfl, g, g', rr⟩; have M' := ((M.up rr).add g).add g'; replace N := N.up rr; clear M rr g g'; have M := M'; clear M') | (go_at_call 42; clear tok24; with_reducible refine (k24 _ (M.get 1 rfl) (M.get 0 rfl)).mono ?_; rintro e w24 ⟨rfl, rr⟩; have M' := M.up rr; replace N := N.up rr; clear M rr ; have M := M'; clear M') | (go_at_call 138; clear tok25; with_reducible refine (k25 _).mono ?_; rintro e w25 ⟨aJ, eJ, oJ, fJ, rfl, g, g', rr⟩; have M' := ((M.up rr).add g).add g'; replace N := N.up rr; clear M rr g g'; have M := M'; clear M') | (go_at_call 46; clear tok26; with_reducible refine (k26 _).mono ?_; rintro e w26 ⟨aK, eK, oK, fK, rfl, g, g', rr⟩; have M' := ((M.up rr).add g).add g'; replace N := N.up rr; clear M rr g g'; have M := M'; clear M') | (go_at_call 45; clear tok27; with_reducible refine (k27 _ (M.get 3 rfl) (M.get 2 rfl) (M.get 1 rfl) (M.get 0 rfl)).mono ?_; rintro e w27 ⟨rfl, rr⟩; have M' := M.up rr; replace N := N.up rr; clear M rr ; have M := M'; clear M') | (go_at_call 138; clear tok28; with_reducible refine (k28 _).mono ?_; rintro e w28 ⟨aP, eP, oP, fP, rfl, g, g', rr⟩; have M' := ((M.up rr).add g).add g'; replace N := N.up rr; clear M rr g g'; have M := M'; clear M') | (go_at_call 46; clear tok29; with_reducible refine (k29 _).mono ?_; rintro e w29 ⟨aR, eR, oR, fR, rfl, g, g', rr⟩; have M' := ((M.up rr).add g).add g'; replace N := N.up rr; clear M rr g g'; have M := M'; clear M') | (go_at_call 45; clear tok30; with_reducible refine (k30 _ (M.get 3 rfl) (M.get 2 rfl) (M.get 1 rfl) (M.get 0 rfl)).mono ?_; rintro e w30 ⟨rfl, rr⟩; have M' := M.up rr; replace N := N.up rr; clear M rr ; have M := M'; clear M') | (go_at_call 36; with_reducible refine (rchk_bad _).mono ?_; rintro e w31 ⟨rfl, rr⟩; replace M := M.up rr; replace N := N.up rr; clear rr) | (go_at_call 36; with_reducible refine (rchk_bad2 _).mono ?_; rintro e w31 ⟨rfl, rr⟩; replace M := M.up rr; replace N := N.up rr; clear rr))
          clear hHeld
          refine hK.out _ _ ?_ (fun hHeld => ?_)
          · try dsimp only
            (first | (have y0_ := N.cell 0 rfl 0 rfl; have y1_ := N.cell 0 rfl 1 rfl; have y2_ := N.cell 0 rfl 2 rfl; have y3_ := N.cell 1 rfl 0 rfl; have y4_ := N.cell 1 rfl 1 rfl; have y5_ := N.cell 1 rfl 2 rfl; have y6_ := cell_three (N.get 0 rfl); have y7_ := cell_two (N.get 1 rfl); first | (with_reducible exact ⟨y0_, y1_, y2_, y3_, y4_, y5_, y6_, y7_⟩) | (with_reducible exact ⟨cell_al _ y0_, cell_al _ y1_, cell_al _ y2_, cell_al _ y3_, cell_al _ y4_, cell_al _ y5_, cell_al _ y6_, cell_al _ y7_⟩) | (with_reducible exact ⟨cell_al _ (cell_al _ y0_), cell_al _ (cell_al _ y1_), cell_al _ (cell_al _ y2_), cell_al _ (cell_al _ y3_), cell_al _ (cell_al _ y4_), cell_al _ (cell_al _ y5_), cell_al _ (cell_al _ y6_), cell_al _ (cell_al _ y7_)⟩)))
          clear hK K
          (try dsimp only); (try rw [held_put]); (try dsimp only [List.set_cons_zero, List.set_cons_succ])
          as_aux_lemma =>
            refine wpAnyH_take (i := 85) (oi := ⟨_, _, _, _, _, _⟩) (v := ?_) rfl (by as_aux_lemma => kernel_rfl) (by as_aux_lemma => kernel_rfl) (by as_aux_lemma => kernel_rfl) (fun _ _ _ h => h) (Or.inl ⟨by rfl, ?_⟩) (by assumption) ?_
            rotate_left
            · intro w hSw; (try dsimp only at hSw); (go_simp <;> with_reducible rfl)
            (try dsimp only); (try rw [held_put]); (try dsimp only [List.set_cons_zero, List.set_cons_succ])
            refine wpAnyH_take (i := 86) (oi := ⟨_, _, _, _, _, _⟩) (v := ?_) rfl (by as_aux_lemma => kernel_rfl) (by as_aux_lemma => kernel_rfl) (by as_aux_lemma => kernel_rfl) (fun _ _ _ h => h) (Or.inl ⟨by rfl, ?_⟩) (by assumption) ?_
            rotate_left
            · intro w hSw; (try dsimp only at hSw); (go_simp <;> with_reducible rfl)
            (try dsimp only); (try rw [held_put]); (try dsimp only [List.set_cons_zero, List.set_cons_succ])
            refine wpAnyH_ready (rs := [87, 89]) (by as_aux_lemma => kernel_rfl) (by simp) ?_
            refine AllReadyH.cons rfl (fun K hK => ?_) ?_
            · go_simp
              try (first | (go_at_call 46; clear tok16; with_reducible refine (k16 _).mono ?_; rintro e w16 ⟨aF, eF, oF, fF, rfl, g, g', rr⟩; have M' := ((M.up rr).add g).add g'; replace N := N.up rr; clear M rr g g'; have M := M'; clear M') | (go_at_call 45; clear tok17; with_reducible refine (k17 _ (M.get 12 rfl) (M.get 11 rfl) (M.get 1 rfl) (M.get 0 rfl)).mono ?_; rintro e w17 ⟨rfl, rr⟩; have M' := M.up rr; replace N := N.up rr; clear M rr ; have M := M'; clear M') | (go_at_call 46; clear tok18; with_reducible refine (k18 _).mono ?_; rintro e w18 ⟨aT, eT, oT, fT, rfl, g, g', rr⟩; have M' := ((M.up rr).add g).add g'; replace N := N.up rr; clear M rr g g'; have M := M'; clear M') | (go_at_call 46; clear tok19; with_reducible refine (k19 _).mono ?_; rintro e w19 ⟨aG, eG, oG, fG, rfl, g, g', rr⟩; have M' := ((M.up rr).add g).add g'; replace N := N.up rr; clear M rr g g'; have M := M'; clear M') | (go_at_call 10; clear tok20; with_reducible refine (k20 _ (M.get 3 rfl) (M.get 2 rfl) (M.get 1 rfl) (M.get 0 rfl)).mono ?_; rintro e w20 ⟨aS, eS, oS, fS, rfl, g, g', rr⟩; have M' := ((M.up rr).add g).add g'; replace N := N.up rr; clear M rr g g'; have M := M'; clear M') | (go_at_call 46; clear tok21; with_reducible refine (k21 _).mono ?_; rintro e w21 ⟨aH, eH, oH, fH, rfl, g, g', rr⟩; have M' := ((M.up rr).add g).add g'; replace N := N.up rr; clear M rr g g'; have M := M'; clear M') | (go_at_call 45; clear tok22; with_reducible refine (k22 _ (M.get 3 rfl) (M.get 2 rfl) (M.get 1 rfl) (M.get 0 rfl)).mono ?_; rintro e w22 ⟨rfl, rr⟩; have M' := M.up rr; replace N := N.up rr; clear M rr ; have M := M'; clear M') | (go_at_call 46; clear tok23; with_reducible refine (k23 _).mono ?_; rintro e w23 ⟨aI, eI, oI, fI, rfl, g, g', rr⟩; have M' := ((M.up rr).add g).add g'; replace N := N.up rr; clear M rr g g'; have M := M'; clear M') | (go_at_call 42; clear tok24; with_reducible refine (k24 _ (M.get 1 rfl) (M.get 0 rfl)).mono ?_; rintro e w24 ⟨rfl, rr⟩; have M' := M.up rr; replace N := N.up rr; clear M rr ; have M := M'; clear M') | (go_at_call 138; clear tok25; with_reducible refine (k25 _).mono ?_; rintro e w25 ⟨aJ, eJ, oJ, fJ, rfl, g, g', rr⟩; have M' := ((M.up rr).add g).add g'; replace N := N.up rr; clear M rr g g'; have M := M'; clear M') | (go_at_call 46; clear tok26; with_reducible refine (k26 _).mono ?_; rintro e w26 ⟨aK, eK, oK, fK, rfl, g, g', rr⟩; have M' := ((M.up rr).add g).add g'; replace N := N.up rr; clear M rr g g'; have M := M'; clear M') | (go_at_call 45; clear tok27; with_reducible refine (k27 _ (M.get 3 rfl) (M.get 2 rfl) (M.get 1 rfl) (M.get 0 rfl)).mono ?_; rintro e w27 ⟨rfl, rr⟩; have M' := M.up rr; replace N := N.up rr; clear M rr ; have M := M'; clear M') | (go_at_call 138; clear tok28; with_reducible refine (k28 _).mono ?_; rintro e w28 ⟨aP, eP, oP, fP, rfl, g, g', rr⟩; have M' := ((M.up rr).add g).add g'; replace N := N.up rr; clear M rr g g'; have M := M'; clear M') | (go_at_call 46; clear tok29; with_reducible refine (k29 _).mono ?_; rintro e w29 ⟨aR, eR, oR, fR, rfl, g, g', rr⟩; have M' := ((M.up rr).add g).add g'; replace N := N.up rr; clear M rr g g'; have M := M'; clear M') | (go_at_call 45; clear tok30; with_reducible refine (k30 _ (M.get 3 rfl) (M.get 2 rfl) (M.get 1 rfl) (M.get 0 rfl)).mono ?_; rintro e w30 ⟨rfl, rr⟩; have M' := M.up rr; replace N := N.up rr; clear M rr ; have M := M'; clear M') | (go_at_call 36; with_reducible refine (rchk_bad _).mono ?_; rintro e w31 ⟨rfl, rr⟩; replace M := M.up rr; replace N := N.up rr; clear rr) | (go_at_call 36; with_reducible refine (rchk_bad2 _).mono ?_; rintro e w31 ⟨rfl, rr⟩; replace M := M.up rr; replace N := N.up rr; clear rr))
              clear hHeld
              refine hK.out _ _ ?_ (fun hHeld => ?_)
              · try dsimp only
                (first | (have y0_ := N.cell 0 rfl 0 rfl; have y1_ := N.cell 0 rfl 1 rfl; have y2_ := N.cell 0 rfl 2 rfl; have y3_ := N.cell 1 rfl 0 rfl; have y4_ := N.cell 1 rfl 1 rfl; have y5_ := N.cell 1 rfl 2 rfl; have y6_ := cell_three (N.get 0 rfl); have y7_ := cell_two (N.get 1 rfl); first | (with_reducible exact ⟨y0_, y1_, y2_, y3_, y4_, y5_, y6_, y7_⟩) | (with_reducible exact ⟨cell_al _ y0_, cell_al _ y1_, cell_al _ y2_, cell_al _ y3_, cell_al _ y4_, cell_al _ y5_, cell_al _ y6_, cell_al _ y7_⟩) | (with_reducible exact ⟨cell_al _ (cell_al _ y0_), cell_al _ (cell_al _ y1_), cell_al _ (cell_al _ y2_), cell_al _ (cell_al _ y3_), cell_al _ (cell_al _ y4_), cell_al _ (cell_al _ y5_), cell_al _ (cell_al _ y6_), cell_al _ (cell_al _ y7_)⟩)))
              clear hK K
              (try dsimp only); (try rw [held_put]); (try dsimp only [List.set_cons_zero, List.set_cons_succ])
              refine wpAnyH_take (i := 88) (oi := ⟨_, _, _, _, _, _⟩) (v := ?_) rfl (by as_aux_lemma => kernel_rfl) (by as_aux_lemma => kernel_rfl) (by as_aux_lemma => kernel_rfl) (fun _ _ _ h => h) (Or.inl ⟨by rfl, ?_⟩) (by assumption) ?_
              rotate_left
              · intro w hSw; (try dsimp only at hSw); (go_simp <;> with_reducible rfl)
              (try dsimp only); (try rw [held_put]); (try dsimp only [List.set_cons_zero, List.set_cons_succ])
              refine wpAnyH_ready (rs := [89]) (by as_aux_lemma => kernel_rfl) (by simp) ?_
              refine AllReadyH.cons rfl (fun K hK => ?_) ?_
              rotate_left
              exact AllReadyH.nil
              go_simp
              try (first | (go_at_call 46; clear tok16; with_reducible refine (k16 _).mono ?_; rintro e w16 ⟨aF, eF, oF, fF, rfl, g, g', rr⟩; have M' := ((M.up rr).add g).add g'; replace N := N.up rr; clear M rr g g'; have M := M'; clear M') | (go_at_call 45; clear tok17; with_reducible refine (k17 _ (M.get 12 rfl) (M.get 11 rfl) (M.get 1 rfl) (M.get 0 rfl)).mono ?_; rintro e w17 ⟨rfl, rr⟩; have M' := M.up rr; replace N := N.up rr; clear M rr ; have M := M'; clear M') | (go_at_call 46; clear tok18; with_reducible refine (k18 _).mono ?_; rintro e w18 ⟨aT, eT, oT, fT, rfl, g, g', rr⟩; have M' := ((M.up rr).add g).add g'; replace N := N.up rr; clear M rr g g'; have M := M'; clear M') | (go_at_call 46; clear tok19; with_reducible refine (k19 _).mono ?_; rintro e w19 ⟨aG, eG, oG, fG, rfl, g, g', rr⟩; have M' := ((M.up rr).add g).add g'; replace N := N.up rr; clear M rr g g'; have M := M'; clear M') | (go_at_call 10; clear tok20; with_reducible refine (k20 _ (M.get 3 rfl) (M.get 2 rfl) (M.get 1 rfl) (M.get 0 rfl)).mono ?_; rintro e w20 ⟨aS, eS, oS, fS, rfl, g, g', rr⟩; have M' := ((M.up rr).add g).add g'; replace N := N.up rr; clear M rr g g'; have M := M'; clear M') | (go_at_call 46; clear tok21; with_reducible refine (k21 _).mono ?_; rintro e w21 ⟨aH, eH, oH, fH, rfl, g, g', rr⟩; have M' := ((M.up rr).add g).add g'; replace N := N.up rr; clear M rr g g'; have M := M'; clear M') | (go_at_call 45; clear tok22; with_reducible refine (k22 _ (M.get 3 rfl) (M.get 2 rfl) (M.get 1 rfl) (M.get 0 rfl)).mono ?_; rintro e w22 ⟨rfl, rr⟩; have M' := M.up rr; replace N := N.up rr; clear M rr ; have M := M'; clear M') | (go_at_call 46; clear tok23; with_reducible refine (k23 _).mono ?_; rintro e w23 ⟨aI, eI, oI, fI, rfl, g, g', rr⟩; have M' := ((M.up rr).add g).add g'; replace N := N.up rr; clear M rr g g'; have M := M'; clear M') | (go_at_call 42; clear tok24; with_reducible refine (k24 _ (M.get 1 rfl) (M.get 0 rfl)).mono ?_; rintro e w24 ⟨rfl, rr⟩; have M' := M.up rr; replace N := N.up rr; clear M rr ; have M := M'; clear M') | (go_at_call 138; clear tok25; with_reducible refine (k25 _).mono ?_; rintro e w25 ⟨aJ, eJ, oJ, fJ, rfl, g, g', rr⟩; have M' := ((M.up rr).add g).add g'; replace N := N.up rr; clear M rr g g'; have M := M'; clear M') | (go_at_call 46; clear tok26; with_reducible refine (k26 _).mono ?_; rintro e w26 ⟨aK, eK, oK, fK, rfl, g, g', rr⟩; have M' := ((M.up rr).add g).add g'; replace N := N.up rr; clear M rr g g'; have M := M'; clear M') | (go_at_call 45; clear tok27; with_reducible refine (k27 _ (M.get 3 rfl) (M.get 2 rfl) (M.get 1 rfl) (M.get 0 rfl)).mono ?_; rintro e w27 ⟨rfl, rr⟩; have M' := M.up rr; replace N := N.up rr; clear M rr ; have M := M'; clear M') | (go_at_call 138; clear tok28; with_reducible refine (k28 _).mono ?_; rintro e w28 ⟨aP, eP, oP, fP, rfl, g, g', rr⟩; have M' := ((M.up rr).add g).add g'; replace N := N.up rr; clear M rr g g'; have M := M'; clear M') | (go_at_call 46; clear tok29; with_reducible refine (k29 _).mono ?_; rintro e w29 ⟨aR, eR, oR, fR, rfl, g, g', rr⟩; have M' := ((M.up rr).add g).add g'; replace N := N.up rr; clear M rr g g'; have M := M'; clear M') | (go_at_call 45; clear tok30; with_reducible refine (k30 _ (M.get 3 rfl) (M.get 2 rfl) (M.get 1 rfl) (M.get 0 rfl)).mono ?_; rintro e w30 ⟨rfl, rr⟩; have M' := M.up rr; replace N := N.up rr; clear M rr ; have M := M'; clear M') | (go_at_call 36; with_reducible refine (rchk_bad _).mono ?_; rintro e w31 ⟨rfl, rr⟩; replace M := M.up rr; replace N := N.up rr; clear rr) | (go_at_call 36; with_reducible refine (rchk_bad2 _).mono ?_; rintro e w31 ⟨rfl, rr⟩; replace M := M.up rr; replace N := N.up rr; clear rr))
              clear hHeld
              refine hK.out _ _ ?_ (fun hHeld => ?_)
              · try dsimp only
                (first | (have y0_ := N.cell 0 rfl 0 rfl; have y1_ := N.cell 0 rfl 1 rfl; have y2_ := N.cell 0 rfl 2 rfl; have y3_ := N.cell 1 rfl 0 rfl; have y4_ := N.cell 1 rfl 1 rfl; have y5_ := N.cell 1 rfl 2 rfl; have y6_ := cell_three (N.get 0 rfl); have y7_ := cell_two (N.get 1 rfl); first | (with_reducible exact ⟨y0_, y1_, y2_, y3_, y4_, y5_, y6_, y7_⟩) | (with_reducible exact ⟨cell_al _ y0_, cell_al _ y1_, cell_al _ y2_, cell_al _ y3_, cell_al _ y4_, cell_al _ y5_, cell_al _ y6_, cell_al _ y7_⟩) | (with_reducible exact ⟨cell_al _ (cell_al _ y0_), cell_al _ (cell_al _ y1_), cell_al _ (cell_al _ y2_), cell_al _ (cell_al _ y3_), cell_al _ (cell_al _ y4_), cell_al _ (cell_al _ y5_), cell_al _ (cell_al _ y6_), cell_al _ (cell_al _ y7_)⟩)))
              clear hK K
              (try dsimp only); (try rw [held_put]); (try dsimp only [List.set_cons_zero, List.set_cons_succ])
              refine wpAnyH_take (i := 90) (oi := ⟨_, _, _, _, _, _⟩) (v := ?_) rfl (by as_aux_lemma => kernel_rfl) (by as_aux_lemma => kernel_rfl) (by as_aux_lemma => kernel_rfl) (fun _ _ _ h => h) (Or.inl ⟨by rfl, ?_⟩) (by assumption) ?_
              rotate_left
              · intro w hSw; (try dsimp only at hSw); (go_simp <;> with_reducible rfl)
              (try dsimp only); (try rw [held_put]); (try dsimp only [List.set_cons_zero, List.set_cons_succ])
              refine wpAnyH_ready (rs := [91]) (by as_aux_lemma => kernel_rfl) (by simp) ?_
              refine AllReadyH.cons rfl (fun K hK => ?_) ?_
              rotate_left
              exact AllReadyH.nil
              go_simp
              try (first | (go_at_call 46; clear tok16; with_reducible refine (k16 _).mono ?_; rintro e w16 ⟨aF, eF, oF, fF, rfl, g, g', rr⟩; have M' := ((M.up rr).add g).add g'; replace N := N.up rr; clear M rr g g'; have M := M'; clear M') | (go_at_call 45; clear tok17; with_reducible refine (k17 _ (M.get 12 rfl) (M.get 11 rfl) (M.get 1 rfl) (M.get 0 rfl)).mono ?_; rintro e w17 ⟨rfl, rr⟩; have M' := M.up rr; replace N := N.up rr; clear M rr ; have M := M'; clear M') | (go_at_call 46; clear tok18; with_reducible refine (k18 _).mono ?_; rintro e w18 ⟨aT, eT, oT, fT, rfl, g, g', rr⟩; have M' := ((M.up rr).add g).add g'; replace N := N.up rr; clear M rr g g'; have M := M'; clear M') | (go_at_call 46; clear tok19; with_reducible refine (k19 _).mono ?_; rintro e w19 ⟨aG, eG, oG, fG, rfl, g, g', rr⟩; have M' := ((M.up rr).add g).add g'; replace N := N.up rr; clear M rr g g'; have M := M'; clear M') | (go_at_call 10; clear tok20; with_reducible refine (k20 _ (M.get 3 rfl) (M.get 2 rfl) (M.get 1 rfl) (M.get 0 rfl)).mono ?_; rintro e w20 ⟨aS, eS, oS, fS, rfl, g, g', rr⟩; have M' := ((M.up rr).add g).add g'; replace N := N.up rr; clear M rr g g'; have M := M'; clear M') | (go_at_call 46; clear tok21; with_reducible refine (k21 _).mono ?_; rintro e w21 ⟨aH, eH, oH, fH, rfl, g, g', rr⟩; have M' := ((M.up rr).add g).add g'; replace N := N.up rr; clear M rr g g'; have M := M'; clear M') | (go_at_call 45; clear tok22; with_reducible refine (k22 _ (M.get 3 rfl) (M.get 2 rfl) (M.get 1 rfl) (M.get 0 rfl)).mono ?_; rintro e w22 ⟨rfl, rr⟩; have M' := M.up rr; replace N := N.up rr; clear M rr ; have M := M'; clear M') | (go_at_call 46; clear tok23; with_reducible refine (k23 _).mono ?_; rintro e w23 ⟨aI, eI, oI, fI, rfl, g, g', rr⟩; have M' := ((M.up rr).add g).add g'; replace N := N.up rr; clear M rr g g'; have M := M'; clear M') | (go_at_call 42; clear tok24; with_reducible refine (k24 _ (M.get 1 rfl) (M.get 0 rfl)).mono ?_; rintro e w24 ⟨rfl, rr⟩; have M' := M.up rr; replace N := N.up rr; clear M rr ; have M := M'; clear M') | (go_at_call 138; clear tok25; with_reducible refine (k25 _).mono ?_; rintro e w25 ⟨aJ, eJ, oJ, fJ, rfl, g, g', rr⟩; have M' := ((M.up rr).add g).add g'; replace N := N.up rr; clear M rr g g'; have M := M'; clear M') | (go_at_call 46; clear tok26; with_reducible refine (k26 _).mono ?_; rintro e w26 ⟨aK, eK, oK, fK, rfl, g, g', rr⟩; have M' := ((M.up rr).add g).add g'; replace N := N.up rr; clear M rr g g'; have M := M'; clear M') | (go_at_call 45; clear tok27; with_reducible refine (k27 _ (M.get 3 rfl) (M.get 2 rfl) (M.get 1 rfl) (M.get 0 rfl)).mono ?_; rintro e w27 ⟨rfl, rr⟩; have M' := M.up rr; replace N := N.up rr; clear M rr ; have M := M'; clear M') | (go_at_call 138; clear tok28; with_reducible refine (k28 _).mono ?_; rintro e w28 ⟨aP, eP, oP, fP, rfl, g, g', rr⟩; have M' := ((M.up rr).add g).add g'; replace N := N.up rr; clear M rr g g'; have M := M'; clear M') | (go_at_call 46; clear tok29; with_reducible refine (k29 _).mono ?_; rintro e w29 ⟨aR, eR, oR, fR, rfl, g, g', rr⟩; have M' := ((M.up rr).add g).add g'; replace N := N.up rr; clear M rr g g'; have M := M'; clear M') | (go_at_call 45; clear tok30; with_reducible refine (k30 _ (M.get 3 rfl) (M.get 2 rfl) (M.get 1 rfl) (M.get 0 rfl)).mono ?_; rintro e w30 ⟨rfl, rr⟩; have M' := M.up rr; replace N := N.up rr; clear M rr ; have M := M'; clear M') | (go_at_call 36; with_reducible refine (rchk_bad _).mono ?_; rintro e w31 ⟨rfl, rr⟩; replace M := M.up rr; replace N := N.up rr; clear rr) | (go_at_call 36; with_reducible refine (rchk_bad2 _).mono ?_; rintro e w31 ⟨rfl, rr⟩; replace M := M.up rr; replace N := N.up rr; clear rr))
              clear hHeld
              refine hK.out _ _ ?_ (fun hHeld => ?_)
              · try dsimp only
                (first | (have y0_ := N.cell 0 rfl 0 rfl; have y1_ := N.cell 0 rfl 1 rfl; have y2_ := N.cell 0 rfl 2 rfl; have y3_ := N.cell 1 rfl 0 rfl; have y4_ := N.cell 1 rfl 1 rfl; have y5_ := N.cell 1 rfl 2 rfl; have y6_ := cell_three (N.get 0 rfl); have y7_ := cell_two (N.get 1 rfl); first | (with_reducible exact ⟨y0_, y1_, y2_, y3_, y4_, y5_, y6_, y7_⟩) | (with_reducible exact ⟨cell_al _ y0_, cell_al _ y1_, cell_al _ y2_, cell_al _ y3_, cell_al _ y4_, cell_al _ y5_, cell_al _ y6_, cell_al _ y7_⟩) | (with_reducible exact ⟨cell_al _ (cell_al _ y0_), cell_al _ (cell_al _ y1_), cell_al _ (cell_al _ y2_), cell_al _ (cell_al _ y3_), cell_al _ (cell_al _ y4_), cell_al _ (cell_al _ y5_), cell_al _ (cell_al _ y6_), cell_al _ (cell_al _ y7_)⟩)))
              clear hK K
              (try dsimp only); (try rw [held_put]); (try dsimp only [List.set_cons_zero, List.set_cons_succ])
              as_aux_lemma =>
                refine wpAnyH_take (i := 92) (oi := ⟨_, _, _, _, _, _⟩) (v := ?_) rfl (by as_aux_lemma => kernel_rfl) (by as_aux_lemma => kernel_rfl) (by as_aux_lemma => kernel_rfl) (fun _ _ _ h => h) (Or.inl ⟨by rfl, ?_⟩) (by assumption) ?_
                rotate_left
                · intro w hSw; (try dsimp only at hSw); (go_simp <;> with_reducible rfl)
                (try dsimp only); (try rw [held_put]); (try dsimp only [List.set_cons_zero, List.set_cons_succ])
                refine wpAnyH_take (i := 93) (oi := ⟨_, _, _, _, _, _⟩) (v := ?_) rfl (by as_aux_lemma => kernel_rfl) (by as_aux_lemma => kernel_rfl) (by as_aux_lemma => kernel_rfl) (fun _ _ _ h => h) (Or.inl ⟨by rfl, ?_⟩) (by assumption) ?_
                rotate_left
                · intro w hSw; (try dsimp only at hSw); (go_simp <;> with_reducible rfl)
                (try dsimp only); (try rw [held_put]); (try dsimp only [List.set_cons_zero, List.set_cons_succ])
                refine wpAnyH_take (i := 94) (oi := ⟨_, _, _, _, _, _⟩) (v := ?_) rfl (by as_aux_lemma => kernel_rfl) (by as_aux_lemma => kernel_rfl) (by as_aux_lemma => kernel_rfl) (fun _ _ _ h => h) (Or.inl ⟨by rfl, ?_⟩) (by assumption) ?_
                rotate_left
                · intro w hSw; (try dsimp only at hSw); (go_simp <;> with_reducible rfl)
                (try dsimp only); (try rw [held_put]); (try dsimp only [List.set_cons_zero, List.set_cons_succ])
                refine wpAnyH_done (by as_aux_lemma => kernel_rfl) ?_ _
                refine NoPanic.normal ?_
                go_wp2
                go_ret
                exact ⟨rfl, M.below⟩
            refine AllReadyH.cons rfl (fun K hK => ?_) ?_
            rotate_left
            exact AllReadyH.nil
            go_simp
            try (first | (go_at_call 46; clear tok16; with_reducible refine (k16 _).mono ?_; rintro e w16 ⟨aF, eF, oF, fF, rfl, g, g', rr⟩; have M' := ((M.up rr).add g).add g'; replace N := N.up rr; clear M rr g g'; have M := M'; clear M') | (go_at_call 45; clear tok17; with_reducible refine (k17 _ (M.get 12 rfl) (M.get 11 rfl) (M.get 1 rfl) (M.get 0 rfl)).mono ?_; rintro e w17 ⟨rfl, rr⟩; have M' := M.up rr; replace N := N.up rr; clear M rr ; have M := M'; clear M') | (go_at_call 46; clear tok18; with_reducible refine (k18 _).mono ?_; rintro e w18 ⟨aT, eT, oT, fT, rfl, g, g', rr⟩; have M' := ((M.up rr).add g).add g'; replace N := N.up rr; clear M rr g g'; have M := M'; clear M') | (go_at_call 46; clear tok19; with_reducible refine (k19 _).mono ?_; rintro e w19 ⟨aG, eG, oG, fG, rfl, g, g', rr⟩; have M' := ((M.up rr).add g).add g'; replace N := N.up rr; clear M rr g g'; have M := M'; clear M') | (go_at_call 10; clear tok20; with_reducible refine (k20 _ (M.get 3 rfl) (M.get 2 rfl) (M.get 1 rfl) (M.get 0 rfl)).mono ?_; rintro e w20 ⟨aS, eS, oS, fS, rfl, g, g', rr⟩; have M' := ((M.up rr).add g).add g'; replace N := N.up rr; clear M rr g g'; have M := M'; clear M') | (go_at_call 46; clear tok21; with_reducible refine (k21 _).mono ?_; rintro e w21 ⟨aH, eH, oH, fH, rfl, g, g', rr⟩; have M' := ((M.up rr).add g).add g'; replace N := N.up rr; clear M rr g g'; have M := M'; clear M') | (go_at_call 45; clear tok22; with_reducible refine (k22 _ (M.get 3 rfl) (M.get 2 rfl) (M.get 1 rfl) (M.get 0 rfl)).mono ?_; rintro e w22 ⟨rfl, rr⟩; have M' := M.up rr; replace N := N.up rr; clear M rr ; have M := M'; clear M') | (go_at_call 46; clear tok23; with_reducible refine (k23 _).mono ?_; rintro e w23 ⟨aI, eI, oI, fI, rfl, g, g', rr⟩; have M' := ((M.up rr).add g).add g'; replace N := N.up rr; clear M rr g g'; have M := M'; clear M') | (go_at_call 42; clear tok24; with_reducible refine (k24 _ (M.get 1 rfl) (M.get 0 rfl)).mono ?_; rintro e w24 ⟨rfl, rr⟩; have M' := M.up rr; replace N := N.up rr; clear M rr ; have M := M'; clear M') | (go_at_call 138; clear tok25; with_reducible refine (k25 _).mono ?_; rintro e w25 ⟨aJ, eJ, oJ, fJ, rfl, g, g', rr⟩; have M' := ((M.up rr).add g).add g'; replace N := N.up rr; clear M rr g g'; have M := M'; clear M') | (go_at_call 46; clear tok26; with_reducible refine (k26 _).mono ?_; rintro e w26 ⟨aK, eK, oK, fK, rfl, g, g', rr⟩; have M' := ((M.up rr).add g).add g'; replace N := N.up rr; clear M rr g g'; have M := M'; clear M') | (go_at_call 45; clear tok27; with_reducible refine (k27 _ (M.get 3 rfl) (M.get 2 rfl) (M.get 1 rfl) (M.get 0 rfl)).mono ?_; rintro e w27 ⟨rfl, rr⟩; have M' := M.up rr; replace N := N.up rr; clear M rr ; have M := M'; clear M') | (go_at_call 138; clear tok28; with_reducible refine (k28 _).mono ?_; rintro e w28 ⟨aP, eP, oP, fP, rfl, g, g', rr⟩; have M' := ((M.up rr).add g).add g'; replace N := N.up rr; clear M rr g g'; have M := M'; clear M') | (go_at_call 46; clear tok29; with_reducible refine (k29 _).mono ?_; rintro e w29 ⟨aR, eR, oR, fR, rfl, g, g', rr⟩; have M' := ((M.up rr).add g).add g'; replace N := N.up rr; clear M rr g g'; have M := M'; clear M') | (go_at_call 45; clear tok30; with_reducible refine (k30 _ (M.get 3 rfl) (M.get 2 rfl) (M.get 1 rfl) (M.get 0 rfl)).mono ?_; rintro e w30 ⟨rfl, rr⟩; have M' := M.up rr; replace N := N.up rr; clear M rr ; have M := M'; clear M') | (go_at_call 36; with_reducible refine (rchk_bad _).mono ?_; rintro e w31 ⟨rfl, rr⟩; replace M := M.up rr; replace N := N.up rr; clear rr) | (go_at_call 36; with_reducible refine (rchk_bad2 _).mono ?_; rintro e w31 ⟨rfl, rr⟩; replace M := M.up rr; replace N := N.up rr; clear rr))
            clear hHeld
            refine hK.out _ _ ?_ (fun hHeld => ?_)
            · try dsimp only
              (first | (have y0_ := N.cell 0 rfl 0 rfl; have y1_ := N.cell 0 rfl 1 rfl; have y2_ := N.cell 0 rfl 2 rfl; have y3_ := N.cell 1 rfl 0 rfl; have y4_ := N.cell 1 rfl 1 rfl; have y5_ := N.cell 1 rfl 2 rfl; have y6_ := cell_three (N.get 0 rfl); have y7_ := cell_two (N.get 1 rfl); first | (with_reducible exact ⟨y0_, y1_, y2_, y3_, y4_, y5_, y6_, y7_⟩) | (with_reducible exact ⟨cell_al _ y0_, cell_al _ y1_, cell_al _ y2_, cell_al _ y3_, cell_al _ y4_, cell_al _ y5_, cell_al _ y6_, cell_al _ y7_⟩) | (with_reducible exact ⟨cell_al _ (cell_al _ y0_), cell_al _ (cell_al _ y1_), cell_al _ (cell_al _ y2_), cell_al _ (cell_al _ y3_), cell_al _ (cell_al _ y4_), cell_al _ (cell_al _ y5_), cell_al _ (cell_al _ y6_), cell_al _ (cell_al _ y7_)⟩)))
            clear hK K
            (try dsimp only); (try rw [held_put]); (try dsimp only [List.set_cons_zero, List.set_cons_succ])
            as_aux_lemma =>
              refine wpAnyH_ready (rs := [87]) (by as_aux_lemma => kernel_rfl) (by simp) ?_
              refine AllReadyH.cons rfl (fun K hK => ?_) ?_
              rotate_left
              exact AllReadyH.nil
              go_simp
              try (first | (go_at_call 46; clear tok16; with_reducible refine (k16 _).mono ?_; rintro e w16 ⟨aF, eF, oF, fF, rfl, g, g', rr⟩; have M' := ((M.up rr).add g).add g'; replace N := N.up rr; clear M rr g g'; have M := M'; clear M') | (go_at_call 45; clear tok17; with_reducible refine (k17 _ (M.get 12 rfl) (M.get 11 rfl) (M.get 1 rfl) (M.get 0 rfl)).mono ?_; rintro e w17 ⟨rfl, rr⟩; have M' := M.up rr; replace N := N.up rr; clear M rr ; have M := M'; clear M') | (go_at_call 46; clear tok18; with_reducible refine (k18 _).mono ?_; rintro e w18 ⟨aT, eT, oT, fT, rfl, g, g', rr⟩; have M' := ((M.up rr).add g).add g'; replace N := N.up rr; clear M rr g g'; have M := M'; clear M') | (go_at_call 46; clear tok19; with_reducible refine (k19 _).mono ?_; rintro e w19 ⟨aG, eG, oG, fG, rfl, g, g', rr⟩; have M' := ((M.up rr).add g).add g'; replace N := N.up rr; clear M rr g g'; have M := M'; clear M') | (go_at_call 10; clear tok20; with_reducible refine (k20 _ (M.get 3 rfl) (M.get 2 rfl) (M.get 1 rfl) (M.get 0 rfl)).mono ?_; rintro e w20 ⟨aS, eS, oS, fS, rfl, g, g', rr⟩; have M' := ((M.up rr).add g).add g'; replace N := N.up rr; clear M rr g g'; have M := M'; clear M') | (go_at_call 46; clear tok21; with_reducible refine (k21 _).mono ?_; rintro e w21 ⟨aH, eH, oH, fH, rfl, g, g', rr⟩; have M' := ((M.up rr).add g).add g'; replace N := N.up rr; clear M rr g g'; have M := M'; clear M') | (go_at_call 45; clear tok22; with_reducible refine (k22 _ (M.get 3 rfl) (M.get 2 rfl) (M.get 1 rfl) (M.get 0 rfl)).mono ?_; rintro e w22 ⟨rfl, rr⟩; have M' := M.up rr; replace N := N.up rr; clear M rr ; have M := M'; clear M') | (go_at_call 46; clear tok23; with_reducible refine (k23 _).mono ?_; rintro e w23 ⟨aI, eI, oI, fI, rfl, g, g', rr⟩; have M' := ((M.up rr).add g).add g'; replace N := N.up rr; clear M rr g g'; have M := M'; clear M') | (go_at_call 42; clear tok24; with_reducible refine (k24 _ (M.get 1 rfl) (M.get 0 rfl)).mono ?_; rintro e w24 ⟨rfl, rr⟩; have M' := M.up rr; replace N := N.up rr; clear M rr ; have M := M'; clear M') | (go_at_call 138; clear tok25; with_reducible refine (k25 _).mono ?_; rintro e w25 ⟨aJ, eJ, oJ, fJ, rfl, g, g', rr⟩; have M' := ((M.up rr).add g).add g'; replace N := N.up rr; clear M rr g g'; have M := M'; clear M') | (go_at_call 46; clear tok26; with_reducible refine (k26 _).mono ?_; rintro e w26 ⟨aK, eK, oK, fK, rfl, g, g', rr⟩; have M' := ((M.up rr).add g).add g'; replace N := N.up rr; clear M rr g g'; have M := M'; clear M') | (go_at_call 45; clear tok27; with_reducible refine (k27 _ (M.get 3 rfl) (M.get 2 rfl) (M.get 1 rfl) (M.get 0 rfl)).mono ?_; rintro e w27 ⟨rfl, rr⟩; have M' := M.up rr; replace N := N.up rr; clear M rr ; have M := M'; clear M') | (go_at_call 138; clear tok28; with_reducible refine (k28 _).mono ?_; rintro e w28 ⟨aP, eP, oP, fP, rfl, g, g', rr⟩; have M' := ((M.up rr).add g).add g'; replace N := N.up rr; clear M rr g g'; have M := M'; clear M') | (go_at_call 46; clear tok29; with_reducible refine (k29 _).mono ?_; rintro e w29 ⟨aR, eR, oR, fR, rfl, g, g', rr⟩; have M' := ((M.up rr).add g).add g'; replace N := N.up rr; clear M rr g g'; have M := M'; clear M') | (go_at_call 45; clear tok30; with_reducible refine (k30 _ (M.get 3 rfl) (M.get 2 rfl) (M.get 1 rfl) (M.get 0 rfl)).mono ?_; rintro e w30 ⟨rfl, rr⟩; have M' := M.up rr; replace N := N.up rr; clear M rr ; have M := M'; clear M') | (go_at_call 36; with_reducible refine (rchk_bad _).mono ?_; rintro e w31 ⟨rfl, rr⟩; replace M := M.up rr; replace N := N.up rr; clear rr) | (go_at_call 36; with_reducible refine (rchk_bad2 _).mono ?_; rintro e w31 ⟨rfl, rr⟩; replace M := M.up rr; replace N := N.up rr; clear rr))
              clear hHeld
              refine hK.out _ _ ?_ (fun hHeld => ?_)
              · try dsimp only
                (first | (have y0_ := N.cell 0 rfl 0 rfl; have y1_ := N.cell 0 rfl 1 rfl; have y2_ := N.cell 0 rfl 2 rfl; have y3_ := N.cell 1 rfl 0 rfl; have y4_ := N.cell 1 rfl 1 rfl; have y5_ := N.cell 1 rfl 2 rfl; have y6_ := cell_three (N.get 0 rfl); have y7_ := cell_two (N.get 1 rfl); first | (with_reducible exact ⟨y0_, y1_, y2_, y3_, y4_, y5_, y6_, y7_⟩) | (with_reducible exact ⟨cell_al _ y0_, cell_al _ y1_, cell_al _ y2_, cell_al _ y3_, cell_al _ y4_, cell_al _ y5_, cell_al _ y6_, cell_al _ y7_⟩) | (with_reducible exact ⟨cell_al _ (cell_al _ y0_), cell_al _ (cell_al _ y1_), cell_al _ (cell_al _ y2_), cell_al _ (cell_al _ y3_), cell_al _ (cell_al _ y4_), cell_al _ (cell_al _ y5_), cell_al _ (cell_al _ y6_), cell_al _ (cell_al _ y7_)⟩)))
              clear hK K
              (try dsimp only); (try rw [held_put]); (try dsimp only [List.set_cons_zero, List.set_cons_succ])
              refine wpAnyH_take (i := 88) (oi := ⟨_, _, _, _, _, _⟩) (v := ?_) rfl (by as_aux_lemma => kernel_rfl) (by as_aux_lemma => kernel_rfl) (by as_aux_lemma => kernel_rfl) (fun _ _ _ h => h) (Or.inl ⟨by rfl, ?_⟩) (by assumption) ?_
              rotate_left
              · intro w hSw; (try dsimp only at hSw); (go_simp <;> with_reducible rfl)
              (try dsimp only); (try rw [held_put]); (try dsimp only [List.set_cons_zero, List.set_cons_succ])
              refine wpAnyH_take (i := 90) (oi := ⟨_, _, _, _, _, _⟩) (v := ?_) rfl (by as_aux_lemma => kernel_rfl) (by as_aux_lemma => kernel_rfl) (by as_aux_lemma => kernel_rfl) (fun _ _ _ h => h) (Or.inl ⟨by rfl, ?_⟩) (by assumption) ?_
              rotate_left
              · intro w hSw; (try dsimp only at hSw); (go_simp <;> with_reducible rfl)
              (try dsimp only); (try rw [held_put]); (try dsimp only [List.set_cons_zero, List.set_cons_succ])
              refine wpAnyH_ready (rs := [91]) (by as_aux_lemma => kernel_rfl) (by simp) ?_
              refine AllReadyH.cons rfl (fun K hK => ?_) ?_
              rotate_left
              exact AllReadyH.nil
              go_simp
              try (first | (go_at_call 46; clear tok16; with_reducible refine (k16 _).mono ?_; rintro e w16 ⟨aF, eF, oF, fF, rfl, g, g', rr⟩; have M' := ((M.up rr).add g).add g'; replace N := N.up rr; clear M rr g g'; have M := M'; clear M') | (go_at_call 45; clear tok17; with_reducible refine (k17 _ (M.get 12 rfl) (M.get 11 rfl) (M.get 1 rfl) (M.get 0 rfl)).mono ?_; rintro e w17 ⟨rfl, rr⟩; have M' := M.up rr; replace N := N.up rr; clear M rr ; have M := M'; clear M') | (go_at_call 46; clear tok18; with_reducible refine (k18 _).mono ?_; rintro e w18 ⟨aT, eT, oT, fT, rfl, g, g', rr⟩; have M' := ((M.up rr).add g).add g'; replace N := N.up rr; clear M rr g g'; have M := M'; clear M') | (go_at_call 46; clear tok19; with_reducible refine (k19 _).mono ?_; rintro e w19 ⟨aG, eG, oG, fG, rfl, g, g', rr⟩; have M' := ((M.up rr).add g).add g'; replace N := N.up rr; clear M rr g g'; have M := M'; clear M') | (go_at_call 10; clear tok20; with_reducible refine (k20 _ (M.get 3 rfl) (M.get 2 rfl) (M.get 1 rfl) (M.get 0 rfl)).mono ?_; rintro e w20 ⟨aS, eS, oS, fS, rfl, g, g', rr⟩; have M' := ((M.up rr).add g).add g'; replace N := N.up rr; clear M rr g g'; have M := M'; clear M') | (go_at_call 46; clear tok21; with_reducible refine (k21 _).mono ?_; rintro e w21 ⟨aH, eH, oH, fH, rfl, g, g', rr⟩; have M' := ((M.up rr).add g).add g'; replace N := N.up rr; clear M rr g g'; have M := M'; clear M') | (go_at_call 45; clear tok22; with_reducible refine (k22 _ (M.get 3 rfl) (M.get 2 rfl) (M.get 1 rfl) (M.get 0 rfl)).mono ?_; rintro e w22 ⟨rfl, rr⟩; have M' := M.up rr; replace N := N.up rr; clear M rr ; have M := M'; clear M') | (go_at_call 46; clear tok23; with_reducible refine (k23 _).mono ?_; rintro e w23 ⟨aI, eI, oI, fI, rfl, g, g', rr⟩; have M' := ((M.up rr).add g).add g'; replace N := N.up rr; clear M rr g g'; have M := M'; clear M') | (go_at_call 42; clear tok24; with_reducible refine (k24 _ (M.get 1 rfl) (M.get 0 rfl)).mono ?_; rintro e w24 ⟨rfl, rr⟩; have M' := M.up rr; replace N := N.up rr; clear M rr ; have M := M'; clear M') | (go_at_call 138; clear tok25; with_reducible refine (k25 _).mono ?_; rintro e w25 ⟨aJ, eJ, oJ, fJ, rfl, g, g', rr⟩; have M' := ((M.up rr).add g).add g'; replace N := N.up rr; clear M rr g g'; have M := M'; clear M') | (go_at_call 46; clear tok26; with_reducible refine (k26 _).mono ?_; rintro e w26 ⟨aK, eK, oK, fK, rfl, g, g', rr⟩; have M' := ((M.up rr).add g).add g'; replace N := N.up rr; clear M rr g g'; have M := M'; clear M') | (go_at_call 45; clear tok27; with_reducible refine (k27 _ (M.get 3 rfl) (M.get 2 rfl) (M.get 1 rfl) (M.get 0 rfl)).mono ?_; rintro e w27 ⟨rfl, rr⟩; have M' := M.up rr; replace N := N.up rr; clear M rr ; have M := M'; clear M') | (go_at_call 138; clear tok28; with_reducible refine (k28 _).mono ?_; rintro e w28 ⟨aP, eP, oP, fP, rfl, g, g', rr⟩; have M' := ((M.up rr).add g).add g'; replace N := N.up rr; clear M rr g g'; have M := M'; clear M') | (go_at_call 46; clear tok29; with_reducible refine (k29 _).mono ?_; rintro e w29 ⟨aR, eR, oR, fR, rfl, g, g', rr⟩; have M' := ((M.up rr).add g).add g'; replace N := N.up rr; clear M rr g g'; have M := M'; clear M') | (go_at_call 45; clear tok30; with_reducible refine (k30 _ (M.get 3 rfl) (M.get 2 rfl) (M.get 1 rfl) (M.get 0 rfl)).mono ?_; rintro e w30 ⟨rfl, rr⟩; have M' := M.up rr; replace N := N.up rr; clear M rr ; have M := M'; clear M') | (go_at_call 36; with_reducible refine (rchk_bad _).mono ?_; rintro e w31 ⟨rfl, rr⟩; replace M := M.up rr; replace N := N.up rr; clear rr) | (go_at_call 36; with_reducible refine (rchk_bad2 _).mono ?_; rintro e w31 ⟨rfl, rr⟩; replace M := M.up rr; replace N := N.up rr; clear rr))
              clear hHeld
              refine hK.out _ _ ?_ (fun hHeld => ?_)
              · try dsimp only
                (first | (have y0_ := N.cell 0 rfl 0 rfl; have y1_ := N.cell 0 rfl 1 rfl; have y2_ := N.cell 0 rfl 2 rfl; have y3_ := N.cell 1 rfl 0 rfl; have y4_ := N.cell 1 rfl 1 rfl; have y5_ := N.cell 1 rfl 2 rfl; have y6_ := cell_three (N.get 0 rfl); have y7_ := cell_two (N.get 1 rfl); first | (with_reducible exact ⟨y0_, y1_, y2_, y3_, y4_, y5_, y6_, y7_⟩) | (with_reducible exact ⟨cell_al _ y0_, cell_al _ y1_, cell_al _ y2_, cell_al _ y3_, cell_al _ y4_, cell_al _ y5_, cell_al _ y6_, cell_al _ y7_⟩) | (with_reducible exact ⟨cell_al _ (cell_al _ y0_), cell_al _ (cell_al _ y1_), cell_al _ (cell_al _ y2_), cell_al _ (cell_al _ y3_), cell_al _ (cell_al _ y4_), cell_al _ (cell_al _ y5_), cell_al _ (cell_al _ y6_), cell_al _ (cell_al _ y7_)⟩)))
              clear hK K
              (try dsimp only); (try rw [held_put]); (try dsimp only [List.set_cons_zero, List.set_cons_succ])
              refine wpAnyH_take (i := 92) (oi := ⟨_, _, _, _, _, _⟩) (v := ?_) rfl (by as_aux_lemma => kernel_rfl) (by as_aux_lemma => kernel_rfl) (by as_aux_lemma => kernel_rfl) (fun _ _ _ h => h) (Or.inl ⟨by rfl, ?_⟩) (by assumption) ?_
              rotate_left
              · intro w hSw; (try dsimp only at hSw); (go_simp <;> with_reducible rfl)
              (try dsimp only); (try rw [held_put]); (try dsimp only [List.set_cons_zero, List.set_cons_succ])
              refine wpAnyH_take (i := 93) (oi := ⟨_, _, _, _, _, _⟩) (v := ?_) rfl (by as_aux_lemma => kernel_rfl) (by as_aux_lemma => kernel_rfl) (by as_aux_lemma => kernel_rfl) (fun _ _ _ h => h) (Or.inl ⟨by rfl, ?_⟩) (by assumption) ?_
              rotate_left
              · intro w hSw; (try dsimp only at hSw); (go_simp <;> with_reducible rfl)
              (try dsimp only); (try rw [held_put]); (try dsimp only [List.set_cons_zero, List.set_cons_succ])
              refine wpAnyH_take (i := 94) (oi := ⟨_, _, _, _, _, _⟩) (v := ?_) rfl (by as_aux_lemma => kernel_rfl) (by as_aux_lemma => kernel_rfl) (by as_aux_lemma => kernel_rfl) (fun _ _ _ h => h) (Or.inl ⟨by rfl, ?_⟩) (by assumption) ?_
              rotate_left
              · intro w hSw; (try dsimp only at hSw); (go_simp <;> with_reducible rfl)
              (try dsimp only); (try rw [held_put]); (try dsimp only [List.set_cons_zero, List.set_cons_succ])
              refine wpAnyH_done (by as_aux_lemma => kernel_rfl) ?_ _
              refine NoPanic.normal ?_
              go_wp2
              go_ret
              exact ⟨rfl, M.below⟩
end Go.Proofs.YthnlmjnfdokdbaaGreatDoor
