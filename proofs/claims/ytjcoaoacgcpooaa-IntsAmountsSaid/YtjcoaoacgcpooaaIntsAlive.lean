/- The law package's own test of some answers, of whole numbers. -/
import Derived.Test.YtjcoaoacgcpooaaIntsQ
namespace Go.Proofs.Ytjcoaoacgcpooaa
open Go Go.Proofs Go.RowKit Go.Shelf Nu

theorem lit_new (W : World) (l : List Nat) (hl : l.length ≤ 10) : Fresh (W.alloc (.cells (l.map u32v).toArray 51)) W.heap.size (.slice (some ⟨W.heap.size, 0, none⟩) l.length l.length) l :=
  ⟨by simp, .inr ⟨W.heap.size, l.length, _, rfl, Nat.le_refl _, World.alloc_heap_new W _, Nat.le_refl _, small_max (by omega), by simp, by simp [List.take_of_length_le]⟩⟩
theorem below1 {W w' : World} {o : Obj} (h : Below (W.alloc o).heap.size (W.alloc o) w') : Below W.heap.size W w' :=
  ((Below.refl _ W).alloc (Nat.le_refl _) o).trans (h.mono (by rw [World.size_alloc]; omega))
theorem digs_of {l : List Nat} (hs : Sm l) (hc : chk l = true) {n : Nat} (h : val l = n) : digs n = l := by rw [← h]; exact digs_val hs hc
theorem al_five (W : World) : Calls Try.prog 19 #[.int .i64 (-5)] W fun e w' => ∃ b o c, e = .returned (.agg #[.bool true, .slice (some ⟨b, o, none⟩) 1 c]) ∧ Reads w' (.slice (some ⟨b, o, none⟩) 1 c) [5] ∧ Below W.heap.size W w' := by
  have e5 : digs 5 = [5] := digs_of (Sm.cons (by decide) Sm.nil) (by decide) (by decide)
  refine (q_of (W := W) (s1 := true) (L1 := [5]) (-5) ⟨by decide, by rw [show Int.natAbs (-5) = 5 from rfl]; exact e5.symm⟩ (by decide) (by decide)).mono ?_
  rintro e w' ⟨a, c, rfl, g, hb⟩
  obtain ⟨b, o, h1, _⟩ := g.addr
  obtain ⟨rfl, _⟩ := h1 (by decide)
  exact ⟨b, o, c, rfl, g, hb⟩
theorem al_cell {W : World} {b o c : Nat} (g : Reads W (.slice (some ⟨b, o, none⟩) 1 c) [5]) : W.cell? ⟨b, o, none⟩ = some (.int .u32 5) := by
  rcases g with ⟨h, _⟩ | ⟨b', off, cap, e, _, _, hc⟩
  · cases h
  · cases e; simpa using hc 0 (by simp)
set_option maxHeartbeats 1000000 in
theorem al_back (W : World) : Calls Try.prog 29 #[.agg #[.bool false, .slice (some ⟨W.heap.size, 0, none⟩) 2 2]] (W.alloc (.cells #[.int .u32 0, .int .u32 2147483648] 51)) fun e w' => e = .returned (.tuple #[.int .i64 0, .int .i64 3]) ∧ Below W.heap.size W w' := by
  have h := (lit_new W [0, 2147483648] (by decide)).reads
  obtain ⟨w, hw⟩ : ∃ w, w = W.alloc (.cells ([0, 2147483648].map u32v).toArray 51) := ⟨_, rfl⟩
  have hb1 : Below W.heap.size W w := by rw [hw]; exact (Below.refl _ W).alloc (Nat.le_refl _) _
  change Calls Try.prog 29 #[.agg #[.bool false, .slice (some ⟨W.heap.size, 0, none⟩) 2 2]] (W.alloc (.cells ([0, 2147483648].map u32v).toArray 51)) _
  rw [← hw] at h ⊢
  obtain ⟨a, ha⟩ : ∃ a : Option Addr, a = some ⟨W.heap.size, 0, none⟩ := ⟨_, rfl⟩
  rw [← ha] at h ⊢
  have kc : ∀ V, Below w.heap.size w V → _ := fun V hV => icheck_any (n := false) (h.below hV) (by decide)
  rw [show ichk false [0, 2147483648] = true by decide] at kc
  have kb : ∀ V, Below w.heap.size w V → _ := fun V hV => back_any' (h.below hV) (by decide) (Sm.cons (by decide) (Sm.cons (by decide) Sm.nil))
  rw [show backV [0, 2147483648] = .tuple #[.int .u64 9223372036854775808, .int .i64 0] by simp [backV, chk, val]] at kb
  have B := Box2.new w 25 (.bool false) (.slice a 2 2)
  have h0 : Below w.heap.size w (w.alloc (.cells #[.bool false, .slice a 2 2] 25)) := (Below.refl _ _).alloc (Nat.le_refl _) _
  clear h hw ha
  go_enter Try.func29, Try.ntmps29
  go_wp2_with (first
    | (go_at_call 12; refine (kc _ h0).mono ?_; clear kc; rintro e w1 ⟨rfl, r1⟩; have B1 := B.below r1; have h3 := then_below h0 r1; have z1 := B1.c1)
    | (go_at_call 47; refine (kb _ h3).mono ?_; clear kb; rintro e w2 ⟨rfl, r2⟩; have B2 := B1.below r2; have z2 := B2.c0; have h4 := then_below h3 r2))
  go_ret2
  exact ⟨rfl, then_below hb1 h4⟩
theorem al_back2 (W : World) (o : Obj) : Calls Try.prog 29 #[.agg #[.bool false, .slice (some ⟨W.heap.size + 1, 0, none⟩) 2 2]] ((W.alloc o).alloc (.cells #[.int .u32 0, .int .u32 2147483648] 51)) fun e w' => e = .returned (.tuple #[.int .i64 0, .int .i64 3]) ∧ Below (W.alloc o).heap.size (W.alloc o) w' := by
  have k := al_back (W.alloc o)
  rw [show (⟨(W.alloc o).heap.size, 0, none⟩ : Addr) = ⟨W.heap.size + 1, 0, none⟩ by rw [World.size_alloc]] at k
  exact k
theorem cut_of {s d : ByteArray} {neg : Bool} (h1 : (⟨(Lib.trimPrefix s.data.toList [45]).toArray⟩ : ByteArray) = d) (h2 : Lib.hasPrefix s.data.toList [45] = neg) (V : World) :
    Calls Try.prog 37 #[.string s, .string ⟨#[45]⟩] V fun e w' => e = .returned (.tuple #[.string d, .bool neg]) ∧ w' = V := by
  have := cut_any s V
  rwa [h1, h2] at this
theorem al_p1 (W : World) : Calls Try.prog 23 #[.string ⟨#[45, 49, 50]⟩] W fun e w' => ∃ a c, e = .returned (.tuple #[.agg #[.bool true, .slice a 1 c], .int .i64 0]) ∧ Reads w' (.slice a 1 c) [12] ∧ Below W.heap.size W w' := by
  have e12 : digs 12 = [12] := digs_of (Sm.cons (by decide) Sm.nil) (by decide) (by decide)
  have k := i_parse_yes (s := ⟨#[45, 49, 50]⟩) (d := ⟨#[49, 50]⟩) (neg := true) (w := W) (M := 12) (fun _ => by decide) (fun V => cut_of (by simp [Lib.trimPrefix, Lib.hasPrefix]) (by decide) V) fun V => by
    refine (parse_ok ⟨#[49, 50]⟩ V ⟨by decide, by decide⟩ (by decide)).mono ?_
    rintro e w' ⟨v, rfl, f, hb⟩
    rw [show numv ⟨#[49, 50]⟩ (⟨#[49, 50]⟩ : ByteArray).size = 12 by decide] at f
    obtain ⟨a, c, rfl⟩ := f.reads.form
    exact ⟨a, c, rfl, f.reads, hb⟩
  rw [e12] at k
  exact k
theorem al_p2 (W : World) : Calls Try.prog 23 #[.string ⟨#[45, 48]⟩] W fun e w' => e = .returned (.tuple #[.agg #[.bool false, .slice none 0 0], .int .i64 4]) ∧ Below W.heap.size W w' :=
  i_parse_zero (s := ⟨#[45, 48]⟩) (d := ⟨#[48]⟩) (w := W) (fun V => cut_of (by simp [Lib.trimPrefix, Lib.hasPrefix]) (by decide) V) (L := (digs 0).length) (by rw [digs_zero]; rfl) fun V => by
    refine (parse_ok ⟨#[48]⟩ V ⟨by decide, by decide⟩ (by decide)).mono ?_
    rintro e w' ⟨v, rfl, f, hb⟩
    rw [show numv ⟨#[48]⟩ (⟨#[48]⟩ : ByteArray).size = 0 by decide] at f
    obtain ⟨a, c, rfl⟩ := f.reads.form
    exact ⟨a, c, rfl, hb⟩
theorem al_p3 (W : World) : Calls Try.prog 23 #[.string ⟨#[43, 49]⟩] W fun e w' => e = .returned (.tuple #[.agg #[.bool false, .slice none 0 0], .int .i64 4]) ∧ Below W.heap.size W w' :=
  i_parse_no (s := ⟨#[43, 49]⟩) (d := ⟨#[43, 49]⟩) (neg := false) (w := W) 4 (by decide) (fun V => cut_of (by simp [Lib.trimPrefix, Lib.hasPrefix]) (by decide) V) fun V => parse_form ⟨#[43, 49]⟩ V (by decide) (by unfold isNum; decide)
theorem al_chk (W : World) : Calls Try.prog 12 #[.agg #[.bool true, .slice none 0 0]] W fun e w' => e = .returned (.bool false) ∧ Below W.heap.size W w' := by
  have := icheck_any (n := true) (Reads.nil W) (by decide)
  rwa [show ichk true [] = false by decide] at this
theorem al_txt : itxt (-12) = ⟨#[45, 49, 50]⟩ := by
  have h1 : low 12 = [50, 49] := by simp [low]
  have h2 : txt 12 = ⟨#[49, 50]⟩ := by unfold txt; rw [h1]; rfl
  unfold itxt
  rw [if_pos (by decide), show Int.natAbs (-12) = 12 from rfl, h2]
  apply ByteArray.ext
  rfl
theorem al_can : Can true [12] (-12) := ⟨by decide, by rw [show Int.natAbs (-12) = 12 from rfl]; exact (digs_of (Sm.cons (by decide) Sm.nil) (by decide) (by decide)).symm⟩
theorem al_text (W : World) {a : Option Addr} {c : Nat} (g : Reads W (.slice a 1 c) [12]) : Calls Try.prog 22 #[.agg #[.bool true, .slice a 1 c]] W fun e w' => e = .returned (.string ⟨#[45, 49, 50]⟩) ∧ Below W.heap.size W w' :=
  q_text (L1 := [12]) (s1 := true) ⟨#[45, 49, 50]⟩ al_can.is al_txt.symm (by decide) g

set_option maxRecDepth 100000 in
set_option maxHeartbeats 8000000 in
theorem ialive_any (w : World) : Calls Try.prog 9 #[] w fun e w' => e = .returned (.bool true) ∧ Below w.heap.size w w' := by
  obtain ⟨xM, hxM⟩ : ∃ x : Int, x = -9223372036854775808 := ⟨_, rfl⟩
  obtain ⟨sM, LM, cM⟩ := Can.ex xM
  have bM : LM.length ≤ 2 := by rw [cM.2, hxM]; exact digs_length_le (by decide)
  obtain ⟨xF, hxF⟩ : ∃ x : Int, x = 5 := ⟨_, rfl⟩
  obtain ⟨sF, LF, cF⟩ := Can.ex xF
  have bF : LF.length ≤ 2 := by rw [cF.2, hxF]; exact digs_length_le (by decide)
  obtain ⟨xV, hxV⟩ : ∃ x : Int, x = -7 := ⟨_, rfl⟩
  obtain ⟨sV, LV, cV⟩ := Can.ex xV
  have bV : LV.length ≤ 2 := by rw [cV.2, hxV]; exact digs_length_le (by decide)
  obtain ⟨xT, hxT⟩ : ∃ x : Int, x = -3 := ⟨_, rfl⟩
  obtain ⟨sT, LT, cT⟩ := Can.ex xT
  have bT : LT.length ≤ 2 := by rw [cT.2, hxT]; exact digs_length_le (by decide)
  obtain ⟨xQ, hxQ⟩ : ∃ x : Int, x = 4 := ⟨_, rfl⟩
  obtain ⟨sQ, LQ, cQ⟩ := Can.ex xQ
  have bQ : LQ.length ≤ 2 := by rw [cQ.2, hxQ]; exact digs_length_le (by decide)
  obtain ⟨xO, hxO⟩ : ∃ x : Int, x = -1 := ⟨_, rfl⟩
  obtain ⟨sO, LO, cO⟩ := Can.ex xO
  have bO : LO.length ≤ 2 := by rw [cO.2, hxO]; exact digs_length_le (by decide)
  obtain ⟨xS, hxS⟩ : ∃ x : Int, x = -2 := ⟨_, rfl⟩
  obtain ⟨sS, LS, cS⟩ := Can.ex xS
  have bS : LS.length ≤ 2 := by rw [cS.2, hxS]; exact digs_length_le (by decide)
  obtain ⟨xD, hxD⟩ : ∃ x : Int, x = 12 := ⟨_, rfl⟩
  obtain ⟨sD, LD, cD⟩ := Can.ex xD
  have bD : LD.length ≤ 2 := by rw [cD.2, hxD]; exact digs_length_le (by decide)
  obtain ⟨xP, hxP⟩ : ∃ x : Int, x = -12 := ⟨_, rfl⟩
  obtain ⟨sP, LP, cP⟩ := Can.ex xP
  have bP : LP.length ≤ 2 := by rw [cP.2, hxP]; exact digs_length_le (by decide)
  have oM := fun (W : World) => q_of (W := W) xM cM (by omega) (by omega)
  rw [hxM] at oM
  have oF := fun (W : World) => q_of (W := W) xF cF (by omega) (by omega)
  rw [hxF] at oF
  have oV := fun (W : World) => q_of (W := W) xV cV (by omega) (by omega)
  rw [hxV] at oV
  have oT := fun (W : World) => q_of (W := W) xT cT (by omega) (by omega)
  rw [hxT] at oT
  have oQ := fun (W : World) => q_of (W := W) xQ cQ (by omega) (by omega)
  rw [hxQ] at oQ
  have oO := fun (W : World) => q_of (W := W) xO cO (by omega) (by omega)
  rw [hxO] at oO
  have kadd := fun (W : World) {p1 : Option Addr} {q1 : Nat} {p2 : Option Addr} {q2 : Nat} (h1 : Reads W (.slice p1 LF.length q1) LF) (h2 : Reads W (.slice p2 LV.length q2) LV) => q_add (W := W) cF.is cV.is cS (by rw [hxS, hxF, hxV]; decide) (by omega) (by omega) h1 h2
  have ksub := fun (W : World) {p1 : Option Addr} {q1 : Nat} {p2 : Option Addr} {q2 : Nat} (h1 : Reads W (.slice p1 LF.length q1) LF) (h2 : Reads W (.slice p2 LV.length q2) LV) => q_sub (W := W) cF.is cV.is cD (by rw [hxD, hxF, hxV]; decide) (by omega) (by omega) h1 h2
  have kmul := fun (W : World) {p1 : Option Addr} {q1 : Nat} {p2 : Option Addr} {q2 : Nat} (h1 : Reads W (.slice p1 LT.length q1) LT) (h2 : Reads W (.slice p2 LQ.length q2) LQ) => q_mul (W := W) cT.is cQ.is cP (by rw [hxP, hxT, hxQ]; decide) (by omega) (by omega) h1 h2
  have mM := fun (W : World) {p1 : Option Addr} {q1 : Nat} (h1 : Reads W (.slice p1 LM.length q1) LM) => q_small (W := W) xM cM (by omega) (by omega) h1
  rw [hxM] at mM
  have mS := fun (W : World) {p1 : Option Addr} {q1 : Nat} (h1 : Reads W (.slice p1 LS.length q1) LS) => q_small (W := W) xS cS (by omega) (by omega) h1
  rw [hxS] at mS
  have mD := fun (W : World) {p1 : Option Addr} {q1 : Nat} (h1 : Reads W (.slice p1 LD.length q1) LD) => q_small (W := W) xD cD (by omega) (by omega) h1
  rw [hxD] at mD
  have mP := fun (W : World) {p1 : Option Addr} {q1 : Nat} (h1 : Reads W (.slice p1 LP.length q1) LP) => q_small (W := W) xP cP (by omega) (by omega) h1
  rw [hxP] at mP
  have ksg := fun (W : World) {p1 : Option Addr} {q1 : Nat} (h1 : Reads W (.slice p1 LO.length q1) LO) => q_sign (W := W) (-1) cO.is (by rw [hxO]; decide) (by omega) h1
  clear hxM bM cM hxF bF cF hxV bV cV hxT bT cT hxQ bQ cQ hxO bO cO hxS bS cS hxD bD cD hxP bP cP
  go_enter Try.func9, Try.ntmps9
  go_wp2_with (first
    | (go_at_call 19; with_reducible refine (al_five w ).mono ?_; rintro e w1 ⟨b5, o5, c5, rfl, g5, r1⟩; have r0 := r1; have X := Box2.new w1 25 (.bool true) (.slice (some ⟨b5, o5, none⟩) 1 c5); replace g5 := g5.below ((Below.refl w1.heap.size w1).alloc (Nat.le_refl _) (.cells #[.bool true, .slice (some ⟨b5, o5, none⟩) 1 c5] 25)))
    | (go_at_call 29; with_reducible refine (al_back2 w1 _).mono ?_; rintro e w2 ⟨rfl, r2⟩; replace r0 := then_below r0 (below1 r2); replace X := X.below r2; replace g5 := g5.below r2)
    | (go_at_call 23; with_reducible refine (al_p1 _ ).mono ?_; rintro e w3 ⟨a12, c12, rfl, g12, r3⟩; replace r0 := then_below r0 r3; replace X := (X.below r3).alloc (.cells #[.bool true, .slice a12 1 c12] 25); have Y := Box2.new w3 25 (.bool true) (.slice a12 1 c12); have al := (Below.refl w3.heap.size w3).alloc (Nat.le_refl _) (.cells #[.bool true, .slice a12 1 c12] 25); replace g5 := (g5.below r3).below al; replace g12 := g12.below al; clear al)
    | (go_at_call 23; with_reducible refine (al_p2 _ ).mono ?_; rintro e w4 ⟨rfl, r4⟩; replace r0 := then_below r0 (below1 r4); replace X := (X.below r4).alloc (.cells #[.bool false, .slice none 0 0] 25); replace Y := (Y.below r4).alloc (.cells #[.bool false, .slice none 0 0] 25); have al := (Below.refl w4.heap.size w4).alloc (Nat.le_refl _) (.cells #[.bool false, .slice none 0 0] 25); replace g5 := (g5.below r4).below al; replace g12 := (g12.below r4).below al; clear al)
    | (go_at_call 23; with_reducible refine (al_p3 _ ).mono ?_; rintro e w5 ⟨rfl, r5⟩; replace r0 := then_below r0 (below1 r5); replace X := (X.below r5).alloc (.cells #[.bool false, .slice none 0 0] 25); replace Y := (Y.below r5).alloc (.cells #[.bool false, .slice none 0 0] 25); have al := (Below.refl w5.heap.size w5).alloc (Nat.le_refl _) (.cells #[.bool false, .slice none 0 0] 25); replace g5 := (g5.below r5).below al; replace g12 := (g12.below r5).below al; clear al; have x0 := X.c0; have x1 := X.c1; have x2 := al_cell g5)
    | (go_at_call 12; with_reducible refine (al_chk _ ).mono ?_; rintro e w6 ⟨rfl, r6⟩; replace r0 := then_below r0 (below1 r6); replace Y := Y.below r6; replace g12 := g12.below r6)
    | (go_at_call 19; with_reducible refine (oM _ ).mono ?_; rintro e w7 ⟨aM7, dM7, rfl, gM, r7⟩; replace r0 := then_below r0 r7; replace Y := Y.below r7; replace g12 := g12.below r7)
    | (go_at_call 20; with_reducible refine (mM _ gM).mono ?_; rintro e w8 ⟨rfl, r8⟩; replace r0 := then_below r0 r8; replace Y := Y.below r8; replace g12 := g12.below r8)
    | (go_at_call 19; with_reducible refine (oF _ ).mono ?_; rintro e w9 ⟨aF9, dF9, rfl, gF, r9⟩; replace r0 := then_below r0 r9; replace Y := Y.below r9; replace g12 := g12.below r9)
    | (go_at_call 19; with_reducible refine (oV _ ).mono ?_; rintro e w10 ⟨aV10, dV10, rfl, gV, r10⟩; replace r0 := then_below r0 r10; replace Y := Y.below r10; replace g12 := g12.below r10; replace gF := gF.below r10)
    | (go_at_call 10; with_reducible refine (kadd _ gF gV).mono ?_; rintro e w11 ⟨aS11, dS11, rfl, gS, r11⟩; replace r0 := then_below r0 r11; replace Y := Y.below r11; replace g12 := g12.below r11)
    | (go_at_call 20; with_reducible refine (mS _ gS).mono ?_; rintro e w12 ⟨rfl, r12⟩; replace r0 := then_below r0 r12; replace Y := Y.below r12; replace g12 := g12.below r12)
    | (go_at_call 19; with_reducible refine (oF _ ).mono ?_; rintro e w13 ⟨aF13, dF13, rfl, gF, r13⟩; replace r0 := then_below r0 r13; replace Y := Y.below r13; replace g12 := g12.below r13)
    | (go_at_call 19; with_reducible refine (oV _ ).mono ?_; rintro e w14 ⟨aV14, dV14, rfl, gV, r14⟩; replace r0 := then_below r0 r14; replace Y := Y.below r14; replace g12 := g12.below r14; replace gF := gF.below r14)
    | (go_at_call 16; with_reducible refine (ksub _ gF gV).mono ?_; rintro e w15 ⟨aD15, dD15, rfl, gD, r15⟩; replace r0 := then_below r0 r15; replace Y := Y.below r15; replace g12 := g12.below r15)
    | (go_at_call 20; with_reducible refine (mD _ gD).mono ?_; rintro e w16 ⟨rfl, r16⟩; replace r0 := then_below r0 r16; replace Y := Y.below r16; replace g12 := g12.below r16)
    | (go_at_call 19; with_reducible refine (oT _ ).mono ?_; rintro e w17 ⟨aT17, dT17, rfl, gT, r17⟩; replace r0 := then_below r0 r17; replace Y := Y.below r17; replace g12 := g12.below r17)
    | (go_at_call 19; with_reducible refine (oQ _ ).mono ?_; rintro e w18 ⟨aQ18, dQ18, rfl, gQ, r18⟩; replace r0 := then_below r0 r18; replace Y := Y.below r18; replace g12 := g12.below r18; replace gT := gT.below r18)
    | (go_at_call 11; with_reducible refine (kmul _ gT gQ).mono ?_; rintro e w19 ⟨aP19, dP19, rfl, gP, r19⟩; replace r0 := then_below r0 r19; replace Y := Y.below r19; replace g12 := g12.below r19)
    | (go_at_call 20; with_reducible refine (mP _ gP).mono ?_; rintro e w20 ⟨rfl, r20⟩; replace r0 := then_below r0 r20; replace Y := Y.below r20; replace g12 := g12.below r20)
    | (go_at_call 19; with_reducible refine (oO _ ).mono ?_; rintro e w21 ⟨aO21, dO21, rfl, gO, r21⟩; replace r0 := then_below r0 r21; replace Y := Y.below r21; replace g12 := g12.below r21)
    | (go_at_call 17; with_reducible refine (ksg _ gO).mono ?_; rintro e w22 ⟨rfl, r22⟩; replace r0 := then_below r0 r22; replace Y := Y.below r22; replace g12 := g12.below r22; have y0 := Y.c0; have y1 := Y.c1)
    | (go_at_call 22; with_reducible refine (al_text _ g12).mono ?_; rintro e w23 ⟨rfl, r23⟩; replace r0 := then_below r0 r23))
  go_ret
  exact ⟨rfl, r0⟩

end Go.Proofs.Ytjcoaoacgcpooaa
