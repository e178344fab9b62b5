/- IntsAmounts: its walks. -/
import Derived.Test.YtjcoaoacgcpooaaIntsAlive
import Derived.Deep.RegionHeld3
namespace Go.Proofs.Ytjcoaoacgcpooaa
open Go Go.Proofs Go.RowKit Go.Shelf Nu

attribute [local go_sem] Oper.semAt_some

theorem can_nat (A : Nat) : Can false (digs A) (A : Int) := ⟨by simp, by rw [Int.natAbs_natCast]⟩
theorem bx2_ne {W : World} {B : Nat} {t : TypeId} {u v : Value} (h : Box2 W B t u v) : B ≠ W.heap.size := Nat.ne_of_lt h.lt

/-- what is known of both numbers and their boxes, and of the sum's -/
def AS (bx by_ bs : Nat) (a1 b1 xs : Option Addr) (ca cb ys A B S KS : Nat) (w V : World) : Prop :=
  Reads V (.slice a1 (digs A).length ca) (digs A) ∧ Reads V (.slice b1 (digs B).length cb) (digs B) ∧ Reads V (.slice xs KS ys) (digs S) ∧
  Box2 V bx 25 (.bool false) (.slice a1 (digs A).length ca) ∧ Box2 V by_ 25 (.bool false) (.slice b1 (digs B).length cb) ∧ Box2 V bs 25 (.bool false) (.slice xs KS ys) ∧ Below w.heap.size w V
section
variable {bx by_ bs : Nat} {a1 b1 xs : Option Addr} {ca cb ys A B S KS : Nat} {w V V' : World}
theorem AS.below (h : AS bx by_ bs a1 b1 xs ca cb ys A B S KS w V) (r : Below V.heap.size V V') : AS bx by_ bs a1 b1 xs ca cb ys A B S KS w V' := by
  obtain ⟨h1, h2, h3, h4, h5, h6, h7⟩ := h
  exact ⟨h1.below r, h2.below r, h3.below r, h4.below r, h5.below r, h6.below r, then_below h7 r⟩
theorem AS.sets (h : AS bx by_ bs a1 b1 xs ca cb ys A B S KS w V) {T n c : Nat} {b b2 : Bool} {a a2 : Option Addr} {n2 c2 : Nat} (hT : Box2 V T 25 (.bool b) (.slice a n c)) (h1 : bx ≠ T) (h2 : by_ ≠ T) (h3 : bs ≠ T) (h4 : w.heap.size ≤ T) :
    AS bx by_ bs a1 b1 xs ca cb ys A B S KS w ((V.setCell ⟨T, 0, none⟩ (.bool b2)).setCell ⟨T, 1, none⟩ (.slice a2 n2 c2)) := by
  obtain ⟨g1, g2, g3, g4, g5, g6, g7⟩ := h
  exact ⟨g1.sets hT, g2.sets hT, g3.sets hT, (g4.other (o := 0) h1 _).other (o := 1) h1 _, (g5.other (o := 0) h2 _).other (o := 1) h2 _, (g6.other (o := 0) h3 _).other (o := 1) h3 _, below_sets g7 h4 _ _⟩
end

set_option maxRecDepth 100000 in
set_option maxHeartbeats 16000000 in
theorem iam_near {w : World} {a1 b1 : Option Addr} {ca cb A B : Nat} (ga : Reads w (.slice a1 (digs A).length ca) (digs A)) (gb : Reads w (.slice b1 (digs B).length cb) (digs B)) (LA : (digs A).length ≤ 100) (LB : (digs B).length ≤ 100) :
    Calls Try.prog 8 #[.slice a1 (digs A).length ca, .slice b1 (digs B).length cb] w fun e w' => e = .returned (.bool true) ∧ Below w.heap.size w w' := by
  have cA := can_nat A
  have cB := can_nat B
  obtain ⟨S, hS⟩ : ∃ S, S = A + B := ⟨_, rfl⟩
  have lS : (digs S).length ≤ 201 := by rw [hS]; have := digs_add_le A B; omega
  obtain ⟨P, hP⟩ : ∃ P, P = A * B := ⟨_, rfl⟩
  have lP : (digs P).length ≤ 200 := by rw [hP]; have := digs_mul_le A B; omega
  have cS : Can false (digs S) ((A : Int) + (B : Int)) := by rw [hS]; have := can_nat (A + B); rwa [Int.natCast_add] at this
  obtain ⟨sN, hN⟩ : ∃ s, s = decide (-(A : Int) < 0) := ⟨_, rfl⟩
  have cN : Can sN (digs A) (-(A : Int)) := ⟨hN, by rw [Int.natAbs_neg, Int.natAbs_natCast]⟩
  obtain ⟨sM, hM⟩ : ∃ s, s = decide (-(B : Int) < 0) := ⟨_, rfl⟩
  have cM : Can sM (digs B) (-(B : Int)) := ⟨hM, by rw [Int.natAbs_neg, Int.natAbs_natCast]⟩
  obtain ⟨sL, hL⟩ : ∃ s, s = decide (-(A : Int) + -(B : Int) < 0) := ⟨_, rfl⟩
  have cL : Can sL (digs S) (-(A : Int) + -(B : Int)) := ⟨hL, by rw [hS]; congr 1; omega⟩
  obtain ⟨sP, hPs⟩ : ∃ s, s = decide (-(A : Int) * (B : Int) < 0) := ⟨_, rfl⟩
  have cP : Can sP (digs P) (-(A : Int) * (B : Int)) := ⟨hPs, by rw [hP, Int.natAbs_mul, Int.natAbs_neg, Int.natAbs_natCast, Int.natAbs_natCast]⟩
  have eL : decide (0 < ((digs S).length : Int)) = sL := by
    rw [hL]
    refine decide_eq_decide.2 ⟨fun h => ?_, fun h => ?_⟩
    · have : S ≠ 0 := fun e => by rw [e, digs_zero] at h; simp at h
      omega
    · have := digs_len_pos (n := S) (by omega); omega
  have eP : decide (0 < ((digs P).length : Int)) = sP := by
    rw [hPs]
    have e : -(A : Int) * (B : Int) = -((P : Nat) : Int) := by rw [hP, Int.natCast_mul, Int.neg_mul]
    rw [e]
    refine decide_eq_decide.2 ⟨fun h => ?_, fun h => ?_⟩
    · have : P ≠ 0 := fun e => by rw [e, digs_zero] at h; simp at h
      omega
    · have := digs_len_pos (n := P) (by omega); omega
  obtain ⟨z, hz⟩ : ∃ z, z = sgz (A : Int) (B : Int) := ⟨_, rfl⟩
  have hz2 : sgn A B = z := by rw [hz]; simp only [sgz, sgn]; split <;> (try split) <;> (try split) <;> omega
  have kca := fun (W : World) (h1 : Reads W (.slice a1 (digs A).length ca) (digs A)) => d_check h1 (by omega)
  have kcb := fun (W : World) (h1 : Reads W (.slice b1 (digs B).length cb) (digs B)) => d_check h1 (by omega)
  have ksum := fun (W : World) (h1 : Reads W (.slice a1 (digs A).length ca) (digs A)) (h2 : Reads W (.slice b1 (digs B).length cb) (digs B)) => q_add cA.is cB.is cS rfl (by omega) (by omega) h1 h2
  have kna := fun (W : World) (h1 : Reads W (.slice a1 (digs A).length ca) (digs A)) => q_neg cA.is cN rfl (by omega) h1
  have knb := fun (W : World) (h1 : Reads W (.slice b1 (digs B).length cb) (digs B)) => q_neg cB.is cM rfl (by omega) h1
  have kless := fun (W : World) {p1 p2 : Option Addr} {q1 q2 : Nat} (h1 : Reads W (.slice p1 (digs A).length q1) (digs A)) (h2 : Reads W (.slice p2 (digs B).length q2) (digs B)) => q_add cN.is cM.is cL rfl (by omega) (by omega) h1 h2
  have kprod := fun (W : World) {p1 : Option Addr} {q1 : Nat} (h1 : Reads W (.slice p1 (digs A).length q1) (digs A)) (h2 : Reads W (.slice b1 (digs B).length cb) (digs B)) => q_mul cN.is cB.is cP rfl (by omega) (by omega) h1 h2
  have kchk := fun (W : World) (h1 : Reads W (.slice a1 (digs A).length ca) (digs A)) => q_check cA (by omega) h1
  have kadd := fun (W : World) (h1 : Reads W (.slice a1 (digs A).length ca) (digs A)) (h2 : Reads W (.slice b1 (digs B).length cb) (digs B)) => d_add S h1 h2 (by omega) (by omega) hS
  have kmul := fun (W : World) (h1 : Reads W (.slice a1 (digs A).length ca) (digs A)) (h2 : Reads W (.slice b1 (digs B).length cb) (digs B)) => d_mul P h1 h2 (by omega) (by omega) hP
  have ksS := fun (W : World) {p1 p2 : Option Addr} {q1 q2 : Nat} (h1 : Reads W (.slice p1 (digs S).length q1) (digs S)) (h2 : Reads W (.slice p2 (digs S).length q2) (digs S)) => d_same true h1 h2 (by omega) (by omega) (by simp)
  have ksP := fun (W : World) {p1 p2 : Option Addr} {q1 q2 : Nat} (h1 : Reads W (.slice p1 (digs P).length q1) (digs P)) (h2 : Reads W (.slice p2 (digs P).length q2) (digs P)) => d_same true h1 h2 (by omega) (by omega) (by simp)
  have kcmp := fun (W : World) (h1 : Reads W (.slice a1 (digs A).length ca) (digs A)) (h2 : Reads W (.slice b1 (digs B).length cb) (digs B)) => q_cmp z cA.is cB.is hz.symm (by omega) (by omega) h1 h2
  have knc := fun (W : World) (h1 : Reads W (.slice a1 (digs A).length ca) (digs A)) (h2 : Reads W (.slice b1 (digs B).length cb) (digs B)) => d_cmp z h1 h2 (by omega) (by omega) hz2
  obtain ⟨KS, hKS⟩ : ∃ K, K = (digs S).length := ⟨_, rfl⟩
  obtain ⟨KP, hKP⟩ : ∃ K, K = (digs P).length := ⟨_, rfl⟩
  rw [← hKS] at ksum kless kadd ksS eL
  rw [← hKP] at kprod kmul ksP eP
  have eL2 : decide (0 < KS) = sL := by rw [← eL]; exact decide_eq_decide.2 (by omega)
  have eP2 : decide (0 < KP) = sP := by rw [← eP]; exact decide_eq_decide.2 (by omega)
  clear hKS hKP
  have j1 : decide (100 < ((digs A).length : Int)) = false := decide_eq_false (by omega)
  have j2 : decide (100 < ((digs B).length : Int)) = false := decide_eq_false (by omega)
  have r0 := Below.refl w.heap.size w
  clear hS hP hN hM hL hPs hz hz2 lS lP cA cB cS cN cM cL cP LA LB
  go_enter Try.func8, Try.ntmps8
  go_wp2_with (first
    | (go_at_call 9; with_reducible refine (ialive_any w).mono ?_; rintro e w1 ⟨rfl, rr⟩; replace ga := ga.below rr; replace gb := gb.below rr; replace r0 := then_below r0 rr; clear rr)
    | (go_at_call 24; with_reducible refine (kca w1 ga).mono ?_; rintro e w2 ⟨rfl, rr⟩; replace ga := ga.below rr; replace gb := gb.below rr; replace r0 := then_below r0 rr; clear rr)
    | (go_at_call 24; with_reducible refine (kcb w2 gb).mono ?_; rintro e w3 ⟨rfl, rr⟩; replace ga := ga.below rr; replace gb := gb.below rr; replace r0 := then_below r0 rr; clear rr; have al : Below w3.heap.size w3 ((w3.alloc (.cells #[.bool false, .slice a1 (digs A).length ca] 25)).alloc (.cells #[.bool false, .slice b1 (digs B).length cb] 25)) := ((Below.refl _ _).alloc (Nat.le_refl _) _).alloc (by simp) _; replace ga := ga.below al; replace gb := gb.below al; replace r0 := then_below r0 al; clear al; have BX := (Box2.new w3 25 (.bool false) (.slice a1 (digs A).length ca)).alloc (.cells #[.bool false, .slice b1 (digs B).length cb] 25); have BY := Box2.new1 w3 (.cells #[.bool false, .slice a1 (digs A).length ca] 25) 25 (.bool false) (.slice b1 (digs B).length cb))
    | (go_at_call 10; with_reducible refine (ksum _ ga gb).mono ?_; rintro e w4 ⟨xs, ys, rfl, gS, rr⟩; replace ga := ga.below rr; replace gb := gb.below rr; replace BX := BX.below rr; replace BY := BY.below rr; replace r0 := then_below r0 rr; clear rr; have al := (Below.refl w4.heap.size w4).alloc (Nat.le_refl _) (.cells #[.bool false, .slice xs KS ys] 25); replace ga := ga.below al; replace gb := gb.below al; replace BX := BX.below al; replace BY := BY.below al; replace gS := gS.below al; replace r0 := then_below r0 al; clear al; have BS := Box2.new w4 25 (.bool false) (.slice xs KS ys)))
  obtain ⟨bx, hbx⟩ : ∃ b, b = w3.heap.size := ⟨_, rfl⟩
  obtain ⟨by_, hby⟩ : ∃ b, b = w3.heap.size + 1 := ⟨_, rfl⟩
  obtain ⟨bs, hbs⟩ : ∃ b, b = w4.heap.size := ⟨_, rfl⟩
  rw [← hby] at BY ⊢
  rw [← hbx] at BX ⊢
  rw [← hbs] at BS ⊢
  have M0 : AS bx by_ bs a1 b1 xs ca cb ys A B S KS w (w4.alloc (.cells #[.bool false, .slice xs KS ys] 25)) := ⟨ga, gb, gS, BX, BY, BS, r0⟩
  clear ga gb gS BX BY BS r0 hbx hby hbs
  refine Code.wp_mono (Q := fun e a' wx => e = .normal ∧ ∃ (bl : Nat) (xl : Option Addr) (yl : Nat) (xn : Option Addr) (yn : Nat) (xm : Option Addr) (ym : Nat), a' = { tmps := #[.slice a1 (digs A).length ca, .slice b1 (digs B).length cb, undef, undef, .bool false, .pointer (some ⟨bx, 0, none⟩), .pointer (some ⟨by_, 0, none⟩), .pointer (some ⟨bs, 0, none⟩), .pointer (some ⟨bl, 0, none⟩), undef, .bool true, .bool false, .bool false, .slice a1 (digs A).length ca, .int .i64 (digs A).length, .bool false, .bool false, .bool false, .slice b1 (digs B).length cb, .int .i64 (digs B).length, .bool false, .bool false, .bool false, .slice a1 (digs A).length ca, .bool true, .bool false, .bool false, .bool false, .slice b1 (digs B).length cb, .bool true, .bool false, .bool false, undef, .slice a1 (digs A).length ca, .agg #[.bool false, .slice a1 (digs A).length ca], .slice b1 (digs B).length cb, .agg #[.bool false, .slice b1 (digs B).length cb], .agg #[.bool false, .slice a1 (digs A).length ca], .agg #[.bool false, .slice b1 (digs B).length cb], .agg #[.bool false, .slice xs KS ys], .agg #[.bool false, .slice a1 (digs A).length ca], .agg #[.bool sN, .slice xn (digs A).length yn], .agg #[.bool false, .slice b1 (digs B).length cb], .agg #[.bool sM, .slice xm (digs B).length ym], .agg #[.bool sL, .slice xl KS yl], undef, undef, undef, undef, undef, undef, undef, undef, undef, undef, undef, undef, undef, undef, undef, undef, undef, undef, undef, undef, undef, undef, undef, undef, undef, undef, undef, undef, undef, undef, undef, undef, undef, undef, undef, undef, undef, undef, undef, undef, undef, undef, undef, undef, undef, undef, undef, undef, undef, undef, undef, undef, undef, undef, undef, undef, undef, undef, undef, undef, undef, undef], defers := [] } ∧ AS bx by_ bs a1 b1 xs ca cb ys A B S KS w wx ∧ Box2 wx bl 25 (.bool sL) (.slice xl KS yl) ∧ Reads wx (.slice xl KS yl) (digs S)) ?rest ?first
  case first =>
    refine wp_region_held (S := fun W => W.cell? ⟨bx, 0, none⟩ = some (.bool false) ∧ W.cell? ⟨bx, 1, none⟩ = some (.slice a1 (digs A).length ca) ∧ W.cell? ⟨by_, 0, none⟩ = some (.bool false) ∧ W.cell? ⟨by_, 1, none⟩ = some (.slice b1 (digs B).length cb)) (by kernel_rfl) ?_
    change wpAnyH _ _ _ _ _ _ _ _ (w4.alloc (.cells #[.bool false, .slice xs KS ys] 25)).drew
    obtain ⟨V0, hV0, rr⟩ : ∃ V, V = (w4.alloc (.cells #[.bool false, .slice xs KS ys] 25)).drew ∧ Below (w4.alloc (.cells #[.bool false, .slice xs KS ys] 25)).heap.size (w4.alloc (.cells #[.bool false, .slice xs KS ys] 25)) V := ⟨_, rfl, ⟨rfl, rfl, rfl, Nat.le_refl _, fun _ _ => rfl⟩⟩
    rw [← hV0]
    have M := M0.below rr
    clear hV0 rr M0
    have hS0 := (⟨M.2.2.2.1.c0, M.2.2.2.1.c1, M.2.2.2.2.1.c0, M.2.2.2.2.1.c1⟩ : V0.cell? ⟨bx, 0, none⟩ = some (.bool false) ∧ V0.cell? ⟨bx, 1, none⟩ = some (.slice a1 (digs A).length ca) ∧ V0.cell? ⟨by_, 0, none⟩ = some (.bool false) ∧ V0.cell? ⟨by_, 1, none⟩ = some (.slice b1 (digs B).length cb))
    refine wpAnyH_take (i := 0) (v := .agg #[.bool false, .slice a1 (digs A).length ca]) rfl (by kernel_rfl) (by kernel_rfl) (by kernel_rfl) (fun _ _ _ h => nomatch h.1) (Or.inl ⟨by rfl, fun W3 hS => by obtain ⟨hS1, hS2, hS3, hS4⟩ := hS; go_simp⟩) hS0 ?_
    refine wpAnyH_take (i := 2) (v := .agg #[.bool false, .slice b1 (digs B).length cb]) rfl (by kernel_rfl) (by kernel_rfl) (by kernel_rfl) (fun _ _ _ h => nomatch h.1) (Or.inl ⟨by rfl, fun W3 hS => by obtain ⟨hS1, hS2, hS3, hS4⟩ := hS; go_simp⟩) hS0 ?_
    clear hS0
    refine wpAnyH_all (rs := [1, 5]) (by kernel_rfl) (by simp) ?_
    intro i hi
    have hi2 : i = 1 ∨ i = 5 := by simpa using hi
    clear hi
    rcases hi2 with rfl | rfl
    · refine wpOp_intro rfl (fun K1 hK => ?_)
      go_simp
      refine (kna _ M.1).mono ?_
      rintro e V1_1 ⟨xn, yn, rfl, gn, rr⟩
      have M' := M.below rr; clear M; have M := M'; clear M'
      refine hK _ _ ⟨⟨M.2.2.2.1.c0, M.2.2.2.1.c1, M.2.2.2.2.1.c0, M.2.2.2.2.1.c1⟩, ?_⟩
      clear hK K1 rr
      refine wpAnyH_all (rs := [3, 5]) (by kernel_rfl) (by simp) ?_
      intro i hi
      have hi2 : i = 3 ∨ i = 5 := by simpa using hi
      clear hi
      rcases hi2 with rfl | rfl
      · refine wpOp_intro rfl (fun K2 hK => ?_)
        go_simp
        refine (knb _ M.2.1).mono ?_
        rintro e V2_3 ⟨xm, ym, rfl, gm, rr⟩
        have M' := M.below rr; clear M; have M := M'; clear M'
        replace gn := gn.below rr
        refine hK _ _ ⟨⟨M.2.2.2.1.c0, M.2.2.2.1.c1, M.2.2.2.2.1.c0, M.2.2.2.2.1.c1⟩, ?_⟩
        clear hK K2 rr
        refine wpAnyH_all (rs := [4, 5]) (by kernel_rfl) (by simp) ?_
        intro i hi
        have hi2 : i = 4 ∨ i = 5 := by simpa using hi
        clear hi
        rcases hi2 with rfl | rfl
        · refine wpOp_intro rfl (fun K3 hK => ?_)
          go_simp
          refine (kless _ gn gm).mono ?_
          rintro e V3_4 ⟨xl, yl, rfl, g, rr⟩
          have M' := M.below rr; clear M; have M := M'; clear M'
          refine hK _ _ ⟨⟨M.2.2.2.1.c0, M.2.2.2.1.c1, M.2.2.2.2.1.c0, M.2.2.2.2.1.c1⟩, ?_⟩
          clear hK K3 rr
          refine wpAnyH_all (rs := [5]) (by kernel_rfl) (by simp) ?_
          intro i hi
          obtain rfl : i = 5 := by simpa using hi
          refine wpOp_intro rfl (fun K4 hK => ?_)
          clear hi
          go_simp
          obtain ⟨V4_5, hV, rr, T, n1, n2, n3, n4⟩ : ∃ V, V = V3_4.alloc (.cells #[.bool false, .slice none 0 0] 25) ∧ Below V3_4.heap.size V3_4 V ∧ Box2 V V3_4.heap.size 25 (.bool false) (.slice none 0 0) ∧ bx ≠ V3_4.heap.size ∧ by_ ≠ V3_4.heap.size ∧ bs ≠ V3_4.heap.size ∧ w.heap.size ≤ V3_4.heap.size := ⟨_, rfl, (Below.refl _ _).alloc (Nat.le_refl _) _, Box2.new _ _ _ _, bx2_ne M.2.2.2.1, bx2_ne M.2.2.2.2.1, bx2_ne M.2.2.2.2.2.1, M.2.2.2.2.2.2.size⟩
          rw [← hV]
          have M' := M.below rr; clear M; have M := M'; clear M'
          replace g := g.below rr
          refine hK _ _ ⟨⟨M.2.2.2.1.c0, M.2.2.2.1.c1, M.2.2.2.2.1.c0, M.2.2.2.2.1.c1⟩, ?_⟩
          clear hK K4 rr hV
          have q0 := T.c0; have q1 := T.c1; have q2 := T.fr 0; have q3 := T.fr 1
          refine wpAnyH_all (rs := [6]) (by kernel_rfl) (by simp) ?_
          intro i hi
          obtain rfl : i = 6 := by simpa using hi
          refine wpOp_intro rfl (fun Ks hK => ?_)
          clear hi
          go_simp
          have M' := M.sets (b2 := sL) (a2 := xl) (n2 := KS) (c2 := yl) T n1 n2 n3 n4
          have T' := (T.set0 (.bool sL)).set1 (.slice xl KS yl)
          have G' := g.sets (b2 := sL) (a2 := xl) (n2 := KS) (c2 := yl) T
          refine hK _ _ ⟨⟨M'.2.2.2.1.c0, M'.2.2.2.1.c1, M'.2.2.2.2.1.c0, M'.2.2.2.2.1.c1⟩, ?_⟩
          clear hK Ks q0 q1 q2 q3
          refine wpAnyH_done (by kernel_rfl) ?_ _
          exact ⟨rfl, _, xl, yl, xn, yn, xm, ym, rfl, M', T', G'⟩
        · refine wpOp_intro rfl (fun K3 hK => ?_)
          go_simp
          obtain ⟨V3_5, hV, rr, T, n1, n2, n3, n4⟩ : ∃ V, V = V2_3.alloc (.cells #[.bool false, .slice none 0 0] 25) ∧ Below V2_3.heap.size V2_3 V ∧ Box2 V V2_3.heap.size 25 (.bool false) (.slice none 0 0) ∧ bx ≠ V2_3.heap.size ∧ by_ ≠ V2_3.heap.size ∧ bs ≠ V2_3.heap.size ∧ w.heap.size ≤ V2_3.heap.size := ⟨_, rfl, (Below.refl _ _).alloc (Nat.le_refl _) _, Box2.new _ _ _ _, bx2_ne M.2.2.2.1, bx2_ne M.2.2.2.2.1, bx2_ne M.2.2.2.2.2.1, M.2.2.2.2.2.2.size⟩
          rw [← hV]
          have M' := M.below rr; clear M; have M := M'; clear M'
          replace gn := gn.below rr
          replace gm := gm.below rr
          refine hK _ _ ⟨⟨M.2.2.2.1.c0, M.2.2.2.1.c1, M.2.2.2.2.1.c0, M.2.2.2.2.1.c1⟩, ?_⟩
          clear hK K3 rr hV
          refine wpAnyH_all (rs := [4]) (by kernel_rfl) (by simp) ?_
          intro i hi
          obtain rfl : i = 4 := by simpa using hi
          refine wpOp_intro rfl (fun K5 hK => ?_)
          clear hi
          go_simp
          refine (kless _ gn gm).mono ?_
          rintro e V5_4 ⟨xl, yl, rfl, g, rr⟩
          have M' := M.below rr; clear M; have M := M'; clear M'
          replace T := T.below rr
          refine hK _ _ ⟨⟨M.2.2.2.1.c0, M.2.2.2.1.c1, M.2.2.2.2.1.c0, M.2.2.2.2.1.c1⟩, ?_⟩
          clear hK K5 rr
          have q0 := T.c0; have q1 := T.c1; have q2 := T.fr 0; have q3 := T.fr 1
          refine wpAnyH_all (rs := [6]) (by kernel_rfl) (by simp) ?_
          intro i hi
          obtain rfl : i = 6 := by simpa using hi
          refine wpOp_intro rfl (fun Ks hK => ?_)
          clear hi
          go_simp
          have M' := M.sets (b2 := sL) (a2 := xl) (n2 := KS) (c2 := yl) T n1 n2 n3 n4
          have T' := (T.set0 (.bool sL)).set1 (.slice xl KS yl)
          have G' := g.sets (b2 := sL) (a2 := xl) (n2 := KS) (c2 := yl) T
          refine hK _ _ ⟨⟨M'.2.2.2.1.c0, M'.2.2.2.1.c1, M'.2.2.2.2.1.c0, M'.2.2.2.2.1.c1⟩, ?_⟩
          clear hK Ks q0 q1 q2 q3
          refine wpAnyH_done (by kernel_rfl) ?_ _
          exact ⟨rfl, _, xl, yl, xn, yn, xm, ym, rfl, M', T', G'⟩
      · refine wpOp_intro rfl (fun K2 hK => ?_)
        go_simp
        obtain ⟨V2_5, hV, rr, T, n1, n2, n3, n4⟩ : ∃ V, V = V1_1.alloc (.cells #[.bool false, .slice none 0 0] 25) ∧ Below V1_1.heap.size V1_1 V ∧ Box2 V V1_1.heap.size 25 (.bool false) (.slice none 0 0) ∧ bx ≠ V1_1.heap.size ∧ by_ ≠ V1_1.heap.size ∧ bs ≠ V1_1.heap.size ∧ w.heap.size ≤ V1_1.heap.size := ⟨_, rfl, (Below.refl _ _).alloc (Nat.le_refl _) _, Box2.new _ _ _ _, bx2_ne M.2.2.2.1, bx2_ne M.2.2.2.2.1, bx2_ne M.2.2.2.2.2.1, M.2.2.2.2.2.2.size⟩
        rw [← hV]
        have M' := M.below rr; clear M; have M := M'; clear M'
        replace gn := gn.below rr
        refine hK _ _ ⟨⟨M.2.2.2.1.c0, M.2.2.2.1.c1, M.2.2.2.2.1.c0, M.2.2.2.2.1.c1⟩, ?_⟩
        clear hK K2 rr hV
        refine wpAnyH_all (rs := [3]) (by kernel_rfl) (by simp) ?_
        intro i hi
        obtain rfl : i = 3 := by simpa using hi
        refine wpOp_intro rfl (fun K6 hK => ?_)
        clear hi
        go_simp
        refine (knb _ M.2.1).mono ?_
        rintro e V6_3 ⟨xm, ym, rfl, gm, rr⟩
        have M' := M.below rr; clear M; have M := M'; clear M'
        replace gn := gn.below rr
        replace T := T.below rr
        refine hK _ _ ⟨⟨M.2.2.2.1.c0, M.2.2.2.1.c1, M.2.2.2.2.1.c0, M.2.2.2.2.1.c1⟩, ?_⟩
        clear hK K6 rr
        refine wpAnyH_all (rs := [4]) (by kernel_rfl) (by simp) ?_
        intro i hi
        obtain rfl : i = 4 := by simpa using hi
        refine wpOp_intro rfl (fun K7 hK => ?_)
        clear hi
        go_simp
        refine (kless _ gn gm).mono ?_
        rintro e V7_4 ⟨xl, yl, rfl, g, rr⟩
        have M' := M.below rr; clear M; have M := M'; clear M'
        replace T := T.below rr
        refine hK _ _ ⟨⟨M.2.2.2.1.c0, M.2.2.2.1.c1, M.2.2.2.2.1.c0, M.2.2.2.2.1.c1⟩, ?_⟩
        clear hK K7 rr
        have q0 := T.c0; have q1 := T.c1; have q2 := T.fr 0; have q3 := T.fr 1
        refine wpAnyH_all (rs := [6]) (by kernel_rfl) (by simp) ?_
        intro i hi
        obtain rfl : i = 6 := by simpa using hi
        refine wpOp_intro rfl (fun Ks hK => ?_)
        clear hi
        go_simp
        have M' := M.sets (b2 := sL) (a2 := xl) (n2 := KS) (c2 := yl) T n1 n2 n3 n4
        have T' := (T.set0 (.bool sL)).set1 (.slice xl KS yl)
        have G' := g.sets (b2 := sL) (a2 := xl) (n2 := KS) (c2 := yl) T
        refine hK _ _ ⟨⟨M'.2.2.2.1.c0, M'.2.2.2.1.c1, M'.2.2.2.2.1.c0, M'.2.2.2.2.1.c1⟩, ?_⟩
        clear hK Ks q0 q1 q2 q3
        refine wpAnyH_done (by kernel_rfl) ?_ _
        exact ⟨rfl, _, xl, yl, xn, yn, xm, ym, rfl, M', T', G'⟩
    · refine wpOp_intro rfl (fun K1 hK => ?_)
      go_simp
      obtain ⟨V1_5, hV, rr, T, n1, n2, n3, n4⟩ : ∃ V, V = V0.alloc (.cells #[.bool false, .slice none 0 0] 25) ∧ Below V0.heap.size V0 V ∧ Box2 V V0.heap.size 25 (.bool false) (.slice none 0 0) ∧ bx ≠ V0.heap.size ∧ by_ ≠ V0.heap.size ∧ bs ≠ V0.heap.size ∧ w.heap.size ≤ V0.heap.size := ⟨_, rfl, (Below.refl _ _).alloc (Nat.le_refl _) _, Box2.new _ _ _ _, bx2_ne M.2.2.2.1, bx2_ne M.2.2.2.2.1, bx2_ne M.2.2.2.2.2.1, M.2.2.2.2.2.2.size⟩
      rw [← hV]
      have M' := M.below rr; clear M; have M := M'; clear M'
      refine hK _ _ ⟨⟨M.2.2.2.1.c0, M.2.2.2.1.c1, M.2.2.2.2.1.c0, M.2.2.2.2.1.c1⟩, ?_⟩
      clear hK K1 rr hV
      refine wpAnyH_all (rs := [1]) (by kernel_rfl) (by simp) ?_
      intro i hi
      obtain rfl : i = 1 := by simpa using hi
      refine wpOp_intro rfl (fun K8 hK => ?_)
      clear hi
      go_simp
      refine (kna _ M.1).mono ?_
      rintro e V8_1 ⟨xn, yn, rfl, gn, rr⟩
      have M' := M.below rr; clear M; have M := M'; clear M'
      replace T := T.below rr
      refine hK _ _ ⟨⟨M.2.2.2.1.c0, M.2.2.2.1.c1, M.2.2.2.2.1.c0, M.2.2.2.2.1.c1⟩, ?_⟩
      clear hK K8 rr
      refine wpAnyH_all (rs := [3]) (by kernel_rfl) (by simp) ?_
      intro i hi
      obtain rfl : i = 3 := by simpa using hi
      refine wpOp_intro rfl (fun K9 hK => ?_)
      clear hi
      go_simp
      refine (knb _ M.2.1).mono ?_
      rintro e V9_3 ⟨xm, ym, rfl, gm, rr⟩
      have M' := M.below rr; clear M; have M := M'; clear M'
      replace gn := gn.below rr
      replace T := T.below rr
      refine hK _ _ ⟨⟨M.2.2.2.1.c0, M.2.2.2.1.c1, M.2.2.2.2.1.c0, M.2.2.2.2.1.c1⟩, ?_⟩
      clear hK K9 rr
      refine wpAnyH_all (rs := [4]) (by kernel_rfl) (by simp) ?_
      intro i hi
      obtain rfl : i = 4 := by simpa using hi
      refine wpOp_intro rfl (fun K10 hK => ?_)
      clear hi
      go_simp
      refine (kless _ gn gm).mono ?_
      rintro e V10_4 ⟨xl, yl, rfl, g, rr⟩
      have M' := M.below rr; clear M; have M := M'; clear M'
      replace T := T.below rr
      refine hK _ _ ⟨⟨M.2.2.2.1.c0, M.2.2.2.1.c1, M.2.2.2.2.1.c0, M.2.2.2.2.1.c1⟩, ?_⟩
      clear hK K10 rr
      have q0 := T.c0; have q1 := T.c1; have q2 := T.fr 0; have q3 := T.fr 1
      refine wpAnyH_all (rs := [6]) (by kernel_rfl) (by simp) ?_
      intro i hi
      obtain rfl : i = 6 := by simpa using hi
      refine wpOp_intro rfl (fun Ks hK => ?_)
      clear hi
      go_simp
      have M' := M.sets (b2 := sL) (a2 := xl) (n2 := KS) (c2 := yl) T n1 n2 n3 n4
      have T' := (T.set0 (.bool sL)).set1 (.slice xl KS yl)
      have G' := g.sets (b2 := sL) (a2 := xl) (n2 := KS) (c2 := yl) T
      refine hK _ _ ⟨⟨M'.2.2.2.1.c0, M'.2.2.2.1.c1, M'.2.2.2.2.1.c0, M'.2.2.2.2.1.c1⟩, ?_⟩
      clear hK Ks q0 q1 q2 q3
      refine wpAnyH_done (by kernel_rfl) ?_ _
      exact ⟨rfl, _, xl, yl, xn, yn, xm, ym, rfl, M', T', G'⟩
  case rest =>
    rintro e a' wx ⟨rfl, bl, xl, yl, xn, yn, xm, ym, rfl, M0, BL, gL⟩
    clear kless knb
    go_wp2_with fail
    refine Code.wp_mono (Q := fun e a' wy => e = .normal ∧ ∃ (bp : Nat) (xp : Option Addr) (yp : Nat) (xn2 : Option Addr) (yn2 : Nat), a' = { tmps := #[.slice a1 (digs A).length ca, .slice b1 (digs B).length cb, undef, undef, .bool false, .pointer (some ⟨bx, 0, none⟩), .pointer (some ⟨by_, 0, none⟩), .pointer (some ⟨bs, 0, none⟩), .pointer (some ⟨bl, 0, none⟩), .pointer (some ⟨bp, 0, none⟩), .bool true, .bool false, .bool false, .slice a1 (digs A).length ca, .int .i64 (digs A).length, .bool false, .bool false, .bool false, .slice b1 (digs B).length cb, .int .i64 (digs B).length, .bool false, .bool false, .bool false, .slice a1 (digs A).length ca, .bool true, .bool false, .bool false, .bool false, .slice b1 (digs B).length cb, .bool true, .bool false, .bool false, undef, .slice a1 (digs A).length ca, .agg #[.bool false, .slice a1 (digs A).length ca], .slice b1 (digs B).length cb, .agg #[.bool false, .slice b1 (digs B).length cb], .agg #[.bool false, .slice a1 (digs A).length ca], .agg #[.bool false, .slice b1 (digs B).length cb], .agg #[.bool false, .slice xs KS ys], .agg #[.bool false, .slice a1 (digs A).length ca], .agg #[.bool sN, .slice xn (digs A).length yn], .agg #[.bool false, .slice b1 (digs B).length cb], .agg #[.bool sM, .slice xm (digs B).length ym], .agg #[.bool sL, .slice xl KS yl], .agg #[.bool false, .slice a1 (digs A).length ca], .agg #[.bool sN, .slice xn2 (digs A).length yn2], .agg #[.bool false, .slice b1 (digs B).length cb], .agg #[.bool sP, .slice xp KP yp], undef, undef, undef, undef, undef, undef, undef, undef, undef, undef, undef, undef, undef, undef, undef, undef, undef, undef, undef, undef, undef, undef, undef, undef, undef, undef, undef, undef, undef, undef, undef, undef, undef, undef, undef, undef, undef, undef, undef, undef, undef, undef, undef, undef, undef, undef, undef, undef, undef, undef, undef, undef, undef, undef, undef, undef, undef, undef], defers := [] } ∧ AS bx by_ bs a1 b1 xs ca cb ys A B S KS w wy ∧ Box2 wy bl 25 (.bool sL) (.slice xl KS yl) ∧ Reads wy (.slice xl KS yl) (digs S) ∧ Box2 wy bp 25 (.bool sP) (.slice xp KP yp) ∧ Reads wy (.slice xp KP yp) (digs P)) ?rest2 ?first2
    case first2 =>
      refine wp_region_held (S := fun W => W.cell? ⟨bx, 0, none⟩ = some (.bool false) ∧ W.cell? ⟨bx, 1, none⟩ = some (.slice a1 (digs A).length ca) ∧ W.cell? ⟨by_, 0, none⟩ = some (.bool false) ∧ W.cell? ⟨by_, 1, none⟩ = some (.slice b1 (digs B).length cb)) (by kernel_rfl) ?_
      change wpAnyH _ _ _ _ _ _ _ _ (wx).drew
      obtain ⟨V0, hV0, rr⟩ : ∃ V, V = (wx).drew ∧ Below (wx).heap.size (wx) V := ⟨_, rfl, ⟨rfl, rfl, rfl, Nat.le_refl _, fun _ _ => rfl⟩⟩
      rw [← hV0]
      have M := M0.below rr
      replace gL := gL.below rr
      replace BL := BL.below rr
      clear hV0 rr M0
      have hS0 := (⟨M.2.2.2.1.c0, M.2.2.2.1.c1, M.2.2.2.2.1.c0, M.2.2.2.2.1.c1⟩ : V0.cell? ⟨bx, 0, none⟩ = some (.bool false) ∧ V0.cell? ⟨bx, 1, none⟩ = some (.slice a1 (digs A).length ca) ∧ V0.cell? ⟨by_, 0, none⟩ = some (.bool false) ∧ V0.cell? ⟨by_, 1, none⟩ = some (.slice b1 (digs B).length cb))
      refine wpAnyH_take (i := 0) (v := .agg #[.bool false, .slice a1 (digs A).length ca]) rfl (by kernel_rfl) (by kernel_rfl) (by kernel_rfl) (fun _ _ _ h => nomatch h.1) (Or.inl ⟨by rfl, fun W3 hS => by obtain ⟨hS1, hS2, hS3, hS4⟩ := hS; go_simp⟩) hS0 ?_
      refine wpAnyH_take (i := 2) (v := .agg #[.bool false, .slice b1 (digs B).length cb]) rfl (by kernel_rfl) (by kernel_rfl) (by kernel_rfl) (fun _ _ _ h => nomatch h.1) (Or.inl ⟨by rfl, fun W3 hS => by obtain ⟨hS1, hS2, hS3, hS4⟩ := hS; go_simp⟩) hS0 ?_
      clear hS0
      refine wpAnyH_all (rs := [1, 4]) (by kernel_rfl) (by simp) ?_
      intro i hi
      have hi2 : i = 1 ∨ i = 4 := by simpa using hi
      clear hi
      rcases hi2 with rfl | rfl
      · refine wpOp_intro rfl (fun K1 hK => ?_)
        go_simp
        refine (kna _ M.1).mono ?_
        rintro e V1_1 ⟨xn2, yn2, rfl, gn, rr⟩
        have M' := M.below rr; clear M; have M := M'; clear M'
        replace gL := gL.below rr
        replace BL := BL.below rr
        refine hK _ _ ⟨⟨M.2.2.2.1.c0, M.2.2.2.1.c1, M.2.2.2.2.1.c0, M.2.2.2.2.1.c1⟩, ?_⟩
        clear hK K1 rr
        refine wpAnyH_all (rs := [3, 4]) (by kernel_rfl) (by simp) ?_
        intro i hi
        have hi2 : i = 3 ∨ i = 4 := by simpa using hi
        clear hi
        rcases hi2 with rfl | rfl
        · refine wpOp_intro rfl (fun K2 hK => ?_)
          go_simp
          refine (kprod _ gn M.2.1).mono ?_
          rintro e V2_3 ⟨xp, yp, rfl, g, rr⟩
          have M' := M.below rr; clear M; have M := M'; clear M'
          replace gL := gL.below rr
          replace BL := BL.below rr
          refine hK _ _ ⟨⟨M.2.2.2.1.c0, M.2.2.2.1.c1, M.2.2.2.2.1.c0, M.2.2.2.2.1.c1⟩, ?_⟩
          clear hK K2 rr
          refine wpAnyH_all (rs := [4]) (by kernel_rfl) (by simp) ?_
          intro i hi
          obtain rfl : i = 4 := by simpa using hi
          refine wpOp_intro rfl (fun K3 hK => ?_)
          clear hi
          go_simp
          obtain ⟨V3_4, hV, rr, T, n1, n2, n3, n4, n5⟩ : ∃ V, V = V2_3.alloc (.cells #[.bool false, .slice none 0 0] 25) ∧ Below V2_3.heap.size V2_3 V ∧ Box2 V V2_3.heap.size 25 (.bool false) (.slice none 0 0) ∧ bx ≠ V2_3.heap.size ∧ by_ ≠ V2_3.heap.size ∧ bs ≠ V2_3.heap.size ∧ w.heap.size ≤ V2_3.heap.size ∧ bl ≠ V2_3.heap.size := ⟨_, rfl, (Below.refl _ _).alloc (Nat.le_refl _) _, Box2.new _ _ _ _, bx2_ne M.2.2.2.1, bx2_ne M.2.2.2.2.1, bx2_ne M.2.2.2.2.2.1, M.2.2.2.2.2.2.size, bx2_ne BL⟩
          rw [← hV]
          have M' := M.below rr; clear M; have M := M'; clear M'
          replace g := g.below rr
          replace gL := gL.below rr
          replace BL := BL.below rr
          refine hK _ _ ⟨⟨M.2.2.2.1.c0, M.2.2.2.1.c1, M.2.2.2.2.1.c0, M.2.2.2.2.1.c1⟩, ?_⟩
          clear hK K3 rr hV
          have q0 := T.c0; have q1 := T.c1; have q2 := T.fr 0; have q3 := T.fr 1
          refine wpAnyH_all (rs := [5]) (by kernel_rfl) (by simp) ?_
          intro i hi
          obtain rfl : i = 5 := by simpa using hi
          refine wpOp_intro rfl (fun Ks hK => ?_)
          clear hi
          go_simp
          have M' := M.sets (b2 := sP) (a2 := xp) (n2 := KP) (c2 := yp) T n1 n2 n3 n4
          have T' := (T.set0 (.bool sP)).set1 (.slice xp KP yp)
          have G' := g.sets (b2 := sP) (a2 := xp) (n2 := KP) (c2 := yp) T
          have gL' := gL.sets (b2 := sP) (a2 := xp) (n2 := KP) (c2 := yp) T
          have BLb := (BL.other (o := 0) n5 (.bool sP)).other (o := 1) n5 (.slice xp KP yp)
          refine hK _ _ ⟨⟨M'.2.2.2.1.c0, M'.2.2.2.1.c1, M'.2.2.2.2.1.c0, M'.2.2.2.2.1.c1⟩, ?_⟩
          clear hK Ks q0 q1 q2 q3
          refine wpAnyH_done (by kernel_rfl) ?_ _
          exact ⟨rfl, _, xp, yp, xn2, yn2, rfl, M', BLb, gL', T', G'⟩
        · refine wpOp_intro rfl (fun K2 hK => ?_)
          go_simp
          obtain ⟨V2_4, hV, rr, T, n1, n2, n3, n4, n5⟩ : ∃ V, V = V1_1.alloc (.cells #[.bool false, .slice none 0 0] 25) ∧ Below V1_1.heap.size V1_1 V ∧ Box2 V V1_1.heap.size 25 (.bool false) (.slice none 0 0) ∧ bx ≠ V1_1.heap.size ∧ by_ ≠ V1_1.heap.size ∧ bs ≠ V1_1.heap.size ∧ w.heap.size ≤ V1_1.heap.size ∧ bl ≠ V1_1.heap.size := ⟨_, rfl, (Below.refl _ _).alloc (Nat.le_refl _) _, Box2.new _ _ _ _, bx2_ne M.2.2.2.1, bx2_ne M.2.2.2.2.1, bx2_ne M.2.2.2.2.2.1, M.2.2.2.2.2.2.size, bx2_ne BL⟩
          rw [← hV]
          have M' := M.below rr; clear M; have M := M'; clear M'
          replace gn := gn.below rr
          replace gL := gL.below rr
          replace BL := BL.below rr
          refine hK _ _ ⟨⟨M.2.2.2.1.c0, M.2.2.2.1.c1, M.2.2.2.2.1.c0, M.2.2.2.2.1.c1⟩, ?_⟩
          clear hK K2 rr hV
          refine wpAnyH_all (rs := [3]) (by kernel_rfl) (by simp) ?_
          intro i hi
          obtain rfl : i = 3 := by simpa using hi
          refine wpOp_intro rfl (fun K4 hK => ?_)
          clear hi
          go_simp
          refine (kprod _ gn M.2.1).mono ?_
          rintro e V4_3 ⟨xp, yp, rfl, g, rr⟩
          have M' := M.below rr; clear M; have M := M'; clear M'
          replace gL := gL.below rr
          replace BL := BL.below rr
          replace T := T.below rr
          refine hK _ _ ⟨⟨M.2.2.2.1.c0, M.2.2.2.1.c1, M.2.2.2.2.1.c0, M.2.2.2.2.1.c1⟩, ?_⟩
          clear hK K4 rr
          have q0 := T.c0; have q1 := T.c1; have q2 := T.fr 0; have q3 := T.fr 1
          refine wpAnyH_all (rs := [5]) (by kernel_rfl) (by simp) ?_
          intro i hi
          obtain rfl : i = 5 := by simpa using hi
          refine wpOp_intro rfl (fun Ks hK => ?_)
          clear hi
          go_simp
          have M' := M.sets (b2 := sP) (a2 := xp) (n2 := KP) (c2 := yp) T n1 n2 n3 n4
          have T' := (T.set0 (.bool sP)).set1 (.slice xp KP yp)
          have G' := g.sets (b2 := sP) (a2 := xp) (n2 := KP) (c2 := yp) T
          have gL' := gL.sets (b2 := sP) (a2 := xp) (n2 := KP) (c2 := yp) T
          have BLb := (BL.other (o := 0) n5 (.bool sP)).other (o := 1) n5 (.slice xp KP yp)
          refine hK _ _ ⟨⟨M'.2.2.2.1.c0, M'.2.2.2.1.c1, M'.2.2.2.2.1.c0, M'.2.2.2.2.1.c1⟩, ?_⟩
          clear hK Ks q0 q1 q2 q3
          refine wpAnyH_done (by kernel_rfl) ?_ _
          exact ⟨rfl, _, xp, yp, xn2, yn2, rfl, M', BLb, gL', T', G'⟩
      · refine wpOp_intro rfl (fun K1 hK => ?_)
        go_simp
        obtain ⟨V1_4, hV, rr, T, n1, n2, n3, n4, n5⟩ : ∃ V, V = V0.alloc (.cells #[.bool false, .slice none 0 0] 25) ∧ Below V0.heap.size V0 V ∧ Box2 V V0.heap.size 25 (.bool false) (.slice none 0 0) ∧ bx ≠ V0.heap.size ∧ by_ ≠ V0.heap.size ∧ bs ≠ V0.heap.size ∧ w.heap.size ≤ V0.heap.size ∧ bl ≠ V0.heap.size := ⟨_, rfl, (Below.refl _ _).alloc (Nat.le_refl _) _, Box2.new _ _ _ _, bx2_ne M.2.2.2.1, bx2_ne M.2.2.2.2.1, bx2_ne M.2.2.2.2.2.1, M.2.2.2.2.2.2.size, bx2_ne BL⟩
        rw [← hV]
        have M' := M.below rr; clear M; have M := M'; clear M'
        replace gL := gL.below rr
        replace BL := BL.below rr
        refine hK _ _ ⟨⟨M.2.2.2.1.c0, M.2.2.2.1.c1, M.2.2.2.2.1.c0, M.2.2.2.2.1.c1⟩, ?_⟩
        clear hK K1 rr hV
        refine wpAnyH_all (rs := [1]) (by kernel_rfl) (by simp) ?_
        intro i hi
        obtain rfl : i = 1 := by simpa using hi
        refine wpOp_intro rfl (fun K5 hK => ?_)
        clear hi
        go_simp
        refine (kna _ M.1).mono ?_
        rintro e V5_1 ⟨xn2, yn2, rfl, gn, rr⟩
        have M' := M.below rr; clear M; have M := M'; clear M'
        replace gL := gL.below rr
        replace BL := BL.below rr
        replace T := T.below rr
        refine hK _ _ ⟨⟨M.2.2.2.1.c0, M.2.2.2.1.c1, M.2.2.2.2.1.c0, M.2.2.2.2.1.c1⟩, ?_⟩
        clear hK K5 rr
        refine wpAnyH_all (rs := [3]) (by kernel_rfl) (by simp) ?_
        intro i hi
        obtain rfl : i = 3 := by simpa using hi
        refine wpOp_intro rfl (fun K6 hK => ?_)
        clear hi
        go_simp
        refine (kprod _ gn M.2.1).mono ?_
        rintro e V6_3 ⟨xp, yp, rfl, g, rr⟩
        have M' := M.below rr; clear M; have M := M'; clear M'
        replace gL := gL.below rr
        replace BL := BL.below rr
        replace T := T.below rr
        refine hK _ _ ⟨⟨M.2.2.2.1.c0, M.2.2.2.1.c1, M.2.2.2.2.1.c0, M.2.2.2.2.1.c1⟩, ?_⟩
        clear hK K6 rr
        have q0 := T.c0; have q1 := T.c1; have q2 := T.fr 0; have q3 := T.fr 1
        refine wpAnyH_all (rs := [5]) (by kernel_rfl) (by simp) ?_
        intro i hi
        obtain rfl : i = 5 := by simpa using hi
        refine wpOp_intro rfl (fun Ks hK => ?_)
        clear hi
        go_simp
        have M' := M.sets (b2 := sP) (a2 := xp) (n2 := KP) (c2 := yp) T n1 n2 n3 n4
        have T' := (T.set0 (.bool sP)).set1 (.slice xp KP yp)
        have G' := g.sets (b2 := sP) (a2 := xp) (n2 := KP) (c2 := yp) T
        have gL' := gL.sets (b2 := sP) (a2 := xp) (n2 := KP) (c2 := yp) T
        have BLb := (BL.other (o := 0) n5 (.bool sP)).other (o := 1) n5 (.slice xp KP yp)
        refine hK _ _ ⟨⟨M'.2.2.2.1.c0, M'.2.2.2.1.c1, M'.2.2.2.2.1.c0, M'.2.2.2.2.1.c1⟩, ?_⟩
        clear hK Ks q0 q1 q2 q3
        refine wpAnyH_done (by kernel_rfl) ?_ _
        exact ⟨rfl, _, xp, yp, xn2, yn2, rfl, M', BLb, gL', T', G'⟩
    case rest2 =>
      rintro e a' wy ⟨rfl, bp, xp, yp, xn2, yn2, rfl, ⟨ga, gb, gS, BX, BY, BS, r0⟩, BL, gL, BP, gP⟩
      clear kna kprod ksum kca kcb
      go_wp2_with fail
      have rd : Below wy.heap.size wy wy.drew := ⟨rfl, rfl, rfl, Nat.le_refl _, fun _ _ => rfl⟩
      replace ga := ga.below rd; replace gb := gb.below rd; replace gS := gS.below rd; replace gL := gL.below rd; replace gP := gP.below rd; replace BX := BX.below rd; replace BY := BY.below rd; replace BS := BS.below rd; replace BL := BL.below rd; replace BP := BP.below rd
      replace r0 := then_below r0 rd
      clear rd
      go_region_held3 (fun W => W.cell? ⟨bx, 0, none⟩ = some (.bool false) ∧ W.cell? ⟨bx, 1, none⟩ = some (.slice a1 (digs A).length ca) ∧ W.cell? ⟨by_, 0, none⟩ = some (.bool false) ∧ W.cell? ⟨by_, 1, none⟩ = some (.slice b1 (digs B).length cb) ∧ W.cell? ⟨bs, 0, none⟩ = some (.bool false) ∧ W.cell? ⟨bs, 1, none⟩ = some (.slice xs KS ys) ∧ W.cell? ⟨bl, 0, none⟩ = some (.bool sL) ∧ W.cell? ⟨bl, 1, none⟩ = some (.slice xl KS yl) ∧ W.cell? ⟨bp, 0, none⟩ = some (.bool sP) ∧ W.cell? ⟨bp, 1, none⟩ = some (.slice xp KP yp)) (exact ⟨BX.c0, BX.c1, BY.c0, BY.c1, BS.c0, BS.c1, BL.c0, BL.c1, BP.c0, BP.c1⟩) (first
        | (go_at_call 12; with_reducible refine (kchk _ ga).mono ?_; rintro e w5 ⟨rfl, rr⟩; replace ga := ga.below rr; replace gb := gb.below rr; replace gS := gS.below rr; replace gL := gL.below rr; replace gP := gP.below rr; replace BX := BX.below rr; replace BY := BY.below rr; replace BS := BS.below rr; replace BL := BL.below rr; replace BP := BP.below rr; replace r0 := then_below r0 rr; clear rr)
        | (go_at_call 26; with_reducible refine (kadd w5 ga gb).mono ?_; rintro e w6 ⟨x6, y6, rfl, g1, rr⟩; replace ga := ga.below rr; replace gb := gb.below rr; replace gS := gS.below rr; replace gL := gL.below rr; replace gP := gP.below rr; replace BX := BX.below rr; replace BY := BY.below rr; replace BS := BS.below rr; replace BL := BL.below rr; replace BP := BP.below rr; replace r0 := then_below r0 rr; clear rr)
        | (go_at_call 25; with_reducible refine (ksS w6 gS g1).mono ?_; rintro e w7 ⟨rfl, rr⟩; replace ga := ga.below rr; replace gb := gb.below rr; replace gL := gL.below rr; replace gP := gP.below rr; replace BX := BX.below rr; replace BY := BY.below rr; replace BS := BS.below rr; replace BL := BL.below rr; replace BP := BP.below rr; replace r0 := then_below r0 rr; clear rr)
        | (go_at_call 26; with_reducible refine (kadd w7 ga gb).mono ?_; rintro e w8 ⟨x8, y8, rfl, g2, rr⟩; replace ga := ga.below rr; replace gb := gb.below rr; replace gL := gL.below rr; replace gP := gP.below rr; replace BX := BX.below rr; replace BY := BY.below rr; replace BS := BS.below rr; replace BL := BL.below rr; replace BP := BP.below rr; replace r0 := then_below r0 rr; clear rr)
        | (go_at_call 25; with_reducible refine (ksS w8 gL g2).mono ?_; rintro e w9 ⟨rfl, rr⟩; replace ga := ga.below rr; replace gb := gb.below rr; replace gP := gP.below rr; replace BX := BX.below rr; replace BY := BY.below rr; replace BS := BS.below rr; replace BL := BL.below rr; replace BP := BP.below rr; replace r0 := then_below r0 rr; clear rr)
        | (go_at_call 27; with_reducible refine (kmul w9 ga gb).mono ?_; rintro e w10 ⟨x10, y10, rfl, g3, rr⟩; replace ga := ga.below rr; replace gb := gb.below rr; replace gP := gP.below rr; replace BX := BX.below rr; replace BY := BY.below rr; replace BS := BS.below rr; replace BL := BL.below rr; replace BP := BP.below rr; replace r0 := then_below r0 rr; clear rr)
        | (go_at_call 25; with_reducible refine (ksP w10 gP g3).mono ?_; rintro e w11 ⟨rfl, rr⟩; replace ga := ga.below rr; replace gb := gb.below rr; replace BX := BX.below rr; replace BY := BY.below rr; replace BS := BS.below rr; replace BL := BL.below rr; replace BP := BP.below rr; replace r0 := then_below r0 rr; clear rr)
        | (go_at_call 18; with_reducible refine (kcmp w11 ga gb).mono ?_; rintro e w12 ⟨rfl, rr⟩; replace ga := ga.below rr; replace gb := gb.below rr; replace BX := BX.below rr; replace BY := BY.below rr; replace BS := BS.below rr; replace BL := BL.below rr; replace BP := BP.below rr; replace r0 := then_below r0 rr; clear rr)
        | (go_at_call 28; with_reducible refine (knc w12 ga gb).mono ?_; rintro e w13 ⟨rfl, rr⟩; replace BX := BX.below rr; replace BY := BY.below rr; replace BS := BS.below rr; replace BL := BL.below rr; replace BP := BP.below rr; replace r0 := then_below r0 rr; clear rr))
      all_goals
        go_wp2
        go_ret
        exact ⟨rfl, r0⟩

set_option maxRecDepth 100000 in
set_option maxHeartbeats 2000000 in
theorem iam_far {w : World} {a1 b1 : Option Addr} {na nb ca cb : Nat} (h : 100 < na ∨ (¬ 100 < na ∧ 100 < nb)) :
    Calls Try.prog 8 #[.slice a1 na ca, .slice b1 nb cb] w fun e w' => e = .returned (.bool true) ∧ Below w.heap.size w w' := by
  have hh : 100 < (na : Int) ∨ (¬ 100 < (na : Int) ∧ 100 < (nb : Int)) := by omega
  clear h
  rcases hh with h1 | ⟨h1, h2⟩
  all_goals
    go_enter Try.func8, Try.ntmps8
    go_wp2_with (first
      | (go_at_call 9; with_reducible refine (ialive_any w).mono ?_; rintro e w1 ⟨rfl, r1⟩)
      | (go_at_call 9; with_reducible refine (ialive_any w1).mono ?_; rintro e w2 ⟨rfl, r2⟩))
    go_ret
    exact ⟨rfl, then_below r1 r2⟩

set_option maxRecDepth 100000 in
set_option maxHeartbeats 2000000 in
theorem iam_bada {w : World} {a1 b1 : Option Addr} {ca cb : Nat} {la lb : List Nat} (ga : Reads w (.slice a1 la.length ca) la) (_gb : Reads w (.slice b1 lb.length cb) lb) (LA : la.length ≤ 100) (LB : lb.length ≤ 100) (h : chk la = false) :
    Calls Try.prog 8 #[.slice a1 la.length ca, .slice b1 lb.length cb] w fun e w' => e = .returned (.bool true) ∧ Below w.heap.size w w' := by
  have j1 : ¬ 100 < (la.length : Int) := by omega
  have j2 : ¬ 100 < (lb.length : Int) := by omega
  have c1 := fun (W : World) (g : Reads W (.slice a1 la.length ca) la) => check_any g (by omega)
  rw [h] at c1
  clear h LA LB
  go_enter Try.func8, Try.ntmps8
  go_wp2_with (first
    | (go_at_call 9; with_reducible refine (ialive_any w).mono ?_; rintro e w1 ⟨rfl, r1⟩; replace ga := ga.below r1)
    | (go_at_call 24; with_reducible refine (c1 w1 ga).mono ?_; rintro e w2 ⟨rfl, rfl⟩)
    | (go_at_call 9; with_reducible refine (ialive_any w1).mono ?_; rintro e w3 ⟨rfl, r2⟩))
  go_ret
  exact ⟨rfl, then_below r1 r2⟩

set_option maxRecDepth 100000 in
set_option maxHeartbeats 2000000 in
theorem iam_badb {w : World} {a1 b1 : Option Addr} {ca cb : Nat} {la lb : List Nat} (ga : Reads w (.slice a1 la.length ca) la) (gb : Reads w (.slice b1 lb.length cb) lb) (LA : la.length ≤ 100) (LB : lb.length ≤ 100) (h1 : chk la = true) (h : chk lb = false) :
    Calls Try.prog 8 #[.slice a1 la.length ca, .slice b1 lb.length cb] w fun e w' => e = .returned (.bool true) ∧ Below w.heap.size w w' := by
  have j1 : ¬ 100 < (la.length : Int) := by omega
  have j2 : ¬ 100 < (lb.length : Int) := by omega
  have c1 := fun (W : World) (g : Reads W (.slice a1 la.length ca) la) => check_form g (by omega) h1
  have c2 := fun (W : World) (g : Reads W (.slice b1 lb.length cb) lb) => check_any g (by omega)
  rw [h] at c2
  clear h h1 LA LB
  go_enter Try.func8, Try.ntmps8
  go_wp2_with (first
    | (go_at_call 9; with_reducible refine (ialive_any w).mono ?_; rintro e w1 ⟨rfl, r1⟩; replace ga := ga.below r1; replace gb := gb.below r1)
    | (go_at_call 24; with_reducible refine (c1 w1 ga).mono ?_; clear c1; rintro e w2 ⟨rfl, rfl⟩)
    | (go_at_call 24; with_reducible refine (c2 w1 gb).mono ?_; rintro e w2 ⟨rfl, rfl⟩)
    | (go_at_call 9; with_reducible refine (ialive_any w1).mono ?_; rintro e w3 ⟨rfl, r2⟩))
  go_ret
  exact ⟨rfl, then_below r1 r2⟩

end Go.Proofs.Ytjcoaoacgcpooaa
