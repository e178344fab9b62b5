/- Sums: eight numbers after a block was taken in: the 64 rounds. -/
import Derived.Test.YtjlmhpokamdkhaaDoorShD
namespace Go.Proofs.YtjlmhpokamdkhaaDoor
open Go Go.Proofs Go.RowKit Go.Shelf

attribute [local go_sem] Oper.semAt_some
/-- The numbers K lie where the program's text lays them. -/
def HasC (W : World) : Prop := ∃ tt fr, W.heap[1]? = some (.cells (Sh.cubes.map uv).toArray tt fr)
theorem HasC.lt {W : World} (h : HasC W) : 1 < W.heap.size := by
  obtain ⟨tt, fr, h⟩ := h; exact (Array.getElem?_eq_some_iff.1 h).1
theorem HasC.below {W W' : World} {B : Nat} (h : HasC W) (hB : 1 < B) (hb : Below B W W') : HasC W' := by
  obtain ⟨tt, fr, h⟩ := h; exact ⟨tt, fr, (hb.block _ hB).trans h⟩
theorem HasC.cell {W : World} (h : HasC W) (k : Nat) (hk : k < 64) : W.cell? ⟨1, k, none⟩ = some (.int .u32 (iu (Sh.cubes.getD k 0))) := by
  obtain ⟨tt, fr, h⟩ := h
  unfold World.cell?
  rw [h]
  have := getD_some32 (l := Sh.cubes) (j := k) (by simpa [Sh.cubes] using hk)
  simpa using this
theorem two_al {W : World} {g1 g i j : Nat} {x y : Value} (o : Obj) (h : W.cell? ⟨g1, i, none⟩ = some x ∧ W.cell? ⟨g, j, none⟩ = some y ∧ Hid (g1 < W.heap.size) ∧ Hid (g < W.heap.size)) :
    (W.alloc o).cell? ⟨g1, i, none⟩ = some x ∧ (W.alloc o).cell? ⟨g, j, none⟩ = some y ∧ Hid (g1 < (W.alloc o).heap.size) ∧ Hid (g < (W.alloc o).heap.size) :=
  ⟨al_cell o h.1 h.2.2.1.out, al_cell o h.2.1 h.2.2.2.out, Lib.hid (lt_alloc o h.2.2.1.out), Lib.hid (lt_alloc o h.2.2.2.out)⟩

theorem two_ald {W : World} {g1 g i j : Nat} {x y : Value} (o : Obj) (h : W.cell? ⟨g1, i, none⟩ = some x ∧ W.cell? ⟨g, j, none⟩ = some y ∧ Hid (g1 < W.heap.size) ∧ Hid (g < W.heap.size)) :
    (W.alloc o).drew.cell? ⟨g1, i, none⟩ = some x ∧ (W.alloc o).drew.cell? ⟨g, j, none⟩ = some y ∧ Hid (g1 < (W.alloc o).drew.heap.size) ∧ Hid (g < (W.alloc o).drew.heap.size) := two_al o h
theorem against3_drew (a b c : UInt32) (t : TypeId) (W : World) (g : Nat) (hg : g = W.heap.size) :
    Calls Tryd.prog 33 #[.slice (some ⟨g, 0, none⟩) 3 3] (W.alloc (.cells #[.int .u32 (iu a), .int .u32 (iu b), .int .u32 (iu c)] t)).drew fun e w' => e = .returned (.int .u32 (iu (Sh.x3 a b c))) ∧ (W.alloc (.cells #[.int .u32 (iu a), .int .u32 (iu b), .int .u32 (iu c)] t)).drew = w' := by
  subst hg
  exact against3 a b c _ t _ (Row.drew (Row.new W t [uv a, uv b, uv c]))
theorem hasC_al {W : World} (o : Obj) (h : HasC W) : HasC (W.alloc o) := by
  obtain ⟨tt, fr, h⟩ := h; exact ⟨tt, fr, heap_old o h⟩
/-- eight numbers, the first k of which are added to already -/
def rowK (s r : St) (k : Nat) : List Value := ((Sh.list (Sh.addS s r)).take k ++ (Sh.list s).drop k).map uv
set_option maxRecDepth 100000
set_option maxHeartbeats 4000000 in
theorem taken_any (s : St) (b : List UInt8) (hb : b.length = 64) (w : World) (hC : HasC w) :
    Calls Tryd.prog 23 #[.agg ((Sh.list s).map uv).toArray, .agg (b.map bv).toArray] w fun e w' => e = .returned (.agg ((Sh.list (Sh.comp s b)).map uv).toArray) ∧ Below w.heap.size w w' := by
  have hS := Lib.hid (show ((b.map bv).toArray).size = 64 by simp [hb])
  have ks := fun W => spread_any b hb W
  have KS := Lib.hid ks
  obtain ⟨s0, s1, s2, s3, s4, s5, s6, s7⟩ := s
  obtain ⟨A, hA⟩ : ∃ A, A = (b.map bv).toArray := ⟨_, rfl⟩
  have HA := Lib.hid hA
  rw [← hA] at hS KS ⊢
  obtain ⟨L, hL⟩ : ∃ L, L = ((Sh.sched b).map uv).toArray := ⟨_, rfl⟩
  have HL := Lib.hid hL
  rw [← hL] at KS
  have hLs := Lib.hid (show L.size = 64 by rw [hL]; simp [Sh.length_sched])
  have hLo := Lib.hid (show L.all (·.oneCell') = true by rw [hL]; exact one_uv _)
  clear hA hL ks hb
  have hC := Lib.hid hC
  have e8 : ((Sh.list ⟨s0, s1, s2, s3, s4, s5, s6, s7⟩).map uv).toArray = #[.int .u32 (iu s0), .int .u32 (iu s1), .int .u32 (iu s2), .int .u32 (iu s3), .int .u32 (iu s4), .int .u32 (iu s5), .int .u32 (iu s6), .int .u32 (iu s7)] := rfl
  rw [e8]
  clear e8
  go_enter Tryd.func23, Tryd.ntmps23
  go_wp2_with (first
    | (refine wpList_load_row rfl 44 _ rfl (w.heap.size + 1) rfl 44 A (0, 0) _ (heap_old _ (heap_n1 _ _ _ _)) Tryd.underlying44 rfl (by rw [hS.out]; exact info_b) ?_)
    | (refine wpList_store_row rfl 57 _ _ rfl w1.heap.size L rfl rfl 57 _ (heap_n0 _ _ _) (by rw [hLs.out]; exact info_w) (by rw [hLs.out]; rfl) hLo.out ?_; rw [World.setRow_alloc_new])
    | (go_at_call 32; refine (KS.out _).mono ?_; rintro e w1 ⟨rfl, hb1⟩; have hb1 := Lib.hid hb1))
  obtain ⟨B1, hB1⟩ : ∃ B, B = w.heap.size := ⟨_, rfl⟩
  obtain ⟨B4, hB4⟩ : ∃ B, B = w.heap.size + 1 + 1 := ⟨_, rfl⟩
  obtain ⟨B5, hB5⟩ : ∃ B, B = w1.heap.size := ⟨_, rfl⟩
  obtain ⟨u, hu⟩ : ∃ u, u = w1.alloc (.cells L 57) := ⟨_, rfl⟩
  have hsz : w.heap.size + 1 + 1 + 1 ≤ w1.heap.size := by have := hb1.out.size; simpa using this
  have hC0 := hC.out
  have HU := Lib.hid (show Row u B1 42 [uv s0, uv s1, uv s2, uv s3, uv s4, uv s5, uv s6, uv s7] ∧ Row u B4 42 (List.replicate 8 (uv 0)) ∧ Row u B5 57 ((Sh.sched b).map uv) ∧ HasC u ∧ Below w.heap.size w u by
    subst hu hB1 hB4 hB5
    have hbel : Below w.heap.size w (w1.alloc (.cells L 57)) := ((((Below.refl _ _).alloc (Nat.le_refl _) _).alloc (by simp) _).alloc (by simp; omega) _).trans (hb1.out.mono (by simp; omega)) |>.alloc (by omega) _
    refine ⟨Row.alloc (Row.below (((Row.new w _ [uv s0, uv s1, uv s2, uv s3, uv s4, uv s5, uv s6, uv s7]).alloc _).alloc _) hb1.out (by simp; omega)) _, Row.alloc (Row.below (Row.new2 w _ _ _ (List.replicate 8 (uv 0))) hb1.out (by simp)) _, ?_, HasC.below hC0 hC0.lt hbel, hbel⟩
    rw [HL.out]; exact Row.new w1 _ _)
  have HB := Lib.hid (show w.heap.size = B1 ∧ B4 = B1 + 2 ∧ B1 + 3 ≤ B5 from ⟨hB1.symm, by omega, by omega⟩)
  rw [← hu, ← hB5, ← hB4, ← hB1]
  clear hu hB1 hB4 hB5 hsz hC0 hb1
  have c0 := HU.out.1.cell 0 (.int .u32 (iu s0)) rfl
  have c1 := HU.out.1.cell 1 (.int .u32 (iu s1)) rfl
  have c2 := HU.out.1.cell 2 (.int .u32 (iu s2)) rfl
  have c3 := HU.out.1.cell 3 (.int .u32 (iu s3)) rfl
  have c4 := HU.out.1.cell 4 (.int .u32 (iu s4)) rfl
  have c5 := HU.out.1.cell 5 (.int .u32 (iu s5)) rfl
  have c6 := HU.out.1.cell 6 (.int .u32 (iu s6)) rfl
  have c7 := HU.out.1.cell 7 (.int .u32 (iu s7)) rfl
  go_quiet (fail)
  clear c0 c1 c2 c3 c4 c5 c6 c7
  have k0 : ((0 : Nat) : Int) = 0 := rfl
  go_wp2
  go_loopg [6, 7, 8, 9, 10, 11, 12, 13, 14, 15, 16, 37] 64 (fun g xa xb xc xd xe xf xg xh _ _ _ i wr => ∃ (k : Nat) (S : St), k + g = 64 ∧ i = .int .i64 (k : Int) ∧ xa = .int .u32 (iu S.a) ∧ xb = .int .u32 (iu S.b) ∧ xc = .int .u32 (iu S.c) ∧ xd = .int .u32 (iu S.d) ∧ xe = .int .u32 (iu S.e) ∧ xf = .int .u32 (iu S.f) ∧ xg = .int .u32 (iu S.g) ∧ xh = .int .u32 (iu S.h) ∧ Hid (S = Sh.rounds (Sh.sched b) k ⟨s0, s1, s2, s3, s4, s5, s6, s7⟩) ∧ Hid (Row wr B1 42 [uv s0, uv s1, uv s2, uv s3, uv s4, uv s5, uv s6, uv s7] ∧ Row wr B4 42 (List.replicate 8 (uv 0)) ∧ Row wr B5 57 ((Sh.sched b).map uv) ∧ HasC wr ∧ Below w.heap.size w wr))
  case atStart => exact ⟨0, ⟨s0, s1, s2, s3, s4, s5, s6, s7⟩, rfl, rfl, rfl, rfl, rfl, rfl, rfl, rfl, rfl, rfl, Lib.hid rfl, Lib.hid ⟨HU.out.1, HU.out.2.1, HU.out.2.2.1, HU.out.2.2.2.1, below_drewN HU.out.2.2.2.2 _⟩⟩
  case round =>
    clear HU
    obtain ⟨k, S, hk, rfl, rfl, rfl, rfl, rfl, rfl, rfl, rfl, rfl, HS, HU⟩ := hrel
    by_cases hlt : k < 64
    · have hi0 : (0 : Int) ≤ (k : Int) := by omega
      have hi1 : (k : Int) < 64 := by omega
      have hi2 : IntKind.i64.wrap ((k : Int) + 1) = ((k + 1 : Nat) : Int) := i64n (k + 1) (by omega)
      have cc := HU.out.2.2.2.1.cell k hlt
      have cw := HU.out.2.2.1.cell k _ (getD_some32 (by rw [Sh.length_sched]; exact hlt))
      obtain ⟨q1, hq1⟩ : ∃ q, q = Sh.cubes.getD k 0 := ⟨_, rfl⟩
      obtain ⟨q2, hq2⟩ : ∃ q, q = (Sh.sched b).getD k 0 := ⟨_, rfl⟩
      rw [← hq1] at cc
      rw [← hq2] at cw
      have HQ := Lib.hid (show q1 = Sh.cubes.getD k 0 ∧ q2 = (Sh.sched b).getD k 0 from ⟨hq1, hq2⟩)
      have HD := Lib.hid (show ∀ W : World, W.heap = wr.heap → W.cell? ⟨1, k, none⟩ = some (.int .u32 (iu q1)) ∧ W.cell? ⟨B5, k, none⟩ = some (.int .u32 (iu q2)) ∧ Hid (1 < W.heap.size) ∧ Hid (B5 < W.heap.size) from fun W hW => ⟨heap_cell hW cc, heap_cell hW cw, Lib.hid (by rw [hW]; exact HU.out.2.2.2.1.lt), Lib.hid (by rw [hW]; exact HU.out.2.2.1.lt)⟩)
      clear hq1 hq2 cc cw
      have kadd := iu_add
      have kand := iu_and
      have kor := iu_or
      have knot : ∀ x : UInt32, bits .xor .u32 IntKind.u32.max (iu x) = iu (~~~ x) := fun x => iu_not x
      go_wp2
      go_region_held3 (fun w' => w'.cell? ⟨1, k, none⟩ = some (.int .u32 (iu q1)) ∧ w'.cell? ⟨B5, k, none⟩ = some (.int .u32 (iu q2)) ∧ Hid (1 < w'.heap.size) ∧ Hid (B5 < w'.heap.size))
        (first
          | (with_reducible assumption)
          | ((with_reducible refine two_al _ ?_); with_reducible assumption)
          | ((with_reducible refine HD.out _ ?_); rfl)
          | ((with_reducible refine two_ald _ (HD.out _ ?_)); rfl))
        (first
          | (go_at_call 34; (with_reducible refine (turned6 _ _).mono ?_); rintro e w5 ⟨rfl, rfl⟩)
          | (go_at_call 34; (with_reducible refine (turned11 _ _).mono ?_); rintro e w5 ⟨rfl, rfl⟩)
          | (go_at_call 34; (with_reducible refine (turned25 _ _).mono ?_); rintro e w5 ⟨rfl, rfl⟩)
          | (go_at_call 33; (with_reducible refine (against3_drew _ _ _ _ _ _ (by first | rfl | (simp; done))).mono ?_); rintro e w5 ⟨rfl, rfl⟩)
          | (go_at_call 33; (with_reducible refine (against3_new _ _ _ _ _ _ (by first | rfl | (simp; done))).mono ?_); rintro e w5 ⟨rfl, rfl⟩))
      go_wp2_with (first
          | (go_at_call 34; (with_reducible refine (turned2 _ _).mono ?_); rintro e w5 ⟨rfl, rfl⟩)
          | (go_at_call 34; (with_reducible refine (turned13 _ _).mono ?_); rintro e w5 ⟨rfl, rfl⟩)
          | (go_at_call 34; (with_reducible refine (turned22 _ _).mono ?_); rintro e w5 ⟨rfl, rfl⟩)
          | (go_at_call 33; (with_reducible refine (against3_drew _ _ _ _ _ _ (by first | rfl | (simp; done))).mono ?_); rintro e w5 ⟨rfl, rfl⟩)
          | (go_at_call 33; (with_reducible refine (against3_new _ _ _ _ _ _ (by first | rfl | (simp; done))).mono ?_); rintro e w5 ⟨rfl, rfl⟩))
      go_roundg (64 - (k + 1))
      case measure => omega
      case rel =>
        refine ⟨k + 1, Sh.step S q1 q2, by omega, rfl, rfl, rfl, rfl, rfl, rfl, rfl, rfl, rfl, Lib.hid ?_, Lib.hid ⟨Row.alloc (Row.alloc HU.out.1 _) _, Row.alloc (Row.alloc HU.out.2.1 _) _, Row.alloc (Row.alloc HU.out.2.2.1 _) _, ?_, ?_⟩⟩
        · rw [Sh.rounds, ← HS.out, ← HQ.out.1, ← HQ.out.2]
        · exact hasC_al _ (hasC_al _ HU.out.2.2.2.1)
        · have h1 := HU.out.2.2.2.2
          exact ((h1.alloc h1.size _).alloc (h1.alloc h1.size _).size _).drew
    · obtain rfl : k = 64 := by omega
      obtain ⟨r0, r1, r2, r3, r4, r5, r6, r7⟩ := S
      have HU := Lib.hid (show Row wr B1 42 (rowK ⟨s0, s1, s2, s3, s4, s5, s6, s7⟩ ⟨r0, r1, r2, r3, r4, r5, r6, r7⟩ 0) ∧ Row wr B4 42 (List.replicate 8 (uv 0)) ∧ Below w.heap.size w wr from ⟨HU.out.1, HU.out.2.1, HU.out.2.2.2.2⟩)
      have e64 : ((64 : Nat) : Int) = 64 := rfl
      clear hlt hk
      dsimp only
      go_wp2
      have k0 : ((0 : Nat) : Int) = 0 := rfl
      have kadd := iu_add
      have h14 : B1 ≠ B4 := by have := HB.out; omega
      go_loopg [17, 18, 109] 8 (fun g _ _ i wr => ∃ (k : Nat), k + g = 8 ∧ i = .int .i64 (k : Int) ∧ Hid (Row wr B1 42 (rowK ⟨s0, s1, s2, s3, s4, s5, s6, s7⟩ ⟨r0, r1, r2, r3, r4, r5, r6, r7⟩ k) ∧ Row wr B4 42 (List.replicate 8 (uv 0)) ∧ Below w.heap.size w wr))
      case atStart => exact ⟨0, rfl, rfl, HU⟩
      case round =>
        clear HU
        obtain ⟨k, hk, rfl, HU⟩ := hrel
        obtain rfl | rfl | rfl | rfl | rfl | rfl | rfl | rfl | rfl : k = 0 ∨ k = 1 ∨ k = 2 ∨ k = 3 ∨ k = 4 ∨ k = 5 ∨ k = 6 ∨ k = 7 ∨ k = 8 := by omega
        · have cz := HU.out.1.cell 0 (.int .u32 (iu s0)) rfl
          have fr := HU.out.1.frozen 0
          have kc : ((0 : Nat) : Int) = 0 := rfl
          have ix : ∀ W : World, (Instr.index 42 (.agg #[.int .u32 (iu r0), .int .u32 (iu r1), .int .u32 (iu r2), .int .u32 (iu r3), .int .u32 (iu r4), .int .u32 (iu r5), .int .u32 (iu r6), .int .u32 (iu r7)]) (.int .i64 0)).run Tryd.prog W = .ok (.int .u32 (iu r0)) W := fun W => by kernel_rfl
          go_wp2
          go_roundg 7
          case measure => omega
          case rel => exact ⟨1, rfl, rfl, Lib.hid ⟨HU.out.1.set 0 (uv (s0 + r0)), HU.out.2.1.other h14.symm _, HU.out.2.2.setCell (p := ⟨B1, 0, none⟩) (show w.heap.size ≤ B1 by have := HB.out; omega) _⟩⟩
        · have cz := HU.out.1.cell 1 (.int .u32 (iu s1)) rfl
          have fr := HU.out.1.frozen 1
          have kc : ((1 : Nat) : Int) = 1 := rfl
          have ix : ∀ W : World, (Instr.index 42 (.agg #[.int .u32 (iu r0), .int .u32 (iu r1), .int .u32 (iu r2), .int .u32 (iu r3), .int .u32 (iu r4), .int .u32 (iu r5), .int .u32 (iu r6), .int .u32 (iu r7)]) (.int .i64 1)).run Tryd.prog W = .ok (.int .u32 (iu r1)) W := fun W => by kernel_rfl
          go_wp2
          go_roundg 6
          case measure => omega
          case rel => exact ⟨2, rfl, rfl, Lib.hid ⟨HU.out.1.set 1 (uv (s1 + r1)), HU.out.2.1.other h14.symm _, HU.out.2.2.setCell (p := ⟨B1, 1, none⟩) (show w.heap.size ≤ B1 by have := HB.out; omega) _⟩⟩
        · have cz := HU.out.1.cell 2 (.int .u32 (iu s2)) rfl
          have fr := HU.out.1.frozen 2
          have kc : ((2 : Nat) : Int) = 2 := rfl
          have ix : ∀ W : World, (Instr.index 42 (.agg #[.int .u32 (iu r0), .int .u32 (iu r1), .int .u32 (iu r2), .int .u32 (iu r3), .int .u32 (iu r4), .int .u32 (iu r5), .int .u32 (iu r6), .int .u32 (iu r7)]) (.int .i64 2)).run Tryd.prog W = .ok (.int .u32 (iu r2)) W := fun W => by kernel_rfl
          go_wp2
          go_roundg 5
          case measure => omega
          case rel => exact ⟨3, rfl, rfl, Lib.hid ⟨HU.out.1.set 2 (uv (s2 + r2)), HU.out.2.1.other h14.symm _, HU.out.2.2.setCell (p := ⟨B1, 2, none⟩) (show w.heap.size ≤ B1 by have := HB.out; omega) _⟩⟩
        · have cz := HU.out.1.cell 3 (.int .u32 (iu s3)) rfl
          have fr := HU.out.1.frozen 3
          have kc : ((3 : Nat) : Int) = 3 := rfl
          have ix : ∀ W : World, (Instr.index 42 (.agg #[.int .u32 (iu r0), .int .u32 (iu r1), .int .u32 (iu r2), .int .u32 (iu r3), .int .u32 (iu r4), .int .u32 (iu r5), .int .u32 (iu r6), .int .u32 (iu r7)]) (.int .i64 3)).run Tryd.prog W = .ok (.int .u32 (iu r3)) W := fun W => by kernel_rfl
          go_wp2
          go_roundg 4
          case measure => omega
          case rel => exact ⟨4, rfl, rfl, Lib.hid ⟨HU.out.1.set 3 (uv (s3 + r3)), HU.out.2.1.other h14.symm _, HU.out.2.2.setCell (p := ⟨B1, 3, none⟩) (show w.heap.size ≤ B1 by have := HB.out; omega) _⟩⟩
        · have cz := HU.out.1.cell 4 (.int .u32 (iu s4)) rfl
          have fr := HU.out.1.frozen 4
          have kc : ((4 : Nat) : Int) = 4 := rfl
          have ix : ∀ W : World, (Instr.index 42 (.agg #[.int .u32 (iu r0), .int .u32 (iu r1), .int .u32 (iu r2), .int .u32 (iu r3), .int .u32 (iu r4), .int .u32 (iu r5), .int .u32 (iu r6), .int .u32 (iu r7)]) (.int .i64 4)).run Tryd.prog W = .ok (.int .u32 (iu r4)) W := fun W => by kernel_rfl
          go_wp2
          go_roundg 3
          case measure => omega
          case rel => exact ⟨5, rfl, rfl, Lib.hid ⟨HU.out.1.set 4 (uv (s4 + r4)), HU.out.2.1.other h14.symm _, HU.out.2.2.setCell (p := ⟨B1, 4, none⟩) (show w.heap.size ≤ B1 by have := HB.out; omega) _⟩⟩
        · have cz := HU.out.1.cell 5 (.int .u32 (iu s5)) rfl
          have fr := HU.out.1.frozen 5
          have kc : ((5 : Nat) : Int) = 5 := rfl
          have ix : ∀ W : World, (Instr.index 42 (.agg #[.int .u32 (iu r0), .int .u32 (iu r1), .int .u32 (iu r2), .int .u32 (iu r3), .int .u32 (iu r4), .int .u32 (iu r5), .int .u32 (iu r6), .int .u32 (iu r7)]) (.int .i64 5)).run Tryd.prog W = .ok (.int .u32 (iu r5)) W := fun W => by kernel_rfl
          go_wp2
          go_roundg 2
          case measure => omega
          case rel => exact ⟨6, rfl, rfl, Lib.hid ⟨HU.out.1.set 5 (uv (s5 + r5)), HU.out.2.1.other h14.symm _, HU.out.2.2.setCell (p := ⟨B1, 5, none⟩) (show w.heap.size ≤ B1 by have := HB.out; omega) _⟩⟩
        · have cz := HU.out.1.cell 6 (.int .u32 (iu s6)) rfl
          have fr := HU.out.1.frozen 6
          have kc : ((6 : Nat) : Int) = 6 := rfl
          have ix : ∀ W : World, (Instr.index 42 (.agg #[.int .u32 (iu r0), .int .u32 (iu r1), .int .u32 (iu r2), .int .u32 (iu r3), .int .u32 (iu r4), .int .u32 (iu r5), .int .u32 (iu r6), .int .u32 (iu r7)]) (.int .i64 6)).run Tryd.prog W = .ok (.int .u32 (iu r6)) W := fun W => by kernel_rfl
          go_wp2
          go_roundg 1
          case measure => omega
          case rel => exact ⟨7, rfl, rfl, Lib.hid ⟨HU.out.1.set 6 (uv (s6 + r6)), HU.out.2.1.other h14.symm _, HU.out.2.2.setCell (p := ⟨B1, 6, none⟩) (show w.heap.size ≤ B1 by have := HB.out; omega) _⟩⟩
        · have cz := HU.out.1.cell 7 (.int .u32 (iu s7)) rfl
          have fr := HU.out.1.frozen 7
          have kc : ((7 : Nat) : Int) = 7 := rfl
          have ix : ∀ W : World, (Instr.index 42 (.agg #[.int .u32 (iu r0), .int .u32 (iu r1), .int .u32 (iu r2), .int .u32 (iu r3), .int .u32 (iu r4), .int .u32 (iu r5), .int .u32 (iu r6), .int .u32 (iu r7)]) (.int .i64 7)).run Tryd.prog W = .ok (.int .u32 (iu r7)) W := fun W => by kernel_rfl
          go_wp2
          go_roundg 0
          case measure => omega
          case rel => exact ⟨8, rfl, rfl, Lib.hid ⟨HU.out.1.set 7 (uv (s7 + r7)), HU.out.2.1.other h14.symm _, HU.out.2.2.setCell (p := ⟨B1, 7, none⟩) (show w.heap.size ≤ B1 by have := HB.out; omega) _⟩⟩
        · have kc : ((8 : Nat) : Int) = 8 := rfl
          have R1 := HU.out.1
          obtain ⟨M, hM⟩ : ∃ M, M = ((Sh.list (Sh.addS ⟨s0, s1, s2, s3, s4, s5, s6, s7⟩ ⟨r0, r1, r2, r3, r4, r5, r6, r7⟩)).map uv).toArray := ⟨_, rfl⟩
          have HM := Lib.hid hM
          have hMs := Lib.hid (show M.size = 8 by rw [hM]; rfl)
          have hMo := Lib.hid (show M.all (·.oneCell') = true by rw [hM]; exact one_uv _)
          have m1 := Lib.hid (show wr.heap[B1]? = some (.cells M 42 (0, 0)) by rw [hM]; exact R1)
          have m4 := Lib.hid (show wr.heap[B4]? = some (.cells ((List.replicate 8 (uv 0))).toArray 42 (0, 0)) from HU.out.2.1)
          have m5 := Lib.hid (show (wr.setRow B4 M).heap[B4]? = some (.cells M 42 (0, 0)) by rw [hM]; exact HU.out.2.1.setRow _)
          have hw2 := Lib.hid (below_setRow HU.out.2.2 (show w.heap.size ≤ B4 by have := HB.out; omega) M)
          clear hM R1 HU
          go_wp2_with (first
            | (refine wpList_load_row rfl 42 _ rfl B1 rfl 42 M (0, 0) _ m1.out Tryd.underlying42 rfl (by rw [hMs.out]; exact info_n) ?_)
            | (refine wpList_store_row rfl 42 _ _ rfl B4 M rfl rfl 42 _ m4.out (by rw [hMs.out]; exact info_n) (by rw [hMs.out]; rfl) hMo.out ?_))
          (try simp only [Exit.inBlock, Exit.then])
          refine bodyPost_ret (results_cell_row rfl _ _ B4 42 M (0, 0) _ rfl m5.out Tryd.underlying42 rfl (by rw [hMs.out]; exact info_n)) rfl ?_
          refine ⟨?_, hw2.out⟩
          rw [HM.out, Sh.comp, ← HS.out]
end Go.Proofs.YtjlmhpokamdkhaaDoor
