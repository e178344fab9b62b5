/- Sums: a block as numbers, and those that are worked out of these. -/
import Derived.Test.YtjlmhpokamdkhaaDoorShC
import Derived.BigQuiet
import Derived.Deep.QuietTactic
import Derived.Deep.RegionHeld3
import Derived.Deep.WholeRow
import Derived.Deep.LoopGhost
namespace Go.Proofs.YtjlmhpokamdkhaaDoor
open Go Go.Proofs Go.RowKit Go.Shelf

attribute [local go_sem] Oper.semAt_some
theorem keep4_set {W : World} {g1 g k : Nat} {a b c d : Nat} {p q r s : Value} (v : Value) (hne : g1 ≠ g)
    (h : W.cell? ⟨g1, a, none⟩ = some p ∧ W.cell? ⟨g1, b, none⟩ = some q ∧ W.cell? ⟨g1, c, none⟩ = some r ∧ W.cell? ⟨g1, d, none⟩ = some s) :
    (W.setCell ⟨g, k, none⟩ v).drew.cell? ⟨g1, a, none⟩ = some p ∧ (W.setCell ⟨g, k, none⟩ v).drew.cell? ⟨g1, b, none⟩ = some q ∧ (W.setCell ⟨g, k, none⟩ v).drew.cell? ⟨g1, c, none⟩ = some r ∧ (W.setCell ⟨g, k, none⟩ v).drew.cell? ⟨g1, d, none⟩ = some s := by
  have e : ∀ j x, W.cell? ⟨g1, j, none⟩ = some x → (W.setCell ⟨g, k, none⟩ v).drew.cell? ⟨g1, j, none⟩ = some x := fun j x hx =>
    (World.cell?_of_block (w := W) (Below.heap_setCell W ⟨g, k, none⟩ v g1 hne)).trans hx
  exact ⟨e _ _ h.1, e _ _ h.2.1, e _ _ h.2.2.1, e _ _ h.2.2.2⟩

set_option maxRecDepth 100000
set_option maxHeartbeats 4000000 in
theorem spread_any (b : List UInt8) (hb : b.length = 64) (w : World) :
    Calls Tryd.prog 32 #[.agg (b.map bv).toArray] w fun e w' => e = .returned (.agg ((Sh.sched b).map uv).toArray) ∧ Below w.heap.size w w' := by
  obtain ⟨A, hA⟩ : ∃ A, A = (b.map bv).toArray := ⟨_, rfl⟩
  have hs : A.size = 64 := by rw [hA]; simp [hb]
  rw [← hA]
  have HA := Lib.hid hA
  clear hA
  go_enter Tryd.func32, Tryd.ntmps32
  go_wp2
  obtain ⟨B1, hB1⟩ : ∃ B1, B1 = w.heap.size := ⟨_, rfl⟩
  obtain ⟨B2, hB2⟩ : ∃ B2, B2 = w.heap.size + 1 := ⟨_, rfl⟩
  obtain ⟨B3, hB3⟩ : ∃ B3, B3 = w.heap.size + 1 + 1 := ⟨_, rfl⟩
  rw [← hB3, ← hB2, ← hB1]
  have h12 : B1 ≠ B2 := by omega
  have h13 : B1 ≠ B3 := by omega
  have h23 : B2 ≠ B3 := by omega
  have HB := Lib.hid (show B1 = w.heap.size ∧ B2 = w.heap.size + 1 ∧ B3 = w.heap.size + 1 + 1 from ⟨hB1, hB2, hB3⟩)
  have HBL := Lib.hid hb
  clear hB1 hB2 hB3 hb
  -- rules of reckoning
  have kb := iu_byte
  have kor := iu_or
  have k24 : ∀ x : UInt32, IntKind.u32.wrap (iu x * 16777216) = iu (x <<< 24) := fun x => iu_shl x 24 (by decide)
  have k16 : ∀ x : UInt32, IntKind.u32.wrap (iu x * 65536) = iu (x <<< 16) := fun x => iu_shl x 16 (by decide)
  have k8 : ∀ x : UInt32, IntKind.u32.wrap (iu x * 256) = iu (x <<< 8) := fun x => iu_shl x 8 (by decide)
  go_loopg [4, 8] 16 (fun g _ s wr => ∃ i : Nat, i + g = 16 ∧ s = .int .i64 (i : Int) ∧ Hid (Row wr B1 44 (b.map bv)) ∧ Hid (Row wr B2 57 (List.replicate 64 (uv 0))) ∧ Hid (Row wr B3 57 ((Sh.big b i).map uv ++ List.replicate (64 - i) (uv 0))) ∧ Hid (Below w.heap.size w wr))
  case atStart =>
    obtain ⟨rfl, rfl, rfl⟩ := HB.out
    refine ⟨0, rfl, rfl, Lib.hid ?_, Lib.hid ?_, Lib.hid ?_, Lib.hid ?_⟩
    · rw [HA.out]; exact ((Row.new w _ (b.map bv)).alloc _).alloc _
    · exact (Row.new1 w _ _ (List.replicate 64 (uv 0))).alloc _
    · exact Row.new2 w _ _ _ (List.replicate 64 (uv 0))
    · exact (((Below.refl _ _).alloc (Nat.le_refl _) _).alloc (by simp) _).alloc (by simp; omega) _
  case round =>
    obtain ⟨i, hi, rfl, R1, R2, R3, HW⟩ := hrel
    by_cases hlt : i < 16
    · obtain ⟨j, hj⟩ : ∃ j, j = 4 * i := ⟨_, rfl⟩
      obtain ⟨j1, hj1⟩ : ∃ k, k = j + 1 := ⟨_, rfl⟩
      obtain ⟨j2, hj2⟩ : ∃ k, k = j + 2 := ⟨_, rfl⟩
      obtain ⟨j3, hj3⟩ : ∃ k, k = j + 3 := ⟨_, rfl⟩
      have w0 : IntKind.i64.wrap (4 * (i : Int)) = (j : Int) := by rw [show 4 * (i : Int) = ((4 * i : Nat) : Int) by omega, ← hj]; exact i64n _ (by omega)
      have w1 : IntKind.i64.wrap ((j : Int) + 1) = (j1 : Int) := by rw [hj1]; exact i64n (j + 1) (by omega)
      have w2 : IntKind.i64.wrap ((j : Int) + 2) = (j2 : Int) := by rw [hj2]; exact i64n (j + 2) (by omega)
      have w3 : IntKind.i64.wrap ((j : Int) + 3) = (j3 : Int) := by rw [hj3]; exact i64n (j + 3) (by omega)
      have w4 : IntKind.i64.wrap ((i : Int) + 1) = ((i + 1 : Nat) : Int) := i64n (i + 1) (by omega)
      have c0 := R1.out.cell j _ (getD_some (by have := HBL.out; omega))
      have c1 := R1.out.cell j1 _ (getD_some (by have := HBL.out; omega))
      have c2 := R1.out.cell j2 _ (getD_some (by have := HBL.out; omega))
      have c3 := R1.out.cell j3 _ (getD_some (by have := HBL.out; omega))
      have fr := R3.out.frozen i
      have cz := R3.out.cell i (.int .u32 0) (fill_get (by rw [List.length_map, Sh.length_big]) (by omega))
      obtain ⟨p0, hp0⟩ : ∃ p, p = b.getD j 0 := ⟨_, rfl⟩
      obtain ⟨p1, hp1⟩ : ∃ p, p = b.getD j1 0 := ⟨_, rfl⟩
      obtain ⟨p2, hp2⟩ : ∃ p, p = b.getD j2 0 := ⟨_, rfl⟩
      obtain ⟨p3, hp3⟩ : ∃ p, p = b.getD j3 0 := ⟨_, rfl⟩
      have HQ := Lib.hid (show Sh.bigAt b i = Sh.quad p0 p1 p2 p3 by unfold Sh.bigAt; rw [← hj, ← hj1, ← hj2, ← hj3, hp0, hp1, hp2, hp3])
      rw [← hp0] at c0
      rw [← hp1] at c1
      rw [← hp2] at c2
      rw [← hp3] at c3
      have n0 : (0 : Int) ≤ (j : Int) := by omega
      have l0 : (j : Int) < 64 := by omega
      have n1 : (0 : Int) ≤ (j1 : Int) := by omega
      have l1 : (j1 : Int) < 64 := by omega
      have n2 : (0 : Int) ≤ (j2 : Int) := by omega
      have l2 : (j2 : Int) < 64 := by omega
      have n3 : (0 : Int) ≤ (j3 : Int) := by omega
      have l3 : (j3 : Int) < 64 := by omega
      have n4 : (0 : Int) ≤ (i : Int) := by omega
      have l4 : (i : Int) < 64 := by omega
      clear hj hj1 hj2 hj3 hp0 hp1 hp2 hp3
      go_wp2
      go_region_held3 (fun w' => w'.cell? ⟨B1, j, none⟩ = some (.int .u8 (ib p0)) ∧ w'.cell? ⟨B1, j1, none⟩ = some (.int .u8 (ib p1)) ∧ w'.cell? ⟨B1, j2, none⟩ = some (.int .u8 (ib p2)) ∧ w'.cell? ⟨B1, j3, none⟩ = some (.int .u8 (ib p3)))
        (first
          | exact ⟨c0, c1, c2, c3⟩
          | (exact keep4_set _ h13 ⟨c0, c1, c2, c3⟩))
        (fail)
      go_wp2
      go_roundg (16 - (i + 1))
      case measure => omega
      case rel =>
        refine ⟨i + 1, by omega, rfl, Lib.hid (show Row _ _ _ _ from R1.out.other h13 _), Lib.hid (show Row _ _ _ _ from R2.out.other h23 _), Lib.hid (show Row _ _ _ _ from ?_), Lib.hid (show Below _ _ _ from ?_)⟩
        · have e := R3.out.set i (uv (Sh.bigAt b i))
          rw [show 64 - i = (64 - (i + 1)) + 1 by omega] at e
          rw [show ((Sh.big b i).map uv ++ List.replicate (64 - (i + 1) + 1) (uv 0)).set i (uv (Sh.bigAt b i)) = (Sh.big b (i + 1)).map uv ++ List.replicate (64 - (i + 1)) (uv 0) by
            have := fill_set (l := (Sh.big b i).map uv) (m := 64 - (i + 1)) (z := uv 0) (v := uv (Sh.bigAt b i))
            rw [List.length_map, Sh.length_big] at this
            rw [this, Sh.big_succ, List.map_append]; rfl] at e
          rw [HQ.out] at e
          exact e
        · exact (HW.out.setCell (p := ⟨B3, i, none⟩) (show w.heap.size ≤ B3 by have := HB.out; omega) _).drew
    · obtain rfl : i = 16 := by omega
      have e16 : ((16 : Nat) : Int) = 16 := rfl
      go_wp2
      clear e16 hlt hi
      go_loopg [5, 6, 7] 48 (fun g s _ _ wr => ∃ i : Nat, i + g = 64 ∧ s = .int .i64 (i : Int) ∧ Hid (∃ k, i = 16 + k ∧ Row wr B3 57 ((Sh.grow k (Sh.big b 16)).map uv ++ List.replicate (48 - k) (uv 0))) ∧ Hid (Row wr B2 57 (List.replicate 64 (uv 0))) ∧ Hid (Below w.heap.size w wr))
      case atStart => exact ⟨16, rfl, rfl, Lib.hid ⟨0, rfl, R3.out⟩, R2, HW⟩
      case round =>
        clear R1 R2 R3 HW
        obtain ⟨i, hi, rfl, HR, R2, HW⟩ := hrel
        obtain ⟨k, hk, R3⟩ := HR.out
        clear HR
        by_cases hlt : i < 64
        · obtain ⟨l, hl⟩ : ∃ l, l = Sh.grow k (Sh.big b 16) := ⟨_, rfl⟩
          have hll : l.length = i := by rw [hl, Sh.length_grow, Sh.length_big, hk]
          rw [← hl] at R3
          obtain ⟨d15, h15⟩ : ∃ d, d = i - 15 := ⟨_, rfl⟩
          have w115 : IntKind.i64.wrap ((i : Int) - 15) = (d15 : Int) := by rw [show (i : Int) - 15 = ((i - 15 : Nat) : Int) by omega, ← h15]; exact i64n _ (by omega)
          have c15 := R3.cell d15 _ (get_left (getD_some32 (by omega)))
          obtain ⟨p15, hp15⟩ : ∃ p, p = l.getD d15 0 := ⟨_, rfl⟩
          rw [← hp15] at c15
          obtain ⟨d2, h2⟩ : ∃ d, d = i - 2 := ⟨_, rfl⟩
          have w102 : IntKind.i64.wrap ((i : Int) - 2) = (d2 : Int) := by rw [show (i : Int) - 2 = ((i - 2 : Nat) : Int) by omega, ← h2]; exact i64n _ (by omega)
          have c2 := R3.cell d2 _ (get_left (getD_some32 (by omega)))
          obtain ⟨p2, hp2⟩ : ∃ p, p = l.getD d2 0 := ⟨_, rfl⟩
          rw [← hp2] at c2
          obtain ⟨d16, h16⟩ : ∃ d, d = i - 16 := ⟨_, rfl⟩
          have w116 : IntKind.i64.wrap ((i : Int) - 16) = (d16 : Int) := by rw [show (i : Int) - 16 = ((i - 16 : Nat) : Int) by omega, ← h16]; exact i64n _ (by omega)
          have c16 := R3.cell d16 _ (get_left (getD_some32 (by omega)))
          obtain ⟨p16, hp16⟩ : ∃ p, p = l.getD d16 0 := ⟨_, rfl⟩
          rw [← hp16] at c16
          obtain ⟨d7, h7⟩ : ∃ d, d = i - 7 := ⟨_, rfl⟩
          have w107 : IntKind.i64.wrap ((i : Int) - 7) = (d7 : Int) := by rw [show (i : Int) - 7 = ((i - 7 : Nat) : Int) by omega, ← h7]; exact i64n _ (by omega)
          have c7 := R3.cell d7 _ (get_left (getD_some32 (by omega)))
          obtain ⟨p7, hp7⟩ : ∃ p, p = l.getD d7 0 := ⟨_, rfl⟩
          rw [← hp7] at c7
          have w4 : IntKind.i64.wrap ((i : Int) + 1) = ((i + 1 : Nat) : Int) := i64n (i + 1) (by omega)
          have fr := R3.frozen i
          have cz := R3.cell i (.int .u32 0) (fill_get (by rw [List.length_map, hll]) (by omega))
          have HQ := Lib.hid (show Sh.nextW l = Sh.mixW p16 p7 p15 p2 by unfold Sh.nextW; rw [hll, ← h15, ← h2, ← h16, ← h7, hp15, hp2, hp16, hp7])
          have HK := Lib.hid (show i = 16 + k ∧ l = Sh.grow k (Sh.big b 16) ∧ l.length = i from ⟨hk, hl, hll⟩)
          have R3 := Lib.hid R3
          have n115 : (0 : Int) ≤ (d15 : Int) := by omega
          have l115 : (d15 : Int) < 64 := by omega
          have n102 : (0 : Int) ≤ (d2 : Int) := by omega
          have l102 : (d2 : Int) < 64 := by omega
          have n116 : (0 : Int) ≤ (d16 : Int) := by omega
          have l116 : (d16 : Int) < 64 := by omega
          have n107 : (0 : Int) ≤ (d7 : Int) := by omega
          have l107 : (d7 : Int) < 64 := by omega
          have n4 : (0 : Int) ≤ (i : Int) := by omega
          have l4 : (i : Int) < 64 := by omega
          have x3 : ∀ x : UInt32, iu x / (8 : Int) = iu (x >>> 3) := fun x => iu_shr x 3 (by decide)
          have x10 : ∀ x : UInt32, iu x / (1024 : Int) = iu (x >>> 10) := fun x => iu_shr x 10 (by decide)
          have kadd := iu_add
          have b16 : d16 ≠ i := by omega
          have b7 : d7 ≠ i := by omega
          have HL := Lib.hid (show B3 < wr.heap.size from R3.out.lt)
          have HD := Lib.hid (show ∀ W : World, W.heap = wr.heap → Two3 W B3 d16 d7 i (.int .u32 (iu p16)) (.int .u32 (iu p7)) from fun W hW => ⟨heap_cell hW c16, heap_cell hW c7, ci_of (heap_cell hW cz), heap_frozen hW fr, Lib.hid (by rw [hW]; exact HL.out)⟩)
          have y0 := HL.out
          clear c16 c7 cz fr y0
          clear h15 h2 h16 h7 hp15 hp2 hp16 hp7 hk hl hll k24 k16 k8 kb kor
          go_wp2
          go_quiet (fail)
          go_wp2
          go_region_held3 (fun w' => w'.cell? ⟨B3, d16, none⟩ = some (.int .u32 (iu p16)) ∧ w'.cell? ⟨B3, d7, none⟩ = some (.int .u32 (iu p7)) ∧ w'.cell? ⟨B3, i, none⟩ = some (.int .u32 (ci w' B3 i)) ∧ w'.frozen? ⟨B3, i, none⟩ = false ∧ Hid (B3 < w'.heap.size))
            (first
              | (with_reducible assumption)
              | ((with_reducible refine Two3.un (keepA _ (Two3.of ?_))); with_reducible assumption)
              | ((with_reducible refine Two3.un (keepB _ b16 b7 (Two3.of ?_))); with_reducible assumption)
              | ((with_reducible refine Two3.un (HD.out _ ?_)); rfl))
            (first
              | (go_at_call 34; (with_reducible refine (turned7 _ _).mono ?_); rintro e w5 ⟨rfl, rfl⟩)
              | (go_at_call 34; (with_reducible refine (turned18 _ _).mono ?_); rintro e w5 ⟨rfl, rfl⟩)
              | (go_at_call 34; (with_reducible refine (turned17 _ _).mono ?_); rintro e w5 ⟨rfl, rfl⟩)
              | (go_at_call 34; (with_reducible refine (turned19 _ _).mono ?_); rintro e w5 ⟨rfl, rfl⟩)
              | (go_at_call 33; (with_reducible refine (against3_new _ _ _ _ _ _ (by first | rfl | (simp; done))).mono ?_); rintro e w5 ⟨rfl, rfl⟩))
          go_wp2
          go_roundg (64 - (i + 1))
          case measure => omega
          case rel =>
            obtain ⟨hk, hl, hll⟩ := HK.out
            refine ⟨i + 1, by omega, rfl, Lib.hid ⟨k + 1, by omega, ?_⟩, Lib.hid (show Row _ _ _ _ from ((R2.out.alloc _).alloc _).other h23 _), Lib.hid (show Below _ _ _ from ?_)⟩
            · have e := (((show Row (wr.drewN (nq + 1)) B3 57 (l.map uv ++ List.replicate (48 - k) (uv 0)) from R3.out).alloc (.cells #[.int .u32 (iu (Sh.R p15 7)), .int .u32 (iu (Sh.R p15 18)), .int .u32 (iu (p15 >>> 3))] 40)).alloc (.cells #[.int .u32 (iu (Sh.R p2 17)), .int .u32 (iu (Sh.R p2 19)), .int .u32 (iu (p2 >>> 10))] 40)).set i (uv (Sh.nextW l))
              rw [show 48 - k = (48 - (k + 1)) + 1 by omega] at e
              rw [show (l.map uv ++ List.replicate (48 - (k + 1) + 1) (uv 0)).set i (uv (Sh.nextW l)) = (Sh.grow (k + 1) (Sh.big b 16)).map uv ++ List.replicate (48 - (k + 1)) (uv 0) by
                have := fill_set (l := l.map uv) (m := 48 - (k + 1)) (z := uv 0) (v := uv (Sh.nextW l))
                rw [List.length_map, hll] at this
                rw [this, Sh.grow_succ, ← hl, List.map_append]; rfl] at e
              rw [HQ.out] at e
              exact e
            · have hle : w.heap.size ≤ B3 := by have := HB.out; omega
              have h1 : Below w.heap.size w (wr.drewN (nq + 1)) := below_drewN HW.out _
              exact ((h1.alloc h1.size _).alloc (h1.alloc h1.size _).size _).setCell (p := ⟨B3, i, none⟩) hle _
        · obtain rfl : i = 64 := by omega
          obtain rfl : k = 48 := by omega
          have R3' : Row wr B3 57 ((Sh.sched b).map uv) := by
            have e := R3
            rw [show 48 - 48 = 0 from rfl, List.replicate_zero, List.append_nil] at e
            exact e
          have R4 := Lib.hid (R2.out.setRow ((Sh.sched b).map uv))
          have R3 := Lib.hid R3'
          have hW2 := Lib.hid (below_setRow HW.out (show w.heap.size ≤ B2 by have := HB.out; omega) ((Sh.sched b).map uv).toArray)
          have hs2 := Lib.hid (show (Tryd.prog.info? 57).map (·.size) = some ((Sh.sched b).map uv).toArray.size by rw [info_w]; simp [Sh.length_sched])
          have hs3 := Lib.hid (show (List.replicate 64 (uv 0)).toArray.size = ((Sh.sched b).map uv).toArray.size by simp [Sh.length_sched])
          have hs4 := Lib.hid (one_uv (Sh.sched b))
          obtain ⟨L, hL⟩ : ∃ L, L = ((Sh.sched b).map uv).toArray := ⟨_, rfl⟩
          have HLL := Lib.hid hL
          have r3 := Lib.hid (show wr.heap[B3]? = some (.cells L 57 (0, 0)) by rw [hL]; exact R3.out)
          rw [← hL] at hs2 hs3 hs4 hW2
          have r2 := Lib.hid (show wr.heap[B2]? = some (.cells (List.replicate 64 (uv 0)).toArray 57 (0, 0)) from R2.out)
          have r4 := Lib.hid (show (wr.setRow B2 L).heap[B2]? = some (.cells L 57 (0, 0)) by rw [hL]; exact R4.out)
          clear hL R3' hk hlt hi R3 R4 R2 HW
          go_wp2_with (first
            | (refine wpList_load_row rfl 57 _ rfl B3 rfl 57 L (0, 0) _ r3.out Tryd.underlying57 rfl hs2.out ?_)
            | (refine wpList_store_row rfl 57 _ _ rfl B2 L rfl rfl 57 _ r2.out hs2.out hs3.out hs4.out ?_))
          (try simp only [Exit.inBlock, Exit.then])
          refine bodyPost_ret (results_cell_row rfl _ _ B2 57 L (0, 0) _ rfl r4.out Tryd.underlying57 rfl hs2.out) rfl ?_
          exact ⟨by rw [HLL.out], hW2.out⟩
end Go.Proofs.YtjlmhpokamdkhaaDoor
