/- Sums: the document's block of 64 bytes. -/
import Derived.Test.YtjlmhpokamdkhaaDoorShRa
namespace Go.Proofs.YtjlmhpokamdkhaaDoor
open Go Go.Proofs Go.RowKit Go.Shelf

attribute [local go_sem] Oper.semAt_some
set_option maxRecDepth 100000
/-- numbers that lie in block g, and may be written -/
def LU (W : World) (base g : Nat) (l : List UInt32) : Prop := base ≤ g ∧ g < W.heap.size ∧ ∀ j, j < l.length → W.cell? ⟨g, j, none⟩ = some (.int .u32 (iu (l.getD j 0))) ∧ W.frozen? ⟨g, j, none⟩ = false
theorem LU.below {W W' : World} {base g : Nat} {l : List UInt32} (h : LU W base g l) (hb : Below W.heap.size W W') : LU W' base g l :=
  ⟨h.1, Nat.lt_of_lt_of_le h.2.1 hb.size, fun j hj => ⟨(hb.cell (p := ⟨g, j, none⟩) h.2.1).trans (h.2.2 j hj).1, (hb.frozen (p := ⟨g, j, none⟩) h.2.1).trans (h.2.2 j hj).2⟩⟩
theorem LU.row {W : World} {base g : Nat} {l : List UInt32} (h : Row W g 40 (l.map uv)) (hb : base ≤ g) : LU W base g l :=
  ⟨hb, h.lt, fun j hj => ⟨h.cell j _ (getD_some32 hj), h.frozen j⟩⟩
theorem LU.own {W : World} {base g n cap : Nat} {l : List UInt32} (h : OwnU W base (.slice (some ⟨g, 0, none⟩) n cap) l) : LU W base g l := by
  have hl := (World.ownsRow.lt h) g rfl
  have hf : ∀ j, W.frozen? ⟨g, j, none⟩ = false := by
    rcases h.2 with ⟨h', _⟩ | ⟨g', cap', cur, h', _, hg, _⟩
    · simp at h'
    · simp only [Value.slice.injEq, Option.some.injEq, Addr.mk.injEq, and_true] at h'
      obtain ⟨rfl, _⟩ := h'
      intro j
      exact frozen_of_row W g j cur _ hg
  exact ⟨hl.1, hl.2, fun j hj => ⟨OwnU.cell h j hj, hf j⟩⟩
theorem LU.set {W : World} {base g : Nat} {l : List UInt32} (h : LU W base g l) (j : Nat) (x : UInt32) (hj : j < l.length) : LU (W.setCell ⟨g, j, none⟩ (.int .u32 (iu x))) base g (l.set j x) := by
  refine ⟨h.1, by simpa using h.2.1, fun i hi => ⟨?_, frozen_set (h.2.2 i (by simpa using hi)).2⟩⟩
  rw [List.length_set] at hi
  by_cases e : i = j
  · subst e
    rw [World.cell?_setCell_same W _ _ (h.2.2 i hi).1]
    simp [List.getD_eq_getElem?_getD, List.getElem?_set_self hj]
  · have := cell_set (.int .u32 (iu x)) e (h.2.2 i hi).1
    rw [this]
    simp [List.getD_eq_getElem?_getD, List.getElem?_set_ne (fun h => e h.symm)]
theorem xor_ch (e f g : UInt32) : (e &&& f) ^^^ (~~~ e &&& g) = (e &&& f) ||| (~~~ e &&& g) := by
  apply UInt32.eq_of_toBitVec_eq
  rw [UInt32.toBitVec_xor, UInt32.toBitVec_or, UInt32.toBitVec_and, UInt32.toBitVec_and, UInt32.toBitVec_not]
  apply BitVec.eq_of_getLsbD_eq
  intro i hi
  simp only [BitVec.getLsbD_xor, BitVec.getLsbD_or, BitVec.getLsbD_and, BitVec.getLsbD_not, hi, decide_true, Bool.true_and]
  cases e.toBitVec.getLsbD i <;> cases f.toBitVec.getLsbD i <;> cases g.toBitVec.getLsbD i <;> rfl
/-- numbers, to the first k of which others are added -/
def addK (s r : List UInt32) : Nat → List UInt32
  | 0 => r
  | k + 1 => (addK s r k).set k ((addK s r k).getD k 0 + s.getD k 0)
theorem length_addK (s r : List UInt32) (k : Nat) : (addK s r k).length = r.length := by
  induction k with
  | zero => rfl
  | succ k ih => rw [addK, List.length_set, ih]
theorem addK_8 (s r : St) : addK (Sh.list s) (Sh.list r) 8 = Sh.list (Sh.addS s r) := by
  simp [addK, Sh.list, Sh.addS, UInt32.add_comm]
theorem table_any (w : World) : Calls Tryd.prog 36 #[] w fun e w' => ∃ g, e = .returned (.slice (some ⟨g, 0, none⟩) 64 64) ∧ LU w' w.heap.size g Sh.cubes ∧ Below w.heap.size w w' := by
  go_enter Tryd.func36, Tryd.ntmps36
  go_wp2
  go_ret
  exact ⟨w.heap.size, rfl, LU.row (Row.new w 40 (Sh.cubes.map uv)) (Nat.le_refl _), (Below.refl _ _).alloc (Nat.le_refl _) _⟩
theorem app_all {w W : World} {gh ch : Nat} {l : List UInt32} (hb : Below w.heap.size w W) (h : ∀ j, j < l.length → W.cell? ⟨gh, j, none⟩ = some (.int .u32 (iu (l.getD j 0)))) (hl : 0 < l.length) (hl2 : l.length ≤ 1000000) :
    ∃ g cap W', (Builtin.append_ #[49, 49] 49 #[.slice none 0 0, .slice (some ⟨gh, 0, none⟩) l.length ch]).run Tryd.prog W = .ok (.slice (some ⟨g, 0, none⟩) l.length cap) W' ∧ OwnU W' w.heap.size (.slice (some ⟨g, 0, none⟩) l.length cap) l ∧ Below w.heap.size w W' ∧ Below W.heap.size W W' := by
  obtain ⟨i0, hi0, hz0, hz1, hz2⟩ := info_parts info_u32'
  have h0 : OwnU W W.heap.size (.slice none 0 0) [] := OwnU.nil W _
  obtain ⟨v', W', hr, ho, hg, _⟩ := run_append_own (P := Tryd.prog) W W.heap.size 49 49 40 i0 (.int .u32 0) 1 4 Tryd.underlying49 hi0 hz0 hz1 hz2 rfl (by omega) (.slice none 0 0) 0 [] h0 ⟨gh, 0, none⟩ l.length ch (l.map uv) (by simp) (fun j u hu => by
    have hj : j < l.length := by have := (List.getElem?_eq_some_iff.1 hu).1; simpa using this
    rw [Addr.add_lit, Nat.zero_add, h j hj]
    rw [getD_some32 hj] at hu
    exact hu) (one_uv' _) (small_max (by omega)) (by omega) (Nat.le_refl _)
  rw [Nat.zero_add, List.nil_append] at ho
  have hO : OwnU W' W.heap.size v' l := ho
  obtain ⟨g, cap, rfl, _, _⟩ := hO.form hl
  have hbb : Below W.heap.size W W' := (Below.refl _ _).grown hg (Nat.le_refl _) (fun k e => by simp [Value.ownBlock] at e)
  refine ⟨g, cap, W', hr, ⟨hO.1, ?_⟩, hb.trans (hbb.mono hb.size), hbb⟩
  rcases hO.2 with h | ⟨g', cap', cur, e, hg', r⟩
  · exact .inl h
  · exact .inr ⟨g', cap', cur, e, Nat.le_trans hb.size hg', r⟩

set_option maxHeartbeats 8000000 in
theorem rblock_any (s : St) (b : List UInt8) (hb : b.length = 64) (vb : Value) (gh ch : Nat) (w : World) (hB : RdB w vb b) (hH : ∀ j, j < 8 → w.cell? ⟨gh, j, none⟩ = some (.int .u32 (iu ((Sh.list s).getD j 0)))) (hg : gh < w.heap.size) :
    Calls Tryd.prog 25 #[.slice (some ⟨gh, 0, none⟩) 8 ch, vb] w fun e w' => ∃ g c, e = .returned (.slice (some ⟨g, 0, none⟩) 8 c) ∧ LU w' w.heap.size g (Sh.list (Sh.comp s b)) ∧ Below w.heap.size w w' := by
  obtain ⟨a, cap, rfl, hcap, hBB⟩ := hB
  obtain ⟨bb, off, rfl, hbb, hcell⟩ := hBB (by omega)
  rw [hb] at hcap hcell ⊢
  have HC := Lib.hid hcell
  have HH := Lib.hid hH
  have HBL := Lib.hid hb
  have HG := Lib.hid hg
  have HBB := Lib.hid hbb
  clear hcell hH hBB hb hg hbb
  go_enter Tryd.func25, Tryd.ntmps25
  go_wp2
  have kb := iu_byte
  have kor := iu_or
  have k24 : ∀ x : UInt32, IntKind.u32.wrap (iu x * 16777216) = iu (x <<< 24) := fun x => iu_shl x 24 (by decide)
  have k16 : ∀ x : UInt32, IntKind.u32.wrap (iu x * 65536) = iu (x <<< 16) := fun x => iu_shl x 16 (by decide)
  have k8 : ∀ x : UInt32, IntKind.u32.wrap (iu x * 256) = iu (x <<< 8) := fun x => iu_shl x 8 (by decide)
  have k0 : ((0 : Nat) : Int) = 0 := rfl
  go_loopg [5, 6] 16 (fun g v i wr => ∃ (k : Nat), k + g = 16 ∧ i = .int .i64 (k : Int) ∧ Hid (OwnU wr w.heap.size v (Sh.big b k)) ∧ Hid (Below w.heap.size w wr))
  case atStart => exact ⟨0, rfl, rfl, Lib.hid (OwnU.nil _ _), Lib.hid (Below.refl _ _)⟩
  case round =>
    clear k0
    obtain ⟨i, hi, rfl, HO, HW⟩ := hrel
    by_cases hlt : i < 16
    · obtain ⟨j, hj⟩ : ∃ j, j = 4 * i := ⟨_, rfl⟩
      obtain ⟨j1, hj1⟩ : ∃ k, k = j + 1 := ⟨_, rfl⟩
      obtain ⟨j2, hj2⟩ : ∃ k, k = j + 2 := ⟨_, rfl⟩
      obtain ⟨j3, hj3⟩ : ∃ k, k = j + 3 := ⟨_, rfl⟩
      have w0 : IntKind.i64.wrap (4 * (i : Int)) = (j : Int) := by rw [show 4 * (i : Int) = ((4 * i : Nat) : Int) by omega, ← hj]; exact i64n _ (by omega)
      have w1 : IntKind.i64.wrap ((j : Int) + 1) = (j1 : Int) := by rw [hj1]; exact i64n (j + 1) (by omega)
      have w2 : IntKind.i64.wrap ((j : Int) + 2) = (j2 : Int) := by rw [hj2]; exact i64n (j + 2) (by omega)
      have w3 : IntKind.i64.wrap ((j : Int) + 3) = (j3 : Int) := by rw [hj3]; exact i64n (j + 3) (by omega)
      have w4 : IntKind.i64.wrap ((i : Int) + 1) = ((i + 1 : Nat) : Int) := i64n (i + 1) (by omega)
      obtain ⟨p0, hp0⟩ : ∃ p, p = b.getD j 0 := ⟨_, rfl⟩
      obtain ⟨p1, hp1⟩ : ∃ p, p = b.getD j1 0 := ⟨_, rfl⟩
      obtain ⟨p2, hp2⟩ : ∃ p, p = b.getD j2 0 := ⟨_, rfl⟩
      obtain ⟨p3, hp3⟩ : ∃ p, p = b.getD j3 0 := ⟨_, rfl⟩
      have HQ := Lib.hid (show Sh.bigAt b i = Sh.quad p0 p1 p2 p3 by unfold Sh.bigAt; rw [← hj, ← hj1, ← hj2, ← hj3, hp0, hp1, hp2, hp3])
      have HD := Lib.hid (show ∀ W, Below w.heap.size w W → W.cell? ⟨bb, off + j, none⟩ = some (.int .u8 (ib p0)) ∧ W.cell? ⟨bb, off + j1, none⟩ = some (.int .u8 (ib p1)) ∧ W.cell? ⟨bb, off + j2, none⟩ = some (.int .u8 (ib p2)) ∧ W.cell? ⟨bb, off + j3, none⟩ = some (.int .u8 (ib p3)) by
        intro W hW
        have c : ∀ q, q < 64 → W.cell? ⟨bb, off + q, none⟩ = some (bv (b.getD q 0)) := fun q hq => (hW.cell (p := ⟨bb, off + q, none⟩) HBB.out).trans (HC.out q hq)
        rw [hp0, hp1, hp2, hp3]
        exact ⟨c j (by omega), c j1 (by omega), c j2 (by omega), c j3 (by omega)⟩)
      have n0 : (0 : Int) ≤ (j : Int) := by omega
      have l0 : (j : Int) < 64 := by omega
      have n1 : (0 : Int) ≤ (j1 : Int) := by omega
      have l1 : (j1 : Int) < 64 := by omega
      have n2 : (0 : Int) ≤ (j2 : Int) := by omega
      have l2 : (j2 : Int) < 64 := by omega
      have n3 : (0 : Int) ≤ (j3 : Int) := by omega
      have l3 : (j3 : Int) < 64 := by omega
      have n4 : (0 : Int) ≤ (i : Int) := by omega
      have l4 : (i : Int) < 16 := by omega
      obtain ⟨g, c, W', hap, hO', hB', _, _⟩ := app_u (V := (wr.alloc (.cells #[.int .u32 (iu (Sh.quad p0 p1 p2 p3))] 40)).drew) (Sh.quad p0 p1 p2 p3) HW.out HO.out (by rw [Sh.length_big]; omega) rfl rfl rfl rfl
      rw [Sh.length_big] at hap hO'
      have hap := Lib.hid hap
      have HO' := Lib.hid hO'
      have HB' := Lib.hid hB'
      have HBa := Lib.hid (show Below w.heap.size w (wr.alloc (.cells #[.int .u32 (iu (Sh.quad p0 p1 p2 p3))] 40)).drew from (HW.out.alloc HW.out.size _).drew)
      have HBd := Lib.hid (show Below w.heap.size w wr.drew from HW.out.drew)
      clear hj hj1 hj2 hj3 hp0 hp1 hp2 hp3 hO' hB'
      go_wp2
      go_region_held3 (fun W => W.cell? ⟨bb, off + j, none⟩ = some (.int .u8 (ib p0)) ∧ W.cell? ⟨bb, off + j1, none⟩ = some (.int .u8 (ib p1)) ∧ W.cell? ⟨bb, off + j2, none⟩ = some (.int .u8 (ib p2)) ∧ W.cell? ⟨bb, off + j3, none⟩ = some (.int .u8 (ib p3)))
        (first
          | exact HD.out _ HB'.out
          | exact HD.out _ HBd.out
          | exact HD.out _ HBa.out
          | fail)
        (first
          | (rw [if_pos (by rfl)]; refine Lib.wp_append_run _ _ _ _ _ rfl _ _ rfl rfl _ _ hap.out ?_))
      all_goals
        go_wp2
        go_roundg (16 - (i + 1))
        case measure => omega
        case rel => exact ⟨i + 1, by omega, rfl, Lib.hid (by rw [Sh.big_succ, HQ.out]; exact HO'.out), HB'⟩
    · obtain rfl : i = 16 := by omega
      have e16 : ((16 : Nat) : Int) = 16 := rfl
      obtain ⟨gw, cw, rfl, _, _⟩ := HO.out.form (by rw [Sh.length_big]; decide)
      rw [Sh.length_big] at HO ⊢
      go_wp2
      clear e16 hlt hi kb kor k24 k16 k8
      go_loopg [5, 7] 48 (fun n v s wr => ∃ (i k g c : Nat), i + n = 64 ∧ v = .slice (some ⟨g, 0, none⟩) i c ∧ s = .int .i64 (i : Int) ∧ Hid (i = 16 + k) ∧ Hid (OwnU wr w.heap.size (.slice (some ⟨g, 0, none⟩) i c) (Sh.grow k (Sh.big b 16))) ∧ Hid (Below w.heap.size w wr))
      case atStart => exact ⟨16, 0, gw, cw, rfl, rfl, rfl, Lib.hid rfl, HO, HW⟩
      case round =>
        clear HO HW
        obtain ⟨i, k, g, c, hi, rfl, rfl, HK, HO, HW⟩ := hrel
        by_cases hlt : i < 64
        · have hk := HK.out
          obtain ⟨l, hl⟩ : ∃ l, l = Sh.grow k (Sh.big b 16) := ⟨_, rfl⟩
          have hll : l.length = i := by rw [hl, Sh.length_grow, Sh.length_big, hk]
          rw [← hl] at HO
          obtain ⟨d15, h15⟩ : ∃ d, d = i - 15 := ⟨_, rfl⟩
          have w115 : IntKind.i64.wrap ((i : Int) - 15) = (d15 : Int) := by rw [show (i : Int) - 15 = ((i - 15 : Nat) : Int) by omega, ← h15]; exact i64n _ (by omega)
          obtain ⟨p15, hp15⟩ : ∃ p, p = l.getD d15 0 := ⟨_, rfl⟩
          have n115 : (0 : Int) ≤ (d15 : Int) := by omega
          have l115 : (d15 : Int) < (i : Int) := by omega
          obtain ⟨d2, h2⟩ : ∃ d, d = i - 2 := ⟨_, rfl⟩
          have w102 : IntKind.i64.wrap ((i : Int) - 2) = (d2 : Int) := by rw [show (i : Int) - 2 = ((i - 2 : Nat) : Int) by omega, ← h2]; exact i64n _ (by omega)
          obtain ⟨p2, hp2⟩ : ∃ p, p = l.getD d2 0 := ⟨_, rfl⟩
          have n102 : (0 : Int) ≤ (d2 : Int) := by omega
          have l102 : (d2 : Int) < (i : Int) := by omega
          obtain ⟨d16, h16⟩ : ∃ d, d = i - 16 := ⟨_, rfl⟩
          have w116 : IntKind.i64.wrap ((i : Int) - 16) = (d16 : Int) := by rw [show (i : Int) - 16 = ((i - 16 : Nat) : Int) by omega, ← h16]; exact i64n _ (by omega)
          obtain ⟨p16, hp16⟩ : ∃ p, p = l.getD d16 0 := ⟨_, rfl⟩
          have n116 : (0 : Int) ≤ (d16 : Int) := by omega
          have l116 : (d16 : Int) < (i : Int) := by omega
          obtain ⟨d7, h7⟩ : ∃ d, d = i - 7 := ⟨_, rfl⟩
          have w107 : IntKind.i64.wrap ((i : Int) - 7) = (d7 : Int) := by rw [show (i : Int) - 7 = ((i - 7 : Nat) : Int) by omega, ← h7]; exact i64n _ (by omega)
          obtain ⟨p7, hp7⟩ : ∃ p, p = l.getD d7 0 := ⟨_, rfl⟩
          have n107 : (0 : Int) ≤ (d7 : Int) := by omega
          have l107 : (d7 : Int) < (i : Int) := by omega
          have w4 : IntKind.i64.wrap ((i : Int) + 1) = ((i + 1 : Nat) : Int) := i64n (i + 1) (by omega)
          have n4 : (0 : Int) ≤ (i : Int) := by omega
          have l4 : (i : Int) < 64 := by omega
          have x3 : ∀ x : UInt32, iu x / (8 : Int) = iu (x >>> 3) := fun x => iu_shr x 3 (by decide)
          have x10 : ∀ x : UInt32, iu x / (1024 : Int) = iu (x >>> 10) := fun x => iu_shr x 10 (by decide)
          have kadd := iu_add
          have kxor := iu_xor
          have HQ := Lib.hid (show Sh.nextW l = Sh.mixW p16 p7 p15 p2 by unfold Sh.nextW; rw [hll, ← h15, ← h2, ← h16, ← h7, hp15, hp2, hp16, hp7])
          have HL := Lib.hid (show l = Sh.grow k (Sh.big b 16) ∧ l.length = i from ⟨hl, hll⟩)
          have HGl := Lib.hid (show g < wr.heap.size from ((World.ownsRow.lt HO.out) g rfl).2)
          obtain ⟨g', c', W', hap, hO', hB', _, hk'⟩ := app_u (V := (wr.alloc (.cells #[.int .u32 (iu (Sh.mixW p16 p7 p15 p2))] 40)).drew) (Sh.mixW p16 p7 p15 p2) HW.out HO.out (by omega) rfl rfl rfl rfl
          have hk' := hk' g rfl
          rw [hll] at hap hO'
          have HD := Lib.hid (show ∀ W : World, (∀ j, j < i → W.cell? ⟨g, j, none⟩ = some (.int .u32 (iu (l.getD j 0)))) → W.cell? ⟨g, d16, none⟩ = some (.int .u32 (iu p16)) ∧ W.cell? ⟨g, d7, none⟩ = some (.int .u32 (iu p7)) from fun W h => ⟨by rw [hp16]; exact h d16 (by omega), by rw [hp7]; exact h d7 (by omega)⟩)
          have HDd := Lib.hid (show ∀ j, j < i → wr.drew.cell? ⟨g, j, none⟩ = some (.int .u32 (iu (l.getD j 0))) from fun j hj => OwnU.cell HO.out j (by omega))
          have HDa := Lib.hid (show ∀ j, j < i → (wr.alloc (.cells #[.int .u32 (iu (Sh.mixW p16 p7 p15 p2))] 40)).drew.cell? ⟨g, j, none⟩ = some (.int .u32 (iu (l.getD j 0))) from fun j hj => al_cell _ (OwnU.cell HO.out j (by omega)) HGl.out)
          have HDw := Lib.hid (show ∀ j, j < i → W'.cell? ⟨g, j, none⟩ = some (.int .u32 (iu (l.getD j 0))) from fun j hj => hk' j (by omega))
          have hap := Lib.hid hap
          have HO' := Lib.hid hO'
          have HB' := Lib.hid hB'
          have c15 : wr.cell? ⟨g, d15, none⟩ = some (.int .u32 (iu p15)) := by rw [hp15]; exact OwnU.cell HO.out d15 (by omega)
          have c2 : wr.cell? ⟨g, d2, none⟩ = some (.int .u32 (iu p2)) := by rw [hp2]; exact OwnU.cell HO.out d2 (by omega)
          clear h15 h2 h16 h7 hp15 hp2 hp16 hp7 hk hl hll hO' hB' hk'
          go_wp2
          clear c15 c2
          go_region_held3 (fun W => W.cell? ⟨g, d16, none⟩ = some (.int .u32 (iu p16)) ∧ W.cell? ⟨g, d7, none⟩ = some (.int .u32 (iu p7)))
            (first
              | exact HD.out _ HDw.out
              | exact HD.out _ HDd.out
              | exact HD.out _ HDa.out
              | fail)
            (first
              | (go_at_call 35; (with_reducible refine (round7 _ _).mono ?_); rintro e w5 ⟨rfl, rfl⟩)
              | (go_at_call 35; (with_reducible refine (round18 _ _).mono ?_); rintro e w5 ⟨rfl, rfl⟩)
              | (go_at_call 35; (with_reducible refine (round17 _ _).mono ?_); rintro e w5 ⟨rfl, rfl⟩)
              | (go_at_call 35; (with_reducible refine (round19 _ _).mono ?_); rintro e w5 ⟨rfl, rfl⟩)
              | (rw [if_pos (by rfl)]; refine Lib.wp_append_run _ _ _ _ _ rfl _ _ rfl rfl _ _ hap.out ?_)
              | fail)
          all_goals
            go_wp2
            go_roundg (64 - (i + 1))
            case measure => omega
            case rel => exact ⟨i + 1, k + 1, g', c', by omega, rfl, rfl, Lib.hid (by have := HK.out; omega), Lib.hid (by rw [Sh.grow_succ, ← HL.out.1, HQ.out]; exact HO'.out), HB'⟩
        · obtain rfl : i = 64 := by omega
          have e64 : ((64 : Nat) : Int) = 64 := rfl
          obtain rfl : k = 48 := by have := HK.out; omega
          have HS := Lib.hid (show ∀ j, j < 64 → wr.cell? ⟨g, j, none⟩ = some (.int .u32 (iu ((Sh.sched b).getD j 0))) from fun j hj => OwnU.cell HO.out j (by rw [Sh.length_grow, Sh.length_big]; omega))
          have HSl := Lib.hid (show g < wr.heap.size from ((World.ownsRow.lt HO.out) g rfl).2)
          clear HO HK hlt hi
          go_wp2_with (first
            | (go_at_call 36; (refine (table_any _).mono ?_); rintro e w1 ⟨gtb, rfl, hT, hb1⟩; obtain ⟨gl, cl, w2, hap, hO2, hb2, hb3⟩ := app_all (ch := ch) (HW.out.trans (hb1.mono HW.out.size)) (l := Sh.list s) (gh := gh) (fun j hj => ((HW.out.trans (hb1.mono HW.out.size)).cell (p := ⟨gh, j, none⟩) HG.out).trans (HH.out j hj)) (by simp [Sh.list]) (by simp [Sh.list]); have hT := Lib.hid hT; have hb1 := Lib.hid hb1; have hap := Lib.hid hap; have hO2 := Lib.hid hO2; have hb2 := Lib.hid hb2; have hb3 := Lib.hid hb3)
            | (at_builtin; refine Lib.wpList_append_run _ rfl _ _ _ _ rfl _ _ rfl rfl _ _ hap.out ?_))
          have HT := Lib.hid (hT.out.below hb3.out)
          have HTl := Lib.hid (show gtb < w2.heap.size from HT.out.2.1)
          have HS2 := Lib.hid (show g < w2.heap.size ∧ ∀ j, j < 64 → w2.cell? ⟨g, j, none⟩ = some (.int .u32 (iu ((Sh.sched b).getD j 0))) from ⟨Nat.lt_of_lt_of_le HSl.out (Nat.le_trans hb1.out.size hb3.out.size), fun j hj => (((hb1.out.trans (hb3.out.mono hb1.out.size)).cell (p := ⟨g, j, none⟩) HSl.out)).trans (HS.out j hj)⟩)
          have HL := Lib.hid (LU.own hO2.out)
          have HG2 := Lib.hid (show gh < w2.heap.size from Nat.lt_of_lt_of_le HG.out hb2.out.size)
          have HH2 := Lib.hid (show ∀ j, j < 8 → w2.cell? ⟨gh, j, none⟩ = some (.int .u32 (iu ((Sh.list s).getD j 0))) from fun j hj => (hb2.out.cell (p := ⟨gh, j, none⟩) HG.out).trans (HH.out j hj))
          clear HW HH hT hb1 hap hO2 hb3 HS HSl
          go_loopg [11, 12] 64 (fun n v x wr => ∃ (i gr c : Nat) (S : St), i + n = 64 ∧ v = .slice (some ⟨gr, 0, none⟩) 8 c ∧ x = .int .i64 (i : Int) ∧ Hid (S = Sh.rounds (Sh.sched b) i s) ∧ Hid (LU wr w.heap.size gr (Sh.list S)) ∧ Hid (Below w2.heap.size w2 wr))
          case atStart => exact ⟨0, gl, cl, s, rfl, rfl, rfl, Lib.hid rfl, HL, Lib.hid (Below.refl _ _)⟩
          case round =>
            clear HL
            obtain ⟨i, gr, c, ⟨sa, sb, sc, sd, se, sf, sg, sh⟩, hi, rfl, rfl, HR, HL, HW⟩ := hrel
            by_cases hlt : i < 64
            · have n4 : (0 : Int) ≤ (i : Int) := by omega
              have l4 : (i : Int) < 64 := by omega
              have w4 : IntKind.i64.wrap ((i : Int) + 1) = ((i + 1 : Nat) : Int) := i64n (i + 1) (by omega)
              obtain ⟨q1, hq1⟩ : ∃ q, q = Sh.cubes.getD i 0 := ⟨_, rfl⟩
              obtain ⟨q2, hq2⟩ : ∃ q, q = (Sh.sched b).getD i 0 := ⟨_, rfl⟩
              have HQ := Lib.hid (show q1 = Sh.cubes.getD i 0 ∧ q2 = (Sh.sched b).getD i 0 from ⟨hq1, hq2⟩)
              have HD := Lib.hid (show ∀ W : World, W.heap = wr.heap → W.cell? ⟨gr, 1, none⟩ = some (.int .u32 (iu sb)) ∧ W.cell? ⟨gr, 2, none⟩ = some (.int .u32 (iu sc)) ∧ W.cell? ⟨gr, 3, none⟩ = some (.int .u32 (iu sd)) ∧ W.cell? ⟨gr, 5, none⟩ = some (.int .u32 (iu sf)) ∧ W.cell? ⟨gr, 6, none⟩ = some (.int .u32 (iu sg)) ∧ W.cell? ⟨gr, 7, none⟩ = some (.int .u32 (iu sh)) ∧ W.cell? ⟨gtb, i, none⟩ = some (.int .u32 (iu q1)) ∧ W.cell? ⟨g, i, none⟩ = some (.int .u32 (iu q2)) from fun W hW => ⟨heap_cell hW (HL.out.2.2 1 (by simp [Sh.list])).1, heap_cell hW (HL.out.2.2 2 (by simp [Sh.list])).1, heap_cell hW (HL.out.2.2 3 (by simp [Sh.list])).1, heap_cell hW (HL.out.2.2 5 (by simp [Sh.list])).1, heap_cell hW (HL.out.2.2 6 (by simp [Sh.list])).1, heap_cell hW (HL.out.2.2 7 (by simp [Sh.list])).1, heap_cell hW (by rw [hq1]; exact (HW.out.cell (p := ⟨gtb, i, none⟩) HTl.out).trans (HT.out.2.2 i hlt).1), heap_cell hW (by rw [hq2]; exact (HW.out.cell (p := ⟨g, i, none⟩) HS2.out.1).trans (HS2.out.2 i hlt))⟩)
              have c0 : wr.cell? ⟨gr, 0, none⟩ = some (.int .u32 (iu sa)) := (HL.out.2.2 0 (by simp [Sh.list])).1
              have c4 : wr.cell? ⟨gr, 4, none⟩ = some (.int .u32 (iu se)) := (HL.out.2.2 4 (by simp [Sh.list])).1
              clear hq1 hq2
              have kadd := iu_add
              have kand := iu_and
              have kor := iu_or
              have kxor := iu_xor
              have knot : ∀ x : UInt32, bits .xor .u32 IntKind.u32.max (iu x) = iu (~~~ x) := fun x => iu_not x
              go_wp2
              clear c0 c4
              go_region_held3 (fun W => W.cell? ⟨gr, 1, none⟩ = some (.int .u32 (iu sb)) ∧ W.cell? ⟨gr, 2, none⟩ = some (.int .u32 (iu sc)) ∧ W.cell? ⟨gr, 3, none⟩ = some (.int .u32 (iu sd)) ∧ W.cell? ⟨gr, 5, none⟩ = some (.int .u32 (iu sf)) ∧ W.cell? ⟨gr, 6, none⟩ = some (.int .u32 (iu sg)) ∧ W.cell? ⟨gr, 7, none⟩ = some (.int .u32 (iu sh)) ∧ W.cell? ⟨gtb, i, none⟩ = some (.int .u32 (iu q1)) ∧ W.cell? ⟨g, i, none⟩ = some (.int .u32 (iu q2)))
                (first
                  | ((with_reducible refine HD.out _ ?_); rfl)
                  | fail)
                (first
                  | (go_at_call 35; (with_reducible refine (round6 _ _).mono ?_); rintro e w5 ⟨rfl, rfl⟩)
                  | (go_at_call 35; (with_reducible refine (round11 _ _).mono ?_); rintro e w5 ⟨rfl, rfl⟩)
                  | (go_at_call 35; (with_reducible refine (round25 _ _).mono ?_); rintro e w5 ⟨rfl, rfl⟩)
                  | fail)
              go_wp2
              obtain ⟨t, ht⟩ : ∃ t, t = Sh.t1 ⟨sa, sb, sc, sd, se, sf, sg, sh⟩ q1 q2 := ⟨_, rfl⟩
              have HT2 := Lib.hid ht
              have ht2 : (((sh + (Sh.R se 6 ^^^ Sh.R se 11 ^^^ Sh.R se 25)) + ((se &&& sf) ^^^ (~~~ se &&& sg))) + q1) + q2 = t := by rw [ht, xor_ch]; rfl
              rw [ht2]
              clear ht ht2
              go_region_held3 (fun W => W.cell? ⟨gr, 1, none⟩ = some (.int .u32 (iu sb)) ∧ W.cell? ⟨gr, 2, none⟩ = some (.int .u32 (iu sc)) ∧ W.cell? ⟨gr, 3, none⟩ = some (.int .u32 (iu sd)) ∧ W.cell? ⟨gr, 5, none⟩ = some (.int .u32 (iu sf)) ∧ W.cell? ⟨gr, 6, none⟩ = some (.int .u32 (iu sg)) ∧ W.cell? ⟨gr, 7, none⟩ = some (.int .u32 (iu sh)) ∧ W.cell? ⟨gtb, i, none⟩ = some (.int .u32 (iu q1)) ∧ W.cell? ⟨g, i, none⟩ = some (.int .u32 (iu q2)))
                (first
                  | ((with_reducible refine HD.out _ ?_); rfl)
                  | fail)
                (first
                  | (go_at_call 35; (with_reducible refine (round2 _ _).mono ?_); rintro e w5 ⟨rfl, rfl⟩)
                  | (go_at_call 35; (with_reducible refine (round13 _ _).mono ?_); rintro e w5 ⟨rfl, rfl⟩)
                  | (go_at_call 35; (with_reducible refine (round22 _ _).mono ?_); rintro e w5 ⟨rfl, rfl⟩)
                  | fail)
              go_wp2
              obtain ⟨u, hu⟩ : ∃ u, u = Sh.t2 ⟨sa, sb, sc, sd, se, sf, sg, sh⟩ := ⟨_, rfl⟩
              have hu2 : (Sh.R sa 2 ^^^ Sh.R sa 13 ^^^ Sh.R sa 22) + ((sa &&& sb) ||| (sa &&& sc) ||| (sb &&& sc)) = u := by rw [hu]; rfl
              rw [hu2]
              have HQ2 := Lib.hid (show t = Sh.t1 ⟨sa, sb, sc, sd, se, sf, sg, sh⟩ q1 q2 ∧ u = Sh.t2 ⟨sa, sb, sc, sd, se, sf, sg, sh⟩ from ⟨HT2.out, hu⟩)
              clear hu hu2
              have HDA := Lib.hid (show ∀ (V : World) (o : Obj), V.heap = wr.heap → (V.alloc o).cell? ⟨gr, 1, none⟩ = some (.int .u32 (iu sb)) ∧ (V.alloc o).cell? ⟨gr, 2, none⟩ = some (.int .u32 (iu sc)) ∧ (V.alloc o).cell? ⟨gr, 3, none⟩ = some (.int .u32 (iu sd)) ∧ (V.alloc o).cell? ⟨gr, 5, none⟩ = some (.int .u32 (iu sf)) ∧ (V.alloc o).cell? ⟨gr, 6, none⟩ = some (.int .u32 (iu sg)) ∧ (V.alloc o).cell? ⟨gr, 7, none⟩ = some (.int .u32 (iu sh)) ∧ (V.alloc o).cell? ⟨gtb, i, none⟩ = some (.int .u32 (iu q1)) ∧ (V.alloc o).cell? ⟨g, i, none⟩ = some (.int .u32 (iu q2)) from fun V o hV => ⟨al_cell o (HD.out V hV).1 (by rw [hV]; exact HL.out.2.1), al_cell o (HD.out V hV).2.1 (by rw [hV]; exact HL.out.2.1), al_cell o (HD.out V hV).2.2.1 (by rw [hV]; exact HL.out.2.1), al_cell o (HD.out V hV).2.2.2.1 (by rw [hV]; exact HL.out.2.1), al_cell o (HD.out V hV).2.2.2.2.1 (by rw [hV]; exact HL.out.2.1), al_cell o (HD.out V hV).2.2.2.2.2.1 (by rw [hV]; exact HL.out.2.1), al_cell o (HD.out V hV).2.2.2.2.2.2.1 (by rw [hV]; exact Nat.lt_of_lt_of_le HTl.out HW.out.size), al_cell o (HD.out V hV).2.2.2.2.2.2.2 (by rw [hV]; exact Nat.lt_of_lt_of_le HS2.out.1 HW.out.size)⟩)
              have HDB := Lib.hid (show ∀ (o : Obj) (W : World), W.heap = (wr.alloc o).heap → W.cell? ⟨gr, 1, none⟩ = some (.int .u32 (iu sb)) ∧ W.cell? ⟨gr, 2, none⟩ = some (.int .u32 (iu sc)) ∧ W.cell? ⟨gr, 3, none⟩ = some (.int .u32 (iu sd)) ∧ W.cell? ⟨gr, 5, none⟩ = some (.int .u32 (iu sf)) ∧ W.cell? ⟨gr, 6, none⟩ = some (.int .u32 (iu sg)) ∧ W.cell? ⟨gr, 7, none⟩ = some (.int .u32 (iu sh)) ∧ W.cell? ⟨gtb, i, none⟩ = some (.int .u32 (iu q1)) ∧ W.cell? ⟨g, i, none⟩ = some (.int .u32 (iu q2)) from fun o W hW => have h := HDA.out wr o rfl; ⟨heap_cell hW h.1, heap_cell hW h.2.1, heap_cell hW h.2.2.1, heap_cell hW h.2.2.2.1, heap_cell hW h.2.2.2.2.1, heap_cell hW h.2.2.2.2.2.1, heap_cell hW h.2.2.2.2.2.2.1, heap_cell hW h.2.2.2.2.2.2.2⟩)
              go_region_held3 (fun W => W.cell? ⟨gr, 1, none⟩ = some (.int .u32 (iu sb)) ∧ W.cell? ⟨gr, 2, none⟩ = some (.int .u32 (iu sc)) ∧ W.cell? ⟨gr, 3, none⟩ = some (.int .u32 (iu sd)) ∧ W.cell? ⟨gr, 5, none⟩ = some (.int .u32 (iu sf)) ∧ W.cell? ⟨gr, 6, none⟩ = some (.int .u32 (iu sg)) ∧ W.cell? ⟨gr, 7, none⟩ = some (.int .u32 (iu sh)) ∧ W.cell? ⟨gtb, i, none⟩ = some (.int .u32 (iu q1)) ∧ W.cell? ⟨g, i, none⟩ = some (.int .u32 (iu q2)))
                (first
                  | ((with_reducible refine HD.out _ ?_); rfl)
                  | ((with_reducible refine HDA.out _ _ ?_); rfl)
                  | exact HDB.out (.cells #[.int .u32 (iu (t + u)), .int .u32 (iu sa), .int .u32 (iu sb), .int .u32 (iu sc), .int .u32 (iu (sd + t)), .int .u32 (iu se), .int .u32 (iu sf), .int .u32 (iu sg)] 40) _ rfl
                  | fail)
                (fail)
              go_wp2
              go_roundg (64 - (i + 1))
              case measure => omega
              case rel =>
                refine ⟨i + 1, _, _, Sh.step ⟨sa, sb, sc, sd, se, sf, sg, sh⟩ q1 q2, by omega, rfl, rfl, Lib.hid ?_, Lib.hid ?_, Lib.hid ?_⟩
                · rw [Sh.rounds, ← HR.out, ← HQ.out.1, ← HQ.out.2]
                · obtain ⟨rfl, rfl⟩ := HQ2.out
                  exact LU.row (show Row _ wr.heap.size 40 ((Sh.list (Sh.step ⟨sa, sb, sc, sd, se, sf, sg, sh⟩ q1 q2)).map uv) from Row.new wr 40 ((Sh.list (Sh.step ⟨sa, sb, sc, sd, se, sf, sg, sh⟩ q1 q2)).map uv)) (Nat.le_trans hb2.out.size HW.out.size)
                · exact (HW.out.alloc HW.out.size _).drew.drew.drew
            · obtain rfl : i = 64 := by omega
              have e64 : ((64 : Nat) : Int) = 64 := rfl
              have HHh := Lib.hid (show ∀ j, j < 8 → wr.cell? ⟨gh, j, none⟩ = some (.int .u32 (iu ((Sh.list s).getD j 0))) from fun j hj => (HW.out.cell (p := ⟨gh, j, none⟩) HG2.out).trans (HH2.out j hj))
              have HGh := Lib.hid (show gh < wr.heap.size from Nat.lt_of_lt_of_le HG2.out HW.out.size)
              have HWw := Lib.hid (show Below w.heap.size w wr from hb2.out.trans (HW.out.mono hb2.out.size))
              have HCO := Lib.hid (show Sh.comp s b = Sh.addS s ⟨sa, sb, sc, sd, se, sf, sg, sh⟩ by rw [HR.out]; rfl)
              clear hlt hi HW HR HT HTl HS2 HG2 HH2
              go_wp2
              clear e64
              have kadd := iu_add
              go_loopg [17] 8 (fun n x wr => ∃ (i : Nat), i + n = 8 ∧ x = .int .i64 (i : Int) ∧ Hid (LU wr w.heap.size gr (addK (Sh.list s) (Sh.list ⟨sa, sb, sc, sd, se, sf, sg, sh⟩) i)) ∧ Hid (Below w.heap.size w wr) ∧ Hid (∀ j, j < 8 → wr.cell? ⟨gh, j, none⟩ = some (.int .u32 (iu ((Sh.list s).getD j 0)))))
              case atStart => exact ⟨0, rfl, rfl, HL, HWw, HHh⟩
              case round =>
                clear HL HWw HHh HGh
                obtain ⟨i, hi, rfl, HL, HWw, HHh⟩ := hrel
                by_cases hlt : i < 8
                · have n4 : (0 : Int) ≤ (i : Int) := by omega
                  have l4 : (i : Int) < 8 := by omega
                  have w4 : IntKind.i64.wrap ((i : Int) + 1) = ((i + 1 : Nat) : Int) := i64n (i + 1) (by omega)
                  obtain ⟨x, hx⟩ : ∃ x, x = (addK (Sh.list s) (Sh.list ⟨sa, sb, sc, sd, se, sf, sg, sh⟩) i).getD i 0 := ⟨_, rfl⟩
                  obtain ⟨y, hy⟩ : ∃ y, y = (Sh.list s).getD i 0 := ⟨_, rfl⟩
                  have hlen : i < (addK (Sh.list s) (Sh.list ⟨sa, sb, sc, sd, se, sf, sg, sh⟩) i).length := by rw [length_addK]; exact hlt
                  have cx : wr.cell? ⟨gr, i, none⟩ = some (.int .u32 (iu x)) := by rw [hx]; exact (HL.out.2.2 i hlen).1
                  have fr : wr.frozen? ⟨gr, i, none⟩ = false := (HL.out.2.2 i hlen).2
                  have cy : wr.cell? ⟨gh, i, none⟩ = some (.int .u32 (iu y)) := by rw [hy]; exact HHh.out i hlt
                  have HX := Lib.hid (show x = (addK (Sh.list s) (Sh.list ⟨sa, sb, sc, sd, se, sf, sg, sh⟩) i).getD i 0 ∧ y = (Sh.list s).getD i 0 ∧ i < (addK (Sh.list s) (Sh.list ⟨sa, sb, sc, sd, se, sf, sg, sh⟩) i).length from ⟨hx, hy, hlen⟩)
                  clear hx hy hlen
                  go_wp2
                  go_region
                  all_goals
                    go_wp2
                    go_roundg (8 - (i + 1))
                    case measure => omega
                    case rel =>
                      have hne : gh ≠ gr := by have := HG.out; have := HL.out.1; omega
                      refine ⟨i + 1, by omega, rfl, Lib.hid ?_, Lib.hid ?_, Lib.hid ?_⟩
                      · rw [addK, ← HX.out.1, ← HX.out.2.1]
                        exact LU.set HL.out i (x + y) HX.out.2.2
                      · exact (HWw.out.setCell (p := ⟨gr, i, none⟩) HL.out.1 _).drew
                      · intro j hj
                        exact (World.cell?_of_block (Below.heap_setCell _ ⟨gr, i, none⟩ _ gh hne)).trans (HHh.out j hj)
                · obtain rfl : i = 8 := by omega
                  have e8 : ((8 : Nat) : Int) = 8 := rfl
                  go_wp2
                  go_ret
                  refine ⟨gr, _, rfl, ?_, HWw.out⟩
                  rw [HCO.out, ← addK_8]
                  exact HL.out
end Go.Proofs.YtjlmhpokamdkhaaDoor
