/- The law package's copy of a row of fractions, and whether it is left. -/
import Derived.Test.YtbndmpdaloadjaaGreatGNtA
import Derived.Deep.QuietTactic
set_option linter.unusedSimpArgs false
set_option linter.unusedVariables false
set_option maxHeartbeats 8000000
namespace Go.Proofs.YtbndmpdaloadjaaGreat
open Go Go.Proofs Go.RowKit Go.Shelf Nu
set_option linter.unusedVariables false
set_option linter.unusedSimpArgs false
set_option maxRecDepth 100000

attribute [local go_sem] Oper.semAt_some

theorem map_take_snoc {qs : List Qr} {ys : List Zr} {k : Nat} {z : Zr} {q : Qr} (h : ys.map (·.1) = qs.take k) (hq : qs[k]? = some q) (hz : z.1 = q) : (ys ++ [z]).map (·.1) = qs.take (k + 1) := by
 rw [List.map_append, h, List.take_add_one, hq]; simp [hz]
theorem lens_of {ys : List Zr} {qs : List Qr} {k : Nat} (h : ys.map (·.1) = qs.take k) (hk : k ≤ qs.length) : ys.length = k := by
 have := congrArg List.length h
 rw [List.length_map, List.length_take] at this
 omega
theorem VF.slice {W : World} {B n : Nat} {v : Value} {zs : List Zr} (h : VF W B v zs) (hn : zs.length = n + 1) : ∃ g c, v = .slice (some ⟨g, 0, none⟩) (n + 1) c ∧ n + 1 ≤ c ∧ (n : Int) ≤ (c : Int) := by
 rcases h.1.1.2 with ⟨_, h0⟩ | ⟨g, cap, cur, rfl, hb, hg, hc, _⟩
 · omega
 · exact ⟨g, cap, by rw [hn], by omega, by omega⟩

theorem twinR_any {w : World} {v : Value} {qs : List Qr} (h : VReads w v qs) (hl : qs.length ≤ 65536) (hb : ∀ q ∈ qs, q.2.1.length ≤ 100000 ∧ q.2.2.length ≤ 100000) :
    Calls Tryz.prog 15 #[v] w fun e w' => ∃ g c, e = .returned (.slice (some ⟨g, 0, none⟩) qs.length c) ∧ TwR w' w.heap.size g c qs ∧ Below w.heap.size w w' := by
  obtain ⟨i0, hi, hz0, hz1, hz2⟩ := info_parts info_rat
  obtain ⟨a, cap, rfl⟩ := h.form
  obtain ⟨hn', hcap, bb, off, ha, hc⟩ := h.addr
  obtain ⟨n, hn⟩ : ∃ n, n = qs.length := ⟨_, rfl⟩
  obtain ⟨N, hN⟩ : ∃ N, N = n + 1 := ⟨_, rfl⟩
  have w1 : IntKind.i64.wrap ((n : Int) + 1) = (N : Int) := by rw [hN]; exact IntWalk.i64_in _ (by omega)
  rw [← hn]
  rw [← hn] at ha
  have HN := Lib.hid (show n = qs.length ∧ N = n + 1 ∧ n ≤ 65536 from ⟨hn, hN, by omega⟩)
  have HC := Lib.hid hc
  have HA := Lib.hid ha
  have HS := Lib.hid hb
  have hn1 : n ≤ 65536 := by omega
  have hN1 : N ≤ 65537 := by omega
  clear h hn hN hn' hcap ha hc hb hl
  go_enter Tryz.func15, Tryz.ntmps15
  go_wp2_with ((at_make; go_loud (refine wpList_make_rat hi hz0 hz1 hz2 _ rfl _ _ rfl w.heap.size .i64 .i64 N rfl rfl (by omega) (by simp) ?_); intro w1 hV1 hgrow1))
  have HB1 := Lib.hid (show Below w.heap.size w w1 from (Below.refl _ _).grown hgrow1 (Nat.le_refl _) (fun _ e => by cases e))
  have HV1 := Lib.hid hV1
  clear hV1 hgrow1
  have k0 : ((0 : Nat) : Int) = 0 := rfl
  go_loopg [3, 4] n (fun g t x wr => ∃ (k : Nat) (ys : List Zr) (av : Option Addr) (cv : Nat), k + g = n ∧ t = .slice av k cv ∧ x = .int .i64 (k : Int) ∧ Hid (ys.map (·.1) = qs.take k) ∧ Hid (VF wr w.heap.size (.slice av k cv) ys) ∧ Hid (∀ z ∈ ys, ZTw wr w.heap.size z) ∧ Hid (Below w.heap.size w wr))
  case atStart => exact ⟨0, [], _, _, by omega, rfl, rfl, Lib.hid rfl, HV1, Lib.hid (fun z hz => by cases hz), HB1⟩
  case round =>
    clear HV1 HB1 k0
    obtain ⟨k, ys, av, cv, hk, rfl, rfl, HM, HV, HZ, HB⟩ := hrel
    have HY := Lib.hid (lens_of HM.out (by have := HN.out; omega))
    have hwb : w.heap.size ≤ wr.heap.size := HB.out.size
    by_cases hlt : k < n
    · have n0 : (0 : Int) ≤ (k : Int) := by omega
      have l0 : (k : Int) < (n : Int) := by omega
      have w0 : IntKind.i64.wrap ((k : Int) + 1) = ((k + 1 : Nat) : Int) := IntWalk.i64_in _ (by omega)
      obtain ⟨rfl, hbl⟩ := HA.out (by omega)
      obtain ⟨q, hq⟩ : ∃ q, qs[k]? = some q := ⟨_, List.getElem?_eq_getElem (by have := HN.out; omega)⟩
      have hqat := (HC.out k q hq).below hbl HB.out
      have hsz := HS.out q (List.mem_of_getElem? hq)
      have HQ := Lib.hid hq
      obtain ⟨s, l1, d1⟩ := q
      obtain ⟨p, c, p', c', h0, h1, h2, g1, g2⟩ := hqat
      dsimp only at h0 h1 h2 g1 g2 hsz
      have kc := Lib.hid (fun (W : World) (r : Below wr.heap.size wr W) => rtwin_own (n := s) hsz.1 hsz.2 (g1.below r) (g2.below r))
      clear g1 g2 hq hsz HC HA HS
      go_wp2_with fail
      refine (kc.out _ (Below.refl _ _)).mono ?_
      rintro e w2 ⟨a3, c3, o3, r3, rfl, t1, t2, rb, -⟩
      have HB2 := Lib.hid (then_below HB.out rb)
      have HV2 := Lib.hid (HV.out.below rb)
      have HZ2 := Lib.hid (show (∀ z ∈ ys, ZTw w2 w.heap.size z) ∧ ZTw w2 w.heap.size ((s, l1, d1), (some ⟨a3, 0, none⟩, c3), (some ⟨o3, 0, none⟩, r3)) from ⟨fun z hz => (HZ.out z hz).below rb, _, _, _, _, rfl, rfl, t1.mono hwb, t2.mono hwb⟩)
      clear rb kc h0 h1 h2 HB HV HZ t1 t2
      have hs2 : w.heap.size ≤ w2.heap.size := HB2.out.size
      go_wp2_with ((at_builtin; go_loud (refine wpList_append_rat hi hz0 hz1 hz2 w2 rfl _ _ rfl w.heap.size (.slice av k cv) ys ((s, l1, d1), (some ⟨a3, 0, none⟩, c3), (some ⟨o3, 0, none⟩, r3)) rfl rfl HV2.out HZ2.out.2.zin hs2 (by have := HY.out; omega) ?_); intro v' w3 hV3 hgrow; have hof : Off 32 w2 w3 := (Off.alloc w2 _).trans (Off.of_grown (World.ownsRow.alloc HV2.out.1.1 _) hgrow); have hap := rat_append HV2.out hs2 hgrow; obtain ⟨av', cv', ev'⟩ := hV3.form; rw [List.length_append, List.length_singleton, HY.out] at ev'; subst ev'; have HV3 := Lib.hid hV3; have HZ3 := Lib.hid (show ∀ z ∈ ys ++ [((s, l1, d1), (some ⟨a3, 0, none⟩, c3), (some ⟨o3, 0, none⟩, r3))], ZTw w3 w.heap.size z from fun z hz => by (rcases List.mem_append.1 hz with hz | hz; exact (HZ2.out.1 z hz).off hof (by decide); obtain rfl := List.mem_singleton.1 hz; exact HZ2.out.2.off hof (by decide))); have HB3 := Lib.hid (HB2.out.trans hap.2.1); clear hV3 hap hgrow hof HV2 HB2 HZ2))
      go_roundg (n - (k + 1))
      case measure => omega
      case rel => exact ⟨k + 1, ys ++ [((s, l1, d1), (some ⟨a3, 0, none⟩, c3), (some ⟨o3, 0, none⟩, r3))], av', cv', by omega, by first | rfl | simp, by first | rfl | simp, Lib.hid (map_take_snoc HM.out HQ.out rfl), HV3, HZ3, HB3⟩
    · obtain rfl : k = n := by omega
      have l0 : ¬ (k : Int) < (k : Int) := by omega
      have n0 : (0 : Int) ≤ (k : Int) := by omega
      clear HC HA HS
      have hM : ys.map (·.1) = qs := by rw [HM.out]; exact List.take_of_length_le (by have := HN.out; omega)
      have HM2 := Lib.hid hM
      clear hM
      have lb : Below wr.heap.size wr (wr.alloc (.cells #[.int .u32 77] 66)) := (Below.refl _ _).alloc (Nat.le_refl _) _
      have HV2 := Lib.hid (HV.out.below lb)
      have HF := Lib.hid (fresh_lit wr 77)
      have hs2 : w.heap.size ≤ (wr.alloc (.cells #[.int .u32 77] 66)).heap.size := Nat.le_trans hwb lb.size
      have HZ2 := Lib.hid (fun z hz => (HZ.out z hz).below lb)
      have HB2 := Lib.hid (then_below HB.out lb)
      clear HV HZ HB lb
      go_wp2_with ((at_builtin; go_loud (refine wpList_append_rat hi hz0 hz1 hz2 (wr.alloc (.cells #[.int .u32 77] 66)) rfl _ _ rfl w.heap.size (.slice av k cv) ys (zmark (some ⟨wr.heap.size, 0, none⟩, 1)) rfl (by simp only [World.size_alloc]; rfl) HV2.out ⟨Reads.nil _, HF.out.reads⟩ hs2 (by have := HY.out; omega) ?_); intro v' w3 hV3 hgrow; obtain ⟨g3, c3, rfl, hc3, hc4⟩ := hV3.slice (n := k) (by rw [List.length_append, HY.out]; rfl); have HV3 := Lib.hid hV3; have HG := Lib.hid hgrow; clear hV3 hgrow))
      go_ret
      have hof : Off 32 (wr.alloc (.cells #[.int .u32 77] 66)) w3 := (Off.alloc _ _).trans (Off.of_grown (World.ownsRow.alloc HV2.out.1.1 _) HG.out)
      have hap := rat_append HV2.out hs2 HG.out
      refine ⟨g3, c3, rfl, ⟨ys, (some ⟨wr.heap.size, 0, none⟩, 1), HM2.out, ?_, fun z hz => (HZ2.out z hz).off hof (by decide), own_off (HF.out.mono hwb) hof (by decide)⟩, HB2.out.trans hap.2.1⟩
      rw [← HN.out.1]
      have e := HV3.out.1.1
      rw [List.length_append, HY.out] at e
      exact e
end Go.Proofs.YtbndmpdaloadjaaGreat
