/- The law package's copies of grids and of truths, and whether they are left. -/
import Derived.Test.YtbndmpdaloadjaaGreatGNtN
import Derived.Laws.AppendOwn
import Derived.Laws.MakeOwn
import Derived.OwnWalk
set_option linter.unusedSimpArgs false
set_option linter.unusedVariables false
set_option maxHeartbeats 8000000
namespace Go.Proofs.YtbndmpdaloadjaaGreat
open Go Go.Proofs Go.RowKit Go.Shelf Nu
set_option linter.unusedVariables false
set_option linter.unusedSimpArgs false
set_option maxRecDepth 100000

attribute [local go_sem] Oper.semAt_some

abbrev Gy : Type := List Qr × Nat × Nat
def gcell (y : Gy) : Value := .slice (some ⟨y.2.1, 0, none⟩) y.1.length y.2.2
/-- a copy of a grid: rows, each copied -/
def TwG (W : World) (B : Nat) (v : Value) (rows : List (List Qr)) : Prop := ∃ gs : List Gy, gs.map (·.1) = rows ∧ W.ownsRow B 23 1 v gs.length (gs.map gcell) ∧ ∀ y ∈ gs, TwR W B y.2.1 y.2.2 y.1
/-- a copy of truths, with a mark behind -/
def TwO (W : World) (B g c : Nat) (l : List Bool) : Prop := W.ownsRow B 4 1 (.slice (some ⟨g, 0, none⟩) (l.length + 1) c) (l.length + 1) ((l ++ [true]).map Value.bool)
theorem info_ratL : (Tryz.prog.info? 23).map (fun i => (i.zero, i.size, i.bytes)) = some (some (.slice none 0 0), 1, 24) := by kernel_rfl
theorem info_bool : (Tryz.prog.info? 4).map (fun i => (i.zero, i.size, i.bytes)) = some (some (.bool false), 1, 1) := by kernel_rfl
section
variable {W W' : World} {B : Nat} {v : Value} {rows : List (List Qr)}
theorem TwG.off {t : TypeId} (h : TwG W B v rows) (ho : Off t W W') (ht : 66 ≠ t ∧ 32 ≠ t ∧ 23 ≠ t) : TwG W' B v rows := by
 obtain ⟨gs, h1, h2, h3⟩ := h
 exact ⟨gs, h1, own_off h2 ho ht.2.2, fun y hy => (h3 y hy).off ho ⟨ht.1, ht.2.1⟩⟩
theorem TwG.below (h : TwG W B v rows) (hb : Below W.heap.size W W') : TwG W' B v rows := by
 obtain ⟨gs, h1, h2, h3⟩ := h
 exact ⟨gs, h1, own_below h2 hb, fun y hy => (h3 y hy).below hb⟩
theorem TwG.mono {B' : Nat} (h : TwG W B v rows) (hb : B' ≤ B) : TwG W B' v rows := by
 obtain ⟨gs, h1, h2, h3⟩ := h
 exact ⟨gs, h1, own_le h2 hb, fun y hy => (h3 y hy).mono hb⟩
theorem TwG.addr (h : TwG W B v rows) : ∃ a c, v = .slice a rows.length c ∧ rows.length ≤ c ∧ (0 < rows.length → ∃ g, a = some ⟨g, 0, none⟩ ∧ g < W.heap.size ∧ ∀ j qs, rows[j]? = some qs → ∃ g1 c1, W.cell? ⟨g, j, none⟩ = some (.slice (some ⟨g1, 0, none⟩) qs.length c1) ∧ TwR W B g1 c1 qs) := by
  obtain ⟨gs, rfl, h2, h3⟩ := h
  have hl : (gs.map (·.1)).length = gs.length := by simp
  rw [hl]
  rcases h2.2 with ⟨rfl, h0⟩ | ⟨g, cap, cur, rfl, hB, hg, hn, _⟩
  · exact ⟨none, 0, by rw [h0], by omega, fun h => by omega⟩
  · refine ⟨_, cap, rfl, hn, fun _ => ⟨g, rfl, (Array.getElem?_eq_some_iff.1 hg).1, fun j qs hq => ?_⟩⟩
    obtain ⟨y, hy, e⟩ : ∃ y, gs[j]? = some y ∧ y.1 = qs := by simpa [List.getElem?_map] using hq
    have hj := (List.getElem?_eq_some_iff.1 hy).1
    refine ⟨y.2.1, y.2.2, ?_, e ▸ h3 y (List.mem_of_getElem? hy)⟩
    rw [World.ownsRow.cellAt h2 j (by omega), List.getElem?_map, hy, ← e]
    rfl
theorem TwG.reads (h : TwG W B v rows) : GridR W v rows := by
 obtain ⟨a, c, e, hc, h⟩ := h.addr
 refine ⟨a, c, e, hc, fun h0 => ?_⟩
 obtain ⟨g, e1, hg, hj⟩ := h h0
 refine ⟨g, 0, e1, hg, fun j qs hq => ?_⟩
 obtain ⟨g1, c1, hc1, ht⟩ := hj j qs hq
 exact ⟨_, by rw [Nat.zero_add, Nat.mul_one]; exact hc1, ht.vreads⟩
end
section
variable {W W' : World} {B g c : Nat} {l : List Bool}
theorem TwO.off {t : TypeId} (h : TwO W B g c l) (ho : Off t W W') (ht : 4 ≠ t) : TwO W' B g c l := own_off h ho ht
theorem TwO.below (h : TwO W B g c l) (hb : Below W.heap.size W W') : TwO W' B g c l := own_below h hb
theorem TwO.mono {B' : Nat} (h : TwO W B g c l) (hb : B' ≤ B) : TwO W B' g c l := own_le h hb
theorem TwO.cap (h : TwO W B g c l) : l.length + 1 ≤ c ∧ B ≤ g ∧ g < W.heap.size := by
 rcases h.2 with ⟨e, _⟩ | ⟨g', cap, cur, e, hB, hg, hn, _⟩
 · cases e
 · cases e
   exact ⟨hn, hB, (Array.getElem?_eq_some_iff.1 hg).1⟩
theorem TwO.at (h : TwO W B g c l) {j : Nat} {x : Bool} (hx : (l ++ [true])[j]? = some x) : W.cell? ⟨g, j, none⟩ = some (.bool x) := by
 have hj := (List.getElem?_eq_some_iff.1 hx).1
 rw [List.length_append] at hj
 rw [World.ownsRow.cellAt h j (by simpa using hj), List.getElem?_map, hx]
 rfl
theorem TwO.reads (h : TwO W B g c l) : BoolsR W (.slice (some ⟨g, 0, none⟩) l.length c) l := by
 have hc := h.cap
 refine ⟨_, c, rfl, by omega, fun _ => ⟨g, 0, rfl, hc.2.2, fun j x hx => ?_⟩⟩
 show W.cell? _ = _
 rw [Nat.zero_add, Nat.mul_one]
 exact h.at (by rw [List.getElem?_append_left (List.getElem?_eq_some_iff.1 hx).1]; exact hx)
end
theorem own_slice {W : World} {B t k n m : Nat} {v : Value} {xs : List Value} (h : W.ownsRow B t k v m xs) (hn : m = n + 1) : ∃ g c, v = .slice (some ⟨g, 0, none⟩) (n + 1) c ∧ n + 1 ≤ c ∧ (n : Int) ≤ (c : Int) := by
 subst hn
 rcases h.2 with ⟨_, h0⟩ | ⟨g, cap, cur, rfl, hb, hg, hc, _⟩
 · omega
 · exact ⟨g, cap, rfl, by omega, by omega⟩
theorem gtake_snoc {rows : List (List Qr)} {gs : List Gy} {k : Nat} {y : Gy} (h : gs.map (·.1) = rows.take k) (hq : rows[k]? = some y.1) : (gs ++ [y]).map (·.1) = rows.take (k + 1) := by
 rw [List.map_append, h, List.take_add_one, hq]; simp
theorem glens_of {rows : List (List Qr)} {gs : List Gy} {k : Nat} (h : gs.map (·.1) = rows.take k) (hk : k ≤ rows.length) : gs.length = k := by
 have := congrArg List.length h
 rw [List.length_map, List.length_take] at this
 omega
/-- each fraction's parts may be copied -/
def Mod (rows : List (List Qr)) : Prop := ∀ qs ∈ rows, qs.length ≤ 65536 ∧ ∀ q ∈ qs, q.2.1.length ≤ 100000 ∧ q.2.2.length ≤ 100000

theorem twinG_any {w : World} {v : Value} {rows : List (List Qr)} (h : GridR w v rows) (hl : rows.length ≤ 1000) (hb : Mod rows) :
    Calls Tryz.prog 38 #[v] w fun e w' => ∃ t, e = .returned t ∧ TwG w' w.heap.size t rows ∧ Below w.heap.size w w' := by
  obtain ⟨i0, hi, hz0, hz1, hz2⟩ := info_parts info_ratL
  obtain ⟨a, cap, rfl, hcap⟩ := h.form
  obtain ⟨-, -, hA⟩ := h.addr
  obtain ⟨n, hn⟩ : ∃ n, n = rows.length := ⟨_, rfl⟩
  rw [← hn]
  rw [← hn] at hA
  have HN := Lib.hid (show n = rows.length ∧ n ≤ 1000 from ⟨hn, by omega⟩)
  have HA := Lib.hid hA
  have HS := Lib.hid hb
  have HI := Lib.hid hi
  have HZ := Lib.hid hz0
  have HZ1 := Lib.hid hz1
  have HZ2 := Lib.hid hz2
  have hn1 : n ≤ 1000 := by omega
  clear h hn hA hcap hb hl hi hz0 hz1 hz2
  have k0 : ((0 : Nat) : Int) = 0 := rfl
  go_enter Tryz.func38, Tryz.ntmps38
  go_wp2
  go_loopg [3, 4] n (fun g t x wr => ∃ (k : Nat) (gs : List Gy) (av : Option Addr) (cv : Nat), k + g = n ∧ t = .slice av k cv ∧ x = .int .i64 (k : Int) ∧ Hid (gs.map (·.1) = rows.take k) ∧ Hid (wr.ownsRow w.heap.size 23 1 (.slice av k cv) k (gs.map gcell)) ∧ Hid (∀ y ∈ gs, TwR wr w.heap.size y.2.1 y.2.2 y.1) ∧ Hid (Below w.heap.size w wr))
  case atStart => exact ⟨0, [], none, 0, by omega, rfl, rfl, Lib.hid rfl, Lib.hid (World.ownsRow_nil w _ _ 1), Lib.hid (fun y hy => by cases hy), Lib.hid (Below.refl _ _)⟩
  case round =>
    clear k0
    obtain ⟨k, gs, av, cv, hk, rfl, rfl, HM, HV, HZZ, HB⟩ := hrel
    have HY := Lib.hid (glens_of HM.out (by have := HN.out; omega))
    have hwb : w.heap.size ≤ wr.heap.size := HB.out.size
    by_cases hlt : k < n
    · have n0 : (0 : Int) ≤ (k : Int) := by omega
      have l0 : (k : Int) < (n : Int) := by omega
      have w0 : IntKind.i64.wrap ((k : Int) + 1) = ((k + 1 : Nat) : Int) := IntWalk.i64_in _ (by omega)
      obtain ⟨bb, off, rfl, hbl, hc⟩ := HA.out (by omega)
      obtain ⟨qs, hq⟩ : ∃ qs, rows[k]? = some qs := ⟨_, List.getElem?_eq_getElem (by have := HN.out; omega)⟩
      obtain ⟨u, hu, hv⟩ := hc k qs hq
      have hu2 := (HB.out.cell (p := ⟨bb, off + k * 1, none⟩) hbl).trans hu
      rw [Nat.mul_one] at hu2
      have hv2 := hv.below HB.out
      have hsz := HS.out qs (List.mem_of_getElem? hq)
      obtain ⟨a2, c2, rfl⟩ := hv.form
      have kc := Lib.hid (twinR_any hv2 hsz.1 hsz.2)
      have HQ := Lib.hid hq
      obtain ⟨m, hm⟩ : ∃ m, m = qs.length := ⟨_, rfl⟩
      rw [← hm] at hu2 kc
      have HMM := Lib.hid hm
      obtain ⟨xs, hxs⟩ : ∃ xs, xs = gs.map gcell := ⟨_, rfl⟩
      have HXS := Lib.hid hxs
      rw [← hxs] at HV
      clear hu hv hv2 hsz hq hc HA HS hm hxs
      go_wp2_with fail
      refine kc.out.mono ?_
      rintro e w2 ⟨g3, c3, rfl, t1, rb⟩
      have HB2 := Lib.hid (then_below HB.out rb)
      have HV2 := Lib.hid (own_below HV.out rb)
      have HZ2' := Lib.hid (show (∀ y ∈ gs, TwR w2 w.heap.size y.2.1 y.2.2 y.1) ∧ TwR w2 w.heap.size g3 c3 qs from ⟨fun z hz => (HZZ.out z hz).below rb, t1.mono hwb⟩)
      clear rb kc hu2 HB HV HZZ t1
      have hs2 : w.heap.size ≤ w2.heap.size := HB2.out.size
      go_wp2_with (at_builtin; go_loud (refine wpList_append_own _ rfl _ _ 39 rfl w.heap.size 23 i0 (.slice none 0 0) 1 24 Tryz.underlying39 HI.out HZ.out HZ1.out HZ2.out rfl (by decide) _ k xs rfl (World.ownsRow.alloc HV2.out _) ⟨w2.heap.size, 0, none⟩ 1 1 [.slice (some ⟨g3, 0, none⟩) m c3] rfl rfl (one_new _ _ _ _ (by simp)) (by simp [Value.oneCell']) (small_max (by omega)) (by omega) (by simp; omega) ?_); intro v' w6 hown6 hg6 hnn; clear hnn; obtain ⟨g6, c6, rfl, hk6, hk7⟩ := own_slice hown6 rfl; have hof : Off 23 w2 w6 := (Off.alloc w2 _).trans (Off.of_grown (World.ownsRow.alloc HV2.out _) hg6); have HV3 := Lib.hid hown6; have HB3 := Lib.hid ((HB2.out.alloc hs2 _).grown hg6 (Nat.le_trans hs2 (by simp)) (fun g e => (World.ownsRow.lt HV2.out g e).1)); have HZ3 := Lib.hid (show ∀ y ∈ gs ++ [(qs, g3, c3)], TwR w6 w.heap.size y.2.1 y.2.2 y.1 from fun z hz => by (rcases List.mem_append.1 hz with hz | hz; exact (HZ2'.out.1 z hz).off hof (by decide); obtain rfl := List.mem_singleton.1 hz; exact HZ2'.out.2.off hof (by decide))); clear hown6 hg6 hof)
      go_roundg (n - (k + 1))
      case measure => omega
      case rel => exact ⟨k + 1, gs ++ [(qs, g3, c3)], some ⟨g6, 0, none⟩, c6, by omega, by first | rfl | simp, by first | rfl | simp, Lib.hid (gtake_snoc HM.out HQ.out), Lib.hid (by rw [List.map_append, ← HXS.out]; have e := HV3.out; rw [HMM.out] at e; exact e), HZ3, HB3⟩
    · obtain rfl : k = n := by omega
      have l0 : ¬ (k : Int) < (k : Int) := by omega
      clear HA HS
      have hM : gs.map (·.1) = rows := by rw [HM.out]; exact List.take_of_length_le (by have := HN.out; omega)
      have HM2 := Lib.hid hM
      clear hM
      go_wp2
      go_ret
      exact ⟨_, rfl, ⟨gs, HM2.out, by rw [HY.out]; exact HV.out, HZZ.out⟩, HB.out⟩

theorem twinO_any {w : World} {v : Value} {l : List Bool} (h : BoolsR w v l) (hl : l.length ≤ 65536) :
  Calls Tryz.prog 39 #[v] w fun e w' => ∃ g c, e = .returned (.slice (some ⟨g, 0, none⟩) l.length c) ∧ TwO w' w.heap.size g c l ∧ Below w.heap.size w w' := by
 obtain ⟨i0, hi, hz0, hz1, hz2⟩ := info_parts info_bool
 obtain ⟨a, cap, rfl, hcap⟩ := h.form
 obtain ⟨-, -, hA⟩ := h.addr
 obtain ⟨n, hn⟩ : ∃ n, n = l.length := ⟨_, rfl⟩
 obtain ⟨N, hN⟩ : ∃ N, N = n + 1 := ⟨_, rfl⟩
 have w1 : IntKind.i64.wrap ((n : Int) + 1) = (N : Int) := by rw [hN]; exact IntWalk.i64_in _ (by omega)
 rw [← hn]
 rw [← hn] at hA
 have HN := Lib.hid (show n = l.length ∧ N = n + 1 ∧ n ≤ 65536 from ⟨hn, hN, by omega⟩)
 have HA := Lib.hid hA
 have HI := Lib.hid hi
 have HZ := Lib.hid hz0
 have HZ1 := Lib.hid hz1
 have HZ2 := Lib.hid hz2
 have hn1 : n ≤ 65536 := by omega
 have hN1 : N ≤ 65537 := by omega
 clear h hn hN hA hcap hl hi hz0 hz1 hz2
 go_enter Tryz.func39, Tryz.ntmps39
 go_wp2_with (at_make; go_loud (refine wpList_make_own _ rfl _ _ 40 rfl w.heap.size 4 i0 (.bool false) 1 Tryz.underlying40 HI.out HZ.out HZ1.out .i64 .i64 _ N rfl rfl (by omega) (by rw [HZ2.out]; omega) (by unfold maxLen; omega) (Nat.le_refl _) ?_); intro w1 qo qg; have O1 := Lib.hid qo; have G1 := Lib.hid qg; clear qo qg)
 have HB0 := Lib.hid (show Below w.heap.size w w1 from (Below.refl _ _).grown G1.out (Nat.le_refl _) (fun k e => by cases e))
 obtain ⟨g0, hg0⟩ : ∃ g, g = w.heap.size := ⟨_, rfl⟩
 have HO := Lib.hid (show w1.ownsRow w.heap.size 4 1 (.slice (some ⟨g0, 0, none⟩) 0 N) 0 ((l.take 0).map Value.bool) by rw [hg0]; exact O1.out)
 simp only [← hg0]
 clear hg0 O1 G1
 have k0 : ((0 : Nat) : Int) = 0 := rfl
 go_loopg [3, 4] n (fun g t x wr => ∃ (k : Nat) (av : Option Addr) (cv : Nat), k + g = n ∧ t = .slice av k cv ∧ x = .int .i64 (k : Int) ∧ Hid (wr.ownsRow w.heap.size 4 1 (.slice av k cv) k ((l.take k).map Value.bool)) ∧ Hid (Below w.heap.size w wr))
 case atStart => exact ⟨0, _, N, by omega, rfl, rfl, HO, HB0⟩
 case round =>
  clear HO HB0 k0
  obtain ⟨k, av, cv, hk, rfl, rfl, HO, HW⟩ := hrel
  have hwb : w.heap.size ≤ wr.heap.size := HW.out.size
  obtain ⟨xs, hxs⟩ : ∃ xs, xs = (l.take k).map Value.bool := ⟨_, rfl⟩
  have HXS := Lib.hid hxs
  rw [← hxs] at HO
  clear hxs
  by_cases hlt : k < n
  · have n0 : (0 : Int) ≤ (k : Int) := by omega
    have l0 : (k : Int) < (n : Int) := by omega
    have w0 : IntKind.i64.wrap ((k : Int) + 1) = ((k + 1 : Nat) : Int) := IntWalk.i64_in _ (by omega)
    obtain ⟨b, off, rfl, hbs, hcell⟩ := HA.out (by omega)
    obtain ⟨x, hx⟩ : ∃ x, l[k]? = some x := ⟨_, List.getElem?_eq_getElem (by have := HN.out; omega)⟩
    have c0 := (HW.out.cell (p := ⟨b, off + k * 1, none⟩) hbs).trans (hcell k x hx)
    rw [Nat.mul_one] at c0
    have HX := Lib.hid hx
    clear hcell hx
    go_wp2_with (at_builtin; go_loud (refine wpList_append_own _ rfl _ _ 40 rfl w.heap.size 4 i0 (.bool false) 1 1 Tryz.underlying40 HI.out HZ.out HZ1.out HZ2.out rfl (by decide) _ k xs rfl (World.ownsRow.alloc HO.out _) ⟨wr.heap.size, 0, none⟩ 1 1 [.bool x] rfl rfl (one_new _ _ _ _ (by simp)) (by simp [Value.oneCell']) (small_max (by omega)) (by omega) (by simp; omega) ?_); intro v' w6 hown6 hg6 hnn; clear hnn; obtain ⟨g6, c6, rfl, hk6, hk7⟩ := own_slice hown6 rfl; have HV3 := Lib.hid hown6; have HB3 := Lib.hid ((HW.out.alloc hwb _).grown hg6 (Nat.le_trans hwb (by simp)) (fun g e => (World.ownsRow.lt HO.out g e).1)); clear hown6 hg6)
    go_roundg (n - (k + 1))
    case measure => omega
    case rel => exact ⟨k + 1, some ⟨g6, 0, none⟩, c6, by omega, by first | rfl | simp, by first | rfl | simp, Lib.hid (by rw [List.take_add_one, HX.out, Option.toList_some, List.map_append, ← HXS.out]; exact HV3.out), HB3⟩
  · obtain rfl : k = n := by omega
    have l0 : ¬ (k : Int) < (k : Int) := by omega
    have n0 : (0 : Int) ≤ (k : Int) := by omega
    go_wp2_with (at_builtin; go_loud (refine wpList_append_own _ rfl _ _ 40 rfl w.heap.size 4 i0 (.bool false) 1 1 Tryz.underlying40 HI.out HZ.out HZ1.out HZ2.out rfl (by decide) _ k xs rfl (World.ownsRow.alloc HO.out _) ⟨wr.heap.size, 0, none⟩ 1 1 [.bool true] rfl rfl (one_new _ _ _ _ (by simp)) (by simp [Value.oneCell']) (small_max (by omega)) (by omega) (by simp; omega) ?_); intro v' w6 hown6 hg6 hnn; clear hnn; obtain ⟨g6, c6, rfl, hk6, hk7⟩ := own_slice hown6 rfl; have HV3 := Lib.hid hown6; have HB3 := Lib.hid ((HW.out.alloc hwb _).grown hg6 (Nat.le_trans hwb (by simp)) (fun g e => (World.ownsRow.lt HO.out g e).1)); clear hown6 hg6)
    go_ret
    refine ⟨g6, c6, rfl, ?_, HB3.out⟩
    have e := HV3.out
    rw [HXS.out, List.take_of_length_le (by have := HN.out; omega)] at e
    unfold TwO
    rw [List.map_append, ← HN.out.1]
    exact e
end Go.Proofs.YtbndmpdaloadjaaGreat
