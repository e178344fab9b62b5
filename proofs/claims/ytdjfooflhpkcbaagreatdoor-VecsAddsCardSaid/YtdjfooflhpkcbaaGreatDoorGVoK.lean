/- Rows of fractions whose parts are memory of their own. The law package's copy of a row of fractions: memory of its own. Rows of fractions of their .. -/
import Derived.Deep.QuietTactic
import Derived.Test.YtdjfooflhpkcbaaGreatDoorGNtL
import Derived.Test.YtdjfooflhpkcbaaGreatDoorGRTv
import Derived.Test.YtdjfooflhpkcbaaGreatDoorGBkSg
import Derived.Test.YtdjfooflhpkcbaaGreatDoorGVecO
import Derived.Test.YtdjfooflhpkcbaaGreatDoorGRatOpO
import Derived.Test.YtdjfooflhpkcbaaGreatDoorGRrO
import Derived.Test.YtdjfooflhpkcbaaGreatDoorGMathG
import Derived.Test.YtdjfooflhpkcbaaGreatDoorGRatSame
set_option maxRecDepth 100000
set_option maxHeartbeats 16000000
set_option linter.unusedSimpArgs false
set_option linter.unusedVariables false
namespace Go.Proofs.YtdjfooflhpkcbaaGreatDoor
section
open Go Go.Proofs Go.RowKit Go.Shelf Nu
def ZOw (W : World) (base : Nat) (z : Zr) : Prop := Fresh W base (.slice z.2.1.1 z.1.2.1.length z.2.1.2) z.1.2.1 ∧ Fresh W base (.slice z.2.2.1 z.1.2.2.length z.2.2.2) z.1.2.2
def zpv (z : Zr) : List Value := [.slice z.2.1.1 z.1.2.1.length z.2.1.2, .slice z.2.2.1 z.1.2.2.length z.2.2.2]
def OwnL (W : World) (base : Nat) (zs : List Zr) : Prop := (∀ z ∈ zs, ZOw W base z) ∧ (zs.flatMap zpv).Pairwise Two
section
variable {W W' : World} {base : Nat} {z : Zr} {zs : List Zr}
theorem ZOw.off {t : TypeId} (h : ZOw W base z) (ho : Off t W W') (ht : 71 ≠ t) : ZOw W' base z := ⟨own_off h.1 ho ht, own_off h.2 ho ht⟩
theorem ZOw.below (h : ZOw W base z) (hb : Below W.heap.size W W') : ZOw W' base z := ⟨h.1.below hb, h.2.below hb⟩
theorem ZOw.mono {base' : Nat} (h : ZOw W base z) (hb : base' ≤ base) : ZOw W base' z := ⟨h.1.mono hb, h.2.mono hb⟩
theorem ZOw.zin (h : ZOw W base z) : ZIn W z := ⟨h.1.reads, h.2.reads⟩
theorem ZOw.lies (h : ZOw W base z) {x : Value} (hx : x ∈ zpv z) {g : Nat} (e : x.ownBlock = some g) : base ≤ g ∧ g < W.heap.size := by
 simp only [zpv, List.mem_cons, List.not_mem_nil, or_false] at hx
 rcases hx with rfl | rfl
 · exact World.ownsRow.lt h.1 g e
 · exact World.ownsRow.lt h.2 g e
theorem OwnL.nil : OwnL W base [] := ⟨fun z h => (by cases h), List.Pairwise.nil⟩
theorem OwnL.off {t : TypeId} (h : OwnL W base zs) (ho : Off t W W') (ht : 71 ≠ t) : OwnL W' base zs := ⟨fun z hz => (h.1 z hz).off ho ht, h.2⟩
theorem OwnL.below (h : OwnL W base zs) (hb : Below W.heap.size W W') : OwnL W' base zs := ⟨fun z hz => (h.1 z hz).below hb, h.2⟩
theorem OwnL.mono {base' : Nat} (h : OwnL W base zs) (hb : base' ≤ base) : OwnL W base' zs := ⟨fun z hz => (h.1 z hz).mono hb, h.2⟩
theorem OwnL.lies (h : OwnL W base zs) {x : Value} (hx : x ∈ zs.flatMap zpv) {g : Nat} (e : x.ownBlock = some g) : base ≤ g ∧ g < W.heap.size := by
 obtain ⟨z, hz, hx⟩ := List.mem_flatMap.1 hx
 exact (h.1 z hz).lies hx e
theorem OwnL.snoc (h : OwnL W base zs) (hb : Below W.heap.size W W') (hs : base ≤ W.heap.size) (hz : ZOw W' W.heap.size z) (ht : Two (.slice z.2.1.1 z.1.2.1.length z.2.1.2) (.slice z.2.2.1 z.1.2.2.length z.2.2.2)) : OwnL W' base (zs ++ [z]) := by
 refine ⟨fun y hy => ?_, ?_⟩
 · rcases List.mem_append.1 hy with hy | hy
   · exact (h.1 y hy).below hb
   · obtain rfl := List.mem_singleton.1 hy
     exact hz.mono hs
 · rw [List.flatMap_append, List.pairwise_append]
   refine ⟨h.2, ?_, fun x hx y hy => ?_⟩
   · rw [List.flatMap_singleton]
     refine List.pairwise_cons.2 ⟨fun y hy => ?_, List.pairwise_singleton _ _⟩
     obtain rfl := List.mem_singleton.1 hy
     exact ht
   · rw [List.flatMap_singleton] at hy
     cases e : x.ownBlock with
     | none => exact .inl e
     | some g =>
      refine .inr fun e2 => ?_
      have h1 := (h.lies hx e).2
      have h2 := (hz.lies hy (e2 ▸ e)).1
      omega
end
def RAnsO (base : Nat) (w : World) (X : Rat) (e : Ending) (w' : World) : Prop :=
 ∃ a c a' c', e = .returned (.agg #[.bool (qr X).1, .slice a (qr X).2.1.length c, .slice a' (qr X).2.2.length c']) ∧ Fresh w' base (.slice a (qr X).2.1.length c) (qr X).2.1 ∧ Fresh w' base (.slice a' (qr X).2.2.length c') (qr X).2.2 ∧ Two (.slice a (qr X).2.1.length c) (.slice a' (qr X).2.2.length c') ∧ Below w.heap.size w w'
def VFO (W : World) (base : Nat) (v : Value) (zs : List Zr) : Prop := VF W base v zs ∧ OwnL W base zs
theorem VFO.below {W W' : World} {base : Nat} {v : Value} {zs : List Zr} (h : VFO W base v zs) (hb : Below W.heap.size W W') : VFO W' base v zs := ⟨h.1.below hb, h.2.below hb⟩
theorem VFO.alloc {W : World} {base : Nat} {v : Value} {zs : List Zr} (h : VFO W base v zs) (o : Obj) : VFO (W.alloc o) base v zs := h.below ((Below.refl _ _).alloc (Nat.le_refl _) o)
theorem VFO.lt {W : World} {base g : Nat} {v : Value} {zs : List Zr} (h : VFO W base v zs) (hg : v.ownBlock = some g) : base ≤ g ∧ g < W.heap.size := h.1.lt hg
theorem VFO.form {W : World} {base : Nat} {v : Value} {zs : List Zr} (h : VFO W base v zs) : ∃ a cap, v = .slice a zs.length cap := h.1.form
theorem VFO.grow {W w3 : World} {base : Nat} {v v' : Value} {zs ys : List Zr} {tmp : Obj} (h : VF W base v zs) (ho : OwnL W base ys) (hgrow : (W.alloc tmp).grownBy w3 v.ownBlock) (h3 : VF w3 base v' ys) : VFO w3 base v' ys :=
 ⟨h3, ho.off ((Off.alloc W tmp).trans (Off.of_grown (World.ownsRow.alloc h.1.1 _) hgrow)) (by decide)⟩
end
section
open Go Go.Proofs Go.RowKit Go.Shelf Nu
set_option linter.unusedVariables false
set_option linter.unusedSimpArgs false
set_option maxRecDepth 100000
attribute [local go_sem] Oper.semAt_some
theorem own_front {W : World} {base n : Nat} {t : TypeId} {g c : Nat} {xs : List Value} {y : List Value} (h : W.ownsRow base t 3 (.slice (some ⟨g, 0, none⟩) (n + 1) c) (n + 1) (xs ++ y)) (hx : xs.length = n * 3 := by simp [zcells_len]) : W.ownsRow base t 3 (.slice (some ⟨g, 0, none⟩) n c) n xs := by
 refine ⟨hx, ?_⟩
 rcases h.2 with ⟨e, _⟩ | ⟨g', cap, cur, e, hb, hg, hn, hm, hs, ht⟩
 · cases e
 · cases e
   refine .inr ⟨g, c, cur, rfl, hb, hg, by omega, hm, hs, ?_⟩
   have := congrArg (List.take (n * 3)) ht
   rw [List.take_take, List.take_left' hx] at this
   rwa [Nat.min_eq_left (by omega)] at this
theorem twinR_own {w : World} {v : Value} {qs : List Qr} (h : VReads w v qs) (hl : qs.length ≤ 65536) (hb : ∀ q ∈ qs, q.2.1.length ≤ 100000 ∧ q.2.2.length ≤ 100000) :
    Calls Tryz.prog 8 #[v] w fun e w' => ∃ g c, e = .returned (.slice (some ⟨g, 0, none⟩) qs.length c) ∧ TwR w' w.heap.size g c qs ∧ (∃ zs : List Zr, zs.map (·.1) = qs ∧ w'.ownsRow w.heap.size 30 3 (.slice (some ⟨g, 0, none⟩) qs.length c) zs.length (zcells zs) ∧ OwnL w' w.heap.size zs) ∧ Below w.heap.size w w' := by
  obtain ⟨i0, hi, hz0, hz1, hz2⟩ := info_parts info_rat
  obtain ⟨a, cap, rfl⟩ := h.form
  obtain ⟨hn', hcap, bb, off, ha, hc⟩ := h.addr
  obtain ⟨n, hn⟩ : ∃ n, n = qs.length := ⟨_, rfl⟩
  obtain ⟨N, hN⟩ : ∃ N, N = n + 1 := ⟨_, rfl⟩
  have w1 : IntKind.i64.wrap ((n : Int) + 1) = (N : Int) := by rw [hN]; exact IntWalk.i64_in _ (by omega)
  rw [← hn]
  rw [← hn] at ha
  have HN := Lib.hid (show n = qs.length ∧ N = n + 1 ∧ n ≤ 65536 from ⟨hn, hN, by omega⟩)
  have HC := Lib.hid hc
  have HA := Lib.hid ha
  have HS := Lib.hid hb
  have hn1 : n ≤ 65536 := by omega
  have hN1 : N ≤ 65537 := by omega
  clear h hn hN hn' hcap ha hc hb hl
  go_enter Tryz.func8, Tryz.ntmps8
  go_wp2_with ((at_make; go_loud (refine wpList_make_rat hi hz0 hz1 hz2 _ rfl _ _ rfl w.heap.size .i64 .i64 N rfl rfl (by omega) (by simp) ?_); intro w1 hV1 hgrow1))
  have HB1 := Lib.hid (show Below w.heap.size w w1 from (Below.refl _ _).grown hgrow1 (Nat.le_refl _) (fun _ e => by cases e))
  have HV1 := Lib.hid hV1
  clear hV1 hgrow1
  have k0 : ((0 : Nat) : Int) = 0 := rfl
  go_loopg [3, 4] n (fun g t x wr => ∃ (k : Nat) (ys : List Zr) (av : Option Addr) (cv : Nat), k + g = n ∧ t = .slice av k cv ∧ x = .int .i64 (k : Int) ∧ Hid (ys.map (·.1) = qs.take k) ∧ Hid (VF wr w.heap.size (.slice av k cv) ys) ∧ Hid (∀ z ∈ ys, ZTw wr w.heap.size z) ∧ Hid (OwnL wr w.heap.size ys) ∧ Hid (Below w.heap.size w wr))
  case atStart => exact ⟨0, [], _, _, by omega, rfl, rfl, Lib.hid rfl, HV1, Lib.hid (fun z hz => by cases hz), Lib.hid OwnL.nil, HB1⟩
  case round =>
    clear HV1 HB1 k0
    obtain ⟨k, ys, av, cv, hk, rfl, rfl, HM, HV, HZ, HL, HB⟩ := hrel
    have HY := Lib.hid (lens_of HM.out (by have := HN.out; omega))
    have hwb : w.heap.size ≤ wr.heap.size := HB.out.size
    by_cases hlt : k < n
    · have n0 : (0 : Int) ≤ (k : Int) := by omega
      have l0 : (k : Int) < (n : Int) := by omega
      have w0 : IntKind.i64.wrap ((k : Int) + 1) = ((k + 1 : Nat) : Int) := IntWalk.i64_in _ (by omega)
      obtain ⟨rfl, hbl⟩ := HA.out (by omega)
      obtain ⟨q, hq⟩ : ∃ q, qs[k]? = some q := ⟨_, List.getElem?_eq_getElem (by have := HN.out; omega)⟩
      have hqat := (HC.out k q hq).below hbl HB.out
      have hsz := HS.out q (List.mem_of_getElem? hq)
      have HQ := Lib.hid hq
      obtain ⟨s, l1, d1⟩ := q
      obtain ⟨p, c, p', c', h0, h1, h2, g1, g2⟩ := hqat
      dsimp only at h0 h1 h2 g1 g2 hsz
      have kc := Lib.hid (fun (W : World) (r : Below wr.heap.size wr W) => rtwin_own (n := s) hsz.1 hsz.2 (g1.below r) (g2.below r))
      clear g1 g2 hq hsz HC HA HS
      go_wp2_with fail
      refine (kc.out _ (Below.refl _ _)).mono ?_
      rintro e w2 ⟨a3, c3, o3, r3, rfl, t1, t2, rb, tw⟩
      have HL2 := Lib.hid (HL.out.snoc (z := ((s, l1, d1), (some ⟨a3, 0, none⟩, c3), (some ⟨o3, 0, none⟩, r3))) rb hwb ⟨t1.fresh, t2.fresh⟩ tw)
      have HB2 := Lib.hid (then_below HB.out rb)
      have HV2 := Lib.hid (HV.out.below rb)
      have HZ2 := Lib.hid (show (∀ z ∈ ys, ZTw w2 w.heap.size z) ∧ ZTw w2 w.heap.size ((s, l1, d1), (some ⟨a3, 0, none⟩, c3), (some ⟨o3, 0, none⟩, r3)) from ⟨fun z hz => (HZ.out z hz).below rb, _, _, _, _, rfl, rfl, t1.mono hwb, t2.mono hwb⟩)
      clear rb kc h0 h1 h2 HB HV HZ HL t1 t2 tw
      have hs2 : w.heap.size ≤ w2.heap.size := HB2.out.size
      go_wp2_with ((at_builtin; go_loud (refine wpList_append_rat hi hz0 hz1 hz2 w2 rfl _ _ rfl w.heap.size (.slice av k cv) ys ((s, l1, d1), (some ⟨a3, 0, none⟩, c3), (some ⟨o3, 0, none⟩, r3)) rfl rfl HV2.out HZ2.out.2.zin hs2 (by have := HY.out; omega) ?_); intro v' w3 hV3 hgrow; have hof : Off 30 w2 w3 := (Off.alloc w2 _).trans (Off.of_grown (World.ownsRow.alloc HV2.out.1.1 _) hgrow); have hap := rat_append HV2.out hs2 hgrow; obtain ⟨av', cv', ev'⟩ := hV3.form; rw [List.length_append, List.length_singleton, HY.out] at ev'; subst ev'; have HV3 := Lib.hid hV3; have HZ3 := Lib.hid (show ∀ z ∈ ys ++ [((s, l1, d1), (some ⟨a3, 0, none⟩, c3), (some ⟨o3, 0, none⟩, r3))], ZTw w3 w.heap.size z from fun z hz => by (rcases List.mem_append.1 hz with hz | hz; exact (HZ2.out.1 z hz).off hof (by decide); obtain rfl := List.mem_singleton.1 hz; exact HZ2.out.2.off hof (by decide))); have HL3 := Lib.hid (HL2.out.off hof (by decide)); have HB3 := Lib.hid (HB2.out.trans hap.2.1); clear HL2 hV3 hap hgrow hof HV2 HB2 HZ2))
      go_roundg (n - (k + 1))
      case measure => omega
      case rel => exact ⟨k + 1, ys ++ [((s, l1, d1), (some ⟨a3, 0, none⟩, c3), (some ⟨o3, 0, none⟩, r3))], av', cv', by omega, by first | rfl | simp, by first | rfl | simp, Lib.hid (map_take_snoc HM.out HQ.out rfl), HV3, HZ3, HL3, HB3⟩
    · obtain rfl : k = n := by omega
      have l0 : ¬ (k : Int) < (k : Int) := by omega
      have n0 : (0 : Int) ≤ (k : Int) := by omega
      clear HC HA HS
      have hM : ys.map (·.1) = qs := by rw [HM.out]; exact List.take_of_length_le (by have := HN.out; omega)
      have HM2 := Lib.hid hM
      clear hM
      have lb : Below wr.heap.size wr (wr.alloc (.cells #[.int .u32 77] 71)) := (Below.refl _ _).alloc (Nat.le_refl _) _
      have HV2 := Lib.hid (HV.out.below lb)
      have HF := Lib.hid (fresh_lit wr 77)
      have hs2 : w.heap.size ≤ (wr.alloc (.cells #[.int .u32 77] 71)).heap.size := Nat.le_trans hwb lb.size
      have HZ2 := Lib.hid (fun z hz => (HZ.out z hz).below lb)
      have HL2 := Lib.hid (HL.out.below lb)
      have HB2 := Lib.hid (then_below HB.out lb)
      clear HV HZ HL HB lb
      go_wp2_with ((at_builtin; go_loud (refine wpList_append_rat hi hz0 hz1 hz2 (wr.alloc (.cells #[.int .u32 77] 71)) rfl _ _ rfl w.heap.size (.slice av k cv) ys (zmark (some ⟨wr.heap.size, 0, none⟩, 1)) rfl (by simp only [World.size_alloc]; rfl) HV2.out ⟨Reads.nil _, HF.out.reads⟩ hs2 (by have := HY.out; omega) ?_); intro v' w3 hV3 hgrow; obtain ⟨g3, c3, rfl, hc3, hc4⟩ := hV3.slice (n := k) (by rw [List.length_append, HY.out]; rfl); have HV3 := Lib.hid hV3; have HG := Lib.hid hgrow; clear hV3 hgrow))
      go_ret
      have hof : Off 30 (wr.alloc (.cells #[.int .u32 77] 71)) w3 := (Off.alloc _ _).trans (Off.of_grown (World.ownsRow.alloc HV2.out.1.1 _) HG.out)
      have hap := rat_append HV2.out hs2 HG.out
      refine ⟨g3, c3, rfl, ⟨ys, (some ⟨wr.heap.size, 0, none⟩, 1), HM2.out, ?_, fun z hz => (HZ2.out z hz).off hof (by decide), own_off (HF.out.mono hwb) hof (by decide)⟩, ⟨ys, HM2.out, ?_, HL2.out.off hof (by decide)⟩, HB2.out.trans hap.2.1⟩
      rotate_left
      · have e := HV3.out.1.1
        rw [List.length_append, HY.out, List.length_singleton, zcells_snoc] at e
        have e2 := own_front (n := k) e (by rw [zcells_len, HY.out])
        rw [← HY.out] at e2 ⊢
        exact e2
      rw [← HN.out.1]
      have e := HV3.out.1.1
      rw [List.length_append, HY.out] at e
      exact e
end
section
open Go Go.Proofs Go.RowKit Go.Shelf Nu
set_option linter.unusedVariables false
def zfp (z : Zr) : Fp := (z.1.1, (z.2.1.1, z.1.2.1.length, z.2.1.2), (z.2.2.1, z.1.2.2.length, z.2.2.2))
theorem zfp_cells (zs : List Zr) : (zs.map zfp).flatMap fpc = zcells zs := by
 unfold zcells
 rw [List.flatMap_map]
 rfl
theorem zfp_parts (zs : List Zr) : fps (zs.map zfp) = zs.flatMap zpv := by
 unfold fps
 rw [List.flatMap_map]
 rfl
theorem part_of {W : World} {base : Nat} {a : Option Addr} {c : Nat} {l : List Nat} (h : Fresh W base (.slice a l.length c) l) (hl : l.length ≤ 2000000) : Part W base W.heap.size (a, l.length, c) :=
 ⟨⟨l.length, l.map u32v, hl, h⟩, fun g e => World.ownsRow.lt h g e⟩
theorem own_other {W : World} {b1 b2 n1 n2 k1 k2 g : Nat} {t u : TypeId} {v x : Value} {xs ys : List Value} (h : W.ownsRow b1 t k1 v n1 xs) (h' : W.ownsRow b2 u k2 x n2 ys) (ht : t ≠ u) (e1 : v.ownBlock = some g) (e2 : x.ownBlock = some g) : False := by
 rcases h.2 with ⟨rfl, _⟩ | ⟨g1, c1, cur1, rfl, _, hg1, _⟩
 · cases e1
 · rcases h'.2 with ⟨rfl, _⟩ | ⟨g2, c2, cur2, rfl, _, hg2, _⟩
   · cases e2
   · have e3 : g1 = g := by simpa [Value.ownBlock] using e1
     have e4 : g2 = g := by simpa [Value.ownBlock] using e2
     subst e3; subst e4
     have := hg1.symm.trans hg2
     injection this with this
     injection this with _ h2 _
     exact ht h2
theorem fr_of {W : World} {base : Nat} {a : Option Addr} {n c : Nat} {zs : List Zr} (hl : zs.length = n) (hr : W.ownsRow base 30 3 (.slice a n c) zs.length (zcells zs)) (ho : OwnL W base zs) (hb : ∀ z ∈ zs, z.1.2.1.length ≤ 2000000 ∧ z.1.2.2.length ≤ 2000000) : FR W base W.heap.size a n c (zs.map zfp) := by
 refine ⟨by rw [List.length_map, hl], by rw [zfp_cells, ← hl]; rw [hl] at hr ⊢; exact hr, fun g e => (World.ownsRow.lt hr g e).2, fun p hp => ?_, fun x hx g e1 e2 => ?_, by rw [zfp_parts]; exact ho.2⟩
 · obtain ⟨z, hz, rfl⟩ := List.mem_map.1 hp
   exact ⟨part_of (ho.1 z hz).1 (hb z hz).1, part_of (ho.1 z hz).2 (hb z hz).2⟩
 · rw [zfp_parts] at hx
   obtain ⟨z, hz, hx⟩ := List.mem_flatMap.1 hx
   simp only [zpv, List.mem_cons, List.not_mem_nil, or_false] at hx
   rcases hx with rfl | rfl
   · exact own_other (ho.1 z hz).1 hr (by decide) e1 e2
   · exact own_other (ho.1 z hz).2 hr (by decide) e1 e2
theorem FR.wide {W : World} {base top b' t' : Nat} {a : Option Addr} {n c : Nat} {ps : List Fp} (h : FR W base top a n c ps) (hb : b' ≤ base) (ht : top ≤ t') : FR W b' t' a n c ps :=
 ⟨h.len, row_low h.row hb, fun g e => Nat.lt_of_lt_of_le (h.own g e) ht, fun p hp => ⟨(h.part p hp).1.wide hb ht, (h.part p hp).2.wide hb ht⟩, h.far, h.dup⟩
end
section
open Go Go.Proofs Go.RowKit Go.Shelf Nu
set_option linter.unusedVariables false
set_option linter.unusedSimpArgs false
attribute [local go_sem] Oper.semAt_some
theorem ZOw.offc {W W' : World} {base M : Nat} {z : Zr} {row : Option Nat} (h : ZOw W base z) (hg : W.grownBy W' row) (hr : OffCells M row W) : ZOw W' base z := by
 have key : ∀ {x : Value} {l : List Nat}, Fresh W base x l → Fresh W' base x l := by
  intro x l hx
  refine hx.keptr hg ?_
  rcases hx.2 with ⟨rfl, _⟩ | ⟨g, cap, cur, rfl, _, hgb, _⟩
  · exact .inl rfl
  · refine .inr fun e' => ?_
    obtain ⟨_, o, ho, hc⟩ := hr g (by simpa [Value.ownBlock] using e'.symm)
    rw [hgb] at ho; cases ho; cases hc
 exact ⟨key h.1, key h.2⟩
theorem VFO.off {W W' : World} {base M : Nat} {v : Value} {zs : List Zr} {row : Option Nat} (h : VFO W base v zs) (hg : W.grownBy W' row) (hr : OffCells M row W) : VFO W' base v zs :=
 ⟨h.1.off hg hr, fun z hz => (h.2.1 z hz).offc hg hr, h.2.2⟩
theorem VFO.box {W : World} {base B : Nat} {v : Value} {zs : List Zr} {t : TypeId} {u : Value} (h : VFO W base v zs) (hB : Boxed W B t u) (ht : t ≠ 30) (ht2 : 71 ≠ t) (hu : no32 u = true) (x : Value) : VFO (W.setCell ⟨B, 0, none⟩ x) base v zs :=
 ⟨h.1.box hB ht hu x, h.2.off (Off.put (show BoxN W B t ([u] : List Value).toArray from hB) 0 x) ht2⟩
def JInvO (w : World) (F0 v1 v2 : Value) (s : Nat) (zs : List Rat) (k : Nat) (W : World) : Prop :=
  (∃ (v : Value) (ys : List Zr), ys.map (·.1) = (zs.take k).map qr ∧ Boxed W s 22 v ∧ VFO W w.heap.size v ys) ∧
  Boxed W w.heap.size 74 F0 ∧ Boxed W (s + 1) 22 v1 ∧ Boxed W (s + 1 + 1) 22 v2 ∧ Below w.heap.size w W
theorem JInvO.own {w : World} {F0 v1 v2 : Value} {s : Nat} {zs : List Rat} {M : Nat} (hM : w.heap.size ≤ M) : OwnFrom M (JInvO w F0 v1 v2 s zs) := by
 rintro k W W' row ⟨⟨v, ys, h0, h1, h2⟩, h3, h4, h5, h6⟩ hg hr
 exact ⟨⟨v, ys, h0, keepBox h1 hg hr, h2.off hg hr⟩, keepBox h3 hg hr, keepBox h4 hg hr, keepBox h5 hg hr, keepBelow h6 (Nat.le_refl _) hM hg hr⟩
def JMidO (w : World) (v : Value) (ys : List Zr) (F0 v1 v2 : Value) (s B1 B2 : Nat) (c1 c2 : Array Value) (_ : Unit) (W : World) : Prop :=
 Boxed W s 22 v ∧ VFO W w.heap.size v ys ∧ Boxed W w.heap.size 74 F0 ∧ Boxed W (s + 1) 22 v1 ∧ Boxed W (s + 1 + 1) 22 v2 ∧ Below w.heap.size w W ∧ BoxN W B1 30 c1 ∧ BoxN W B2 30 c2
theorem JMidO.own {w : World} {v : Value} {ys : List Zr} {F0 v1 v2 : Value} {s B1 B2 : Nat} {c1 c2 : Array Value} {M : Nat} (hM : w.heap.size ≤ M) : OwnFrom M (JMidO w v ys F0 v1 v2 s B1 B2 c1 c2) := by
 rintro u W W' row ⟨h1, h2, h3, h4, h5, h6, h7, h8⟩ hg hr
 exact ⟨keepBox h1 hg hr, h2.off hg hr, keepBox h3 hg hr, keepBox h4 hg hr, keepBox h5 hg hr, keepBelow h6 (Nat.le_refl _) hM hg hr, keepBoxN h7 hg hr, keepBoxN h8 hg hr⟩
theorem v_joined_own {w : World} {a1 a2 : Option Addr} {n c1 c2 : Nat} {qs1 qs2 : List Qr} {J : Nat} {caps : Array Value} {zs : List Rat} (h1 : VReads w (.slice a1 n c1) qs1) (h2 : VReads w (.slice a2 n c2) qs2) (hn : n ≤ 65536) (hzs : zs.length = n)
    (eJ : ∀ (args : Array Value) (w : World), (callFunc J args).run Tryz.prog w = .ok (.enter J args) w)
    (kJ : ∀ (W : World) (j : Nat) (z1 z2 : Zr), j < n → z1.1 = qs1.getD j default → z2.1 = qs2.getD j default → ZIn W z1 → ZIn W z2 → Below w.heap.size w W → Calls Tryz.prog J (#[zval z1, zval z2] ++ caps) W (RAnsO W.heap.size W (zs.getD j 0))) :
    Calls Tryz.prog 45 #[.slice a1 n c1, .slice a2 n c2, .func (.func J) #[] caps] w fun e w' => ∃ v ys, e = .returned v ∧ ys.map (·.1) = zs.map qr ∧ VFO w' w.heap.size v ys ∧ Below w.heap.size w w' := by
  obtain ⟨i0, hi, hz0, hz1, hz2⟩ := info_parts info_rat
  have hd1 := h1.addr.2.1
  have hd2 := h2.addr.2.1
  obtain ⟨b1, o1, f, hA1, hf⟩ := h1.fn
  obtain ⟨b2, o2, g, hA2, hg⟩ := h2.fn
  have HF := Lib.hid hf
  have HG := Lib.hid hg
  have HK := Lib.hid kJ
  have HA1 := Lib.hid hA1
  have HA2 := Lib.hid hA2
  have HZ := Lib.hid hzs
  clear h1 h2 hf hg kJ hA1 hA2 hzs
  refine (callsIn_wide (n := 0)).1 ?_
  refine callsIn_of_wp_marks Tryz.func45 rfl trivial ?_ rfl
  simp only [Tryz.ntmps45, List.size_toArray, List.length_cons, List.length_nil, Nat.reduceAdd, Nat.reduceSub, Array.replicate_succ, Array.replicate_zero, List.push_toArray, List.append_toArray, List.nil_append, List.cons_append]
  refine wpIn_wide.2 ?_
  go_wp2_with (first
      | (at_make; go_loud (refine wpList_make_rat hi hz0 hz1 hz2 _ rfl _ _ rfl w.heap.size .i64 .i64 n rfl rfl (by omega) (by simp) ?_); intro w1 hV1 hgrow1)
      | (go_at_call 54; refine (places_any _ _ _ _ _ _ _).mono ?_; rintro e w' ⟨rfl, rfl⟩))
  have hs1 : (w.alloc (.cells #[.func (.func J) #[] caps] 74)).heap.size ≤ w1.heap.size := hgrow1.size
  have hs2 : w.heap.size + 1 ≤ w1.heap.size := by simpa using hs1
  have hbel1 : Below w.heap.size w w1 := ((Below.refl _ _).alloc (Nat.le_refl _) _).grown hgrow1 (by simp) (fun _ e => by cases e)
  have hbx : Boxed w1 w.heap.size 74 (.func (.func J) #[] caps) := (Boxed.new w _ _).kept hgrow1 (by simp)
  clear hs1
  simp only [World.size_alloc] at hV1
  refine (wpIn_wide (n := 0)).1 ?_
  refine wp_rangeMid (gf := 134) rfl (enters_of Tryz.func134 (by kernel_rfl) rfl)
    (places_iter n b1 o1 b2 o2 c1 c2 (w1.heap.size + 1) (w1.heap.size + 1 + 1) a1 a2 f g hn (fun h => (HA1.out h).1) (fun h => (HA2.out h).1) hd1 hd2) (fun _ => rfl)
    (JInvO w (.func (.func J) #[] caps) (.slice a1 n c1) (.slice a2 n c2) w1.heap.size zs) (fun _ _ => False) (JInvO.own (by simp; omega)) (fun _ _ _ _ h _ _ => h)
    (fun k W h => ⟨h.2.2.1.cell, h.2.2.2.1.cell, fun hk => ⟨(HF.out k hk).2.1.below (HA1.out (by omega)).2 h.2.2.2.2, (HG.out k hk).2.1.below (HA2.out (by omega)).2 h.2.2.2.2⟩⟩) ?start ?round ?done ?stop
  case start =>
    refine ⟨⟨_, [], rfl, ((Boxed.new w1 _ _).alloc _).alloc _, ⟨((hV1.alloc _).alloc _).alloc _, OwnL.nil⟩⟩, ((hbx.alloc _).alloc _).alloc _, (boxed_new1 w1 _ _ _).alloc _, boxed_new2 w1 _ _ _ _, ?_⟩
    exact ((hbel1.alloc (by omega) _).alloc (by simp; omega) _).alloc (by simp; omega) _
  case round =>
    intro l k W hk hinv
    have hfk := HF.out k hk
    have hgk := HG.out k hk
    generalize f k = z1 at *
    generalize g k = z2 at *
    obtain ⟨⟨s, l1, d1⟩, ⟨p, c⟩, p', c'⟩ := z1
    obtain ⟨⟨s', l2, d2⟩, ⟨q, e⟩, q', e'⟩ := z2
    dsimp only [zval]
    have HFK := Lib.hid hfk
    have HGK := Lib.hid hgk
    obtain ⟨⟨v, ys, hmap, hbv, hV⟩, hbf, hb1, hb2, hbel⟩ := hinv
    have hlt : ∀ g, v.ownBlock = some g → g < W.heap.size := fun g e => (hV.lt e).2
    have hyl : ys.length = k := by
      have := congrArg List.length hmap
      simp only [List.length_map, List.length_take] at this
      have := HZ.out; omega
    obtain ⟨av, cv, ev⟩ := hV.form
    rw [hyl] at ev
    subst ev
    have hWs : w.heap.size ≤ W.heap.size := hbel.size
    have hWs2 : w1.heap.size + 1 + 1 < W.heap.size := (Array.getElem?_eq_some_iff.1 (show W.heap[w1.heap.size + 1 + 1]? = _ from hb2)).1
    have hmid : JMidO w (.slice av k cv) ys (.func (.func J) #[] caps) (.slice a1 n c1) (.slice a2 n c2) w1.heap.size W.heap.size (W.heap.size + 1) #[.bool s, .slice p l1.length c, .slice p' d1.length c'] #[.bool s', .slice q l2.length e, .slice q' d2.length e'] () ((W.alloc (.cells #[.bool s, .slice p l1.length c, .slice p' d1.length c'] 30)).alloc (.cells #[.bool s', .slice q l2.length e, .slice q' d2.length e'] 30)) :=
      ⟨(hbv.alloc _).alloc _, (hV.alloc _).alloc _, (hbf.alloc _).alloc _, (hb1.alloc _).alloc _, (hb2.alloc _).alloc _, (hbel.alloc hWs _).alloc (by simp; omega) _, (BoxN.new W _ _).alloc _, BoxN.new1 W _ _ _⟩
    have HMAP := Lib.hid hmap
    have HLT := Lib.hid hlt
    have HYL := Lib.hid hyl
    have HMID := Lib.hid hmid
    clear hfk hgk hmap hlt hyl hmid hbv hV hbf hb1 hb2 hbel
    gi_wp2
    refine ⟨((KeepsOthers.alloc W _).trans (KeepsOthers.alloc _ _)).from _, _, HMID.out, JMidO.own (by first | omega | (simp; omega)), ?_⟩
    rintro W2 ⟨hbv, hV, hbf, hb1, hb2, hbel, hx1, hx2⟩
    have r1 := hbv.cell
    have r2 := hbv.frozen
    have r3 := hbf.cell
    have x0 := hx1.cell 0 _ rfl
    have x1 := hx1.cell 1 _ rfl
    have x2 := hx1.cell 2 _ rfl
    have y0 := hx2.cell 0 _ rfl
    have y1 := hx2.cell 1 _ rfl
    have y2 := hx2.cell 2 _ rfl
    have HBV := Lib.hid hbv
    have HV0 := Lib.hid hV
    have HBF0 := Lib.hid hbf
    have HB10 := Lib.hid hb1
    have HB20 := Lib.hid hb2
    have HBEL0 := Lib.hid hbel
    have HX10 := Lib.hid hx1
    have HX20 := Lib.hid hx2
    clear hbv hV hbf hb1 hb2 hbel hx1 hx2
    gi_wp2_with (refine region_held_in (Lets.round l) (fun V => Boxed V w.heap.size 74 (.func (.func J) #[] caps) ∧ BoxN V W.heap.size 30 #[.bool s, .slice p l1.length c, .slice p' d1.length c'] ∧ BoxN V (W.heap.size + 1) 30 #[.bool s', .slice q l2.length e, .slice q' d2.length e']) (by kernel_rfl) (by kernel_rfl) (by rintro ⟨_, _, h⟩; exact h) (Stop.of ?_))
    refine Stop.mk ?_
    clear r1 r2 r3 x0 x1 x2 y0 y1 y2 HMID
    have dr : Below W2.heap.size W2 W2.drew := ⟨rfl, rfl, rfl, Nat.le_refl _, fun _ _ => rfl⟩
    have HB7 := Lib.hid (boxed_under HBV.out dr)
    have HBF := Lib.hid (boxed_under HBF0.out dr)
    have HB1 := Lib.hid (boxed_under HB10.out dr)
    have HB2 := Lib.hid (boxed_under HB20.out dr)
    have HX1 := Lib.hid (HX10.out.under dr)
    have HX2 := Lib.hid (HX20.out.under dr)
    have HV := Lib.hid (HV0.out.below dr)
    have HBEL := Lib.hid (then_below HBEL0.out dr)
    have hS0 : (fun V => Boxed V w.heap.size 74 (.func (.func J) #[] caps) ∧ BoxN V W.heap.size 30 #[.bool s, .slice p l1.length c, .slice p' d1.length c'] ∧ BoxN V (W.heap.size + 1) 30 #[.bool s', .slice q l2.length e, .slice q' d2.length e']) W2.drew := ⟨HBF.out, HX1.out, HX2.out⟩
    refine wtk 1 (.func (.func J) #[] caps) rfl (fun _ _ _ h => h) (Or.inl ⟨by rfl, fun W3 hS => by obtain ⟨hS1, _, _⟩ := hS; have c1 := hS1.cell; go_simp⟩) hS0 ?_
    refine wtk 2 (.agg #[.bool s, .slice p l1.length c, .slice p' d1.length c']) rfl (fun _ _ _ h => h) (Or.inl ⟨by rfl, fun W3 hS => by obtain ⟨_, hS1, _⟩ := hS; have c0 := hS1.cell 0 _ rfl; have c1 := hS1.cell 1 _ rfl; have c2 := hS1.cell 2 _ rfl; go_simp⟩) hS0 ?_
    refine wtk 3 (.agg #[.bool s', .slice q l2.length e, .slice q' d2.length e']) rfl (fun _ _ _ h => h) (Or.inl ⟨by rfl, fun W3 hS => by obtain ⟨_, _, hS1⟩ := hS; have c0 := hS1.cell 0 _ rfl; have c1 := hS1.cell 1 _ rfl; have c2 := hS1.cell 2 _ rfl; go_simp⟩) hS0 ?_
    clear hS0
    try simp only [Act.put, List.setIfInBounds_toArray, List.set_cons_zero, List.set_cons_succ]
    have hzi1 := (HFK.out.2.2.below HBEL0.out).below dr
    have hzi2 := (HGK.out.2.2.below HBEL0.out).below dr
    have kc := HK.out W2.drew k _ _ hk HFK.out.1 HGK.out.1 hzi1 hzi2 HBEL.out
    obtain ⟨X, hX⟩ : ∃ X, X = zs.getD k 0 := ⟨_, rfl⟩
    rw [← hX] at kc
    have HX := Lib.hid hX
    unfold RAnsO at kc
    dsimp only [zval] at kc
    clear hzi1 hzi2 hX
    refine two_op 0 4 ?_ ?_
    · have r1 := HB7.out.cell
      refine wpOp_intro rfl (fun K2 hK => ?_)
      go_simp
      refine hK _ _ ⟨⟨HBF.out, HX1.out, HX2.out⟩, ?_⟩
      clear hK K2 r1
      refine one_op 4 rfl (fun K1 hK => ?_)
      go_simp
      refine kc.mono ?_
      rintro ex V1 ⟨a3, c3, o3, r3, rfl, g3, g3', tw, rr⟩
      have HB7' := Lib.hid (boxed_under HB7.out rr)
      have HBF' := Lib.hid (boxed_under HBF.out rr)
      have HB1' := Lib.hid (boxed_under HB1.out rr)
      have HB2' := Lib.hid (boxed_under HB2.out rr)
      have HX1' := Lib.hid (HX1.out.under rr)
      have HX2' := Lib.hid (HX2.out.under rr)
      have HV' := Lib.hid (HV.out.below rr)
      have HL' := Lib.hid (HV.out.2.snoc (z := (qr X, (a3, c3), (o3, r3))) rr HBEL.out.size ⟨g3, g3'⟩ tw)
      have HBEL' := Lib.hid (then_below HBEL.out rr)
      have HKP := Lib.hid ((KeepsOthers.drew W2).trans (keeps_below rr))
      clear kc rr HB7 HBF HB1 HB2 HX1 HX2 HV HBEL
      refine hK _ _ ⟨⟨HBF'.out, HX1'.out, HX2'.out⟩, ?_⟩
      clear hK K1
      refine one_op 5 rfl (fun K3 hK => ?_)
      go_simp
      refine hK _ _ ⟨⟨HBF'.out.alloc _, HX1'.out.alloc _, HX2'.out.alloc _⟩, ?_⟩
      clear hK K3
      refine one_op 6 rfl (fun K4 hK => ?_)
      rw [if_pos (by rfl)]
      refine wp_append_rat hi hz0 hz1 hz2 V1 _ _ rfl w.heap.size (.slice av k cv) ys (qr X, (a3, c3), (o3, r3)) rfl rfl HV'.out.1 ⟨g3.reads, g3'.reads⟩ HBEL'.out.size (by have := HYL.out; omega) ?_
      intro v' w3 hV3 hgrow
      obtain ⟨hKO, hBl, hBx, -⟩ := rat_append HV'.out.1 HBEL'.out.size hgrow
      have HKP3 := Lib.hid (HKP.out.trans hKO)
      have hb7 := hBx _ _ _ (by decide) HB7'.out
      have hbf := hBx _ _ _ (by decide) HBF'.out
      have hb1 := hBx _ _ _ (by decide) HB1'.out
      have hb2 := hBx _ _ _ (by decide) HB2'.out
      have hx1 := grown_off (HX1'.out.alloc _) hgrow (fun e => by have := HLT.out _ e; omega)
      have hx2 := grown_off (HX2'.out.alloc _) hgrow (fun e => by have := HLT.out _ e; omega)
      have hbel3 := HBEL'.out.trans hBl
      replace hV3 := VFO.grow HV'.out.1 HL'.out hgrow hV3
      obtain ⟨av', cv', ev'⟩ := hV3.form
      rw [List.length_append, List.length_singleton] at ev'
      subst ev'
      have HB73 := Lib.hid hb7
      have HBF3 := Lib.hid hbf
      have HB13 := Lib.hid hb1
      have HB23 := Lib.hid hb2
      have HX13 := Lib.hid hx1
      have HX23 := Lib.hid hx2
      have HV3 := Lib.hid hV3
      have HBEL3 := Lib.hid hbel3
      have r1 := hb7.cell
      have r2 := hb7.frozen
      clear hKO hBl hBx hb7 hbf hb1 hb2 hx1 hx2 hbel3 hV3 hgrow HB7' HBF' HB1' HB2' HX1' HX2' HV' HL' HBEL' HKP
      refine hK _ _ ⟨⟨HBF3.out, HX13.out, HX23.out⟩, ?_⟩
      clear hK K4
      refine one_op 7 rfl (fun K5 hK => ?_)
      go_simp
      have HB7f := Lib.hid (HB73.out.set (.slice av' (ys.length + 1) cv'))
      have HBFf := Lib.hid (HBF3.out.other (B' := w1.heap.size) (by omega) (.slice av' (ys.length + 1) cv'))
      refine hK _ _ ⟨⟨HBFf.out, HX13.out.other (by omega) _, HX23.out.other (by omega) _⟩, ?_⟩
      clear hK K5 r1 r2
      refine wdn ?_
      refine ⟨(HKP3.out.trans (KeepsOthers.setCell w3 _ _)).from _, ⟨⟨_, _, take_qr (by have := HZ.out; omega) HMAP.out (by rw [HX.out]), HB7f.out, HV3.out.box HB73.out (by decide) (by decide) rfl _⟩, HBFf.out, HB13.out.other (by omega) _, HB23.out.other (by omega) _, HBEL3.out.setCell (p := ⟨w1.heap.size, 0, none⟩) (by simp; omega) _⟩⟩
    · refine wpOp_intro rfl (fun K1 hK => ?_)
      go_simp
      refine kc.mono ?_
      rintro ex V1 ⟨a3, c3, o3, r3, rfl, g3, g3', tw, rr⟩
      have HB7' := Lib.hid (boxed_under HB7.out rr)
      have HBF' := Lib.hid (boxed_under HBF.out rr)
      have HB1' := Lib.hid (boxed_under HB1.out rr)
      have HB2' := Lib.hid (boxed_under HB2.out rr)
      have HX1' := Lib.hid (HX1.out.under rr)
      have HX2' := Lib.hid (HX2.out.under rr)
      have HV' := Lib.hid (HV.out.below rr)
      have HL' := Lib.hid (HV.out.2.snoc (z := (qr X, (a3, c3), (o3, r3))) rr HBEL.out.size ⟨g3, g3'⟩ tw)
      have HBEL' := Lib.hid (then_below HBEL.out rr)
      have HKP := Lib.hid ((KeepsOthers.drew W2).trans (keeps_below rr))
      clear kc rr HB7 HBF HB1 HB2 HX1 HX2 HV HBEL
      refine hK _ _ ⟨⟨HBF'.out, HX1'.out, HX2'.out⟩, ?_⟩
      clear hK K1
      refine two_op 0 5 ?_ ?_
      · have r1 := HB7'.out.cell
        refine wpOp_intro rfl (fun K2 hK => ?_)
        go_simp
        refine hK _ _ ⟨⟨HBF'.out, HX1'.out, HX2'.out⟩, ?_⟩
        clear hK K2 r1
        refine one_op 5 rfl (fun K3 hK => ?_)
        go_simp
        refine hK _ _ ⟨⟨HBF'.out.alloc _, HX1'.out.alloc _, HX2'.out.alloc _⟩, ?_⟩
        clear hK K3
        refine one_op 6 rfl (fun K4 hK => ?_)
        rw [if_pos (by rfl)]
        refine wp_append_rat hi hz0 hz1 hz2 V1 _ _ rfl w.heap.size (.slice av k cv) ys (qr X, (a3, c3), (o3, r3)) rfl rfl HV'.out.1 ⟨g3.reads, g3'.reads⟩ HBEL'.out.size (by have := HYL.out; omega) ?_
        intro v' w3 hV3 hgrow
        obtain ⟨hKO, hBl, hBx, -⟩ := rat_append HV'.out.1 HBEL'.out.size hgrow
        have HKP3 := Lib.hid (HKP.out.trans hKO)
        have hb7 := hBx _ _ _ (by decide) HB7'.out
        have hbf := hBx _ _ _ (by decide) HBF'.out
        have hb1 := hBx _ _ _ (by decide) HB1'.out
        have hb2 := hBx _ _ _ (by decide) HB2'.out
        have hx1 := grown_off (HX1'.out.alloc _) hgrow (fun e => by have := HLT.out _ e; omega)
        have hx2 := grown_off (HX2'.out.alloc _) hgrow (fun e => by have := HLT.out _ e; omega)
        have hbel3 := HBEL'.out.trans hBl
        replace hV3 := VFO.grow HV'.out.1 HL'.out hgrow hV3
        obtain ⟨av', cv', ev'⟩ := hV3.form
        rw [List.length_append, List.length_singleton] at ev'
        subst ev'
        have HB73 := Lib.hid hb7
        have HBF3 := Lib.hid hbf
        have HB13 := Lib.hid hb1
        have HB23 := Lib.hid hb2
        have HX13 := Lib.hid hx1
        have HX23 := Lib.hid hx2
        have HV3 := Lib.hid hV3
        have HBEL3 := Lib.hid hbel3
        have r1 := hb7.cell
        have r2 := hb7.frozen
        clear hKO hBl hBx hb7 hbf hb1 hb2 hx1 hx2 hbel3 hV3 hgrow HB7' HBF' HB1' HB2' HX1' HX2' HV' HL' HBEL' HKP
        refine hK _ _ ⟨⟨HBF3.out, HX13.out, HX23.out⟩, ?_⟩
        clear hK K4
        refine one_op 7 rfl (fun K5 hK => ?_)
        go_simp
        have HB7f := Lib.hid (HB73.out.set (.slice av' (ys.length + 1) cv'))
        have HBFf := Lib.hid (HBF3.out.other (B' := w1.heap.size) (by omega) (.slice av' (ys.length + 1) cv'))
        refine hK _ _ ⟨⟨HBFf.out, HX13.out.other (by omega) _, HX23.out.other (by omega) _⟩, ?_⟩
        clear hK K5 r1 r2
        refine wdn ?_
        refine ⟨(HKP3.out.trans (KeepsOthers.setCell w3 _ _)).from _, ⟨⟨_, _, take_qr (by have := HZ.out; omega) HMAP.out (by rw [HX.out]), HB7f.out, HV3.out.box HB73.out (by decide) (by decide) rfl _⟩, HBFf.out, HB13.out.other (by omega) _, HB23.out.other (by omega) _, HBEL3.out.setCell (p := ⟨w1.heap.size, 0, none⟩) (by simp; omega) _⟩⟩
      · refine wpOp_intro rfl (fun K3 hK => ?_)
        go_simp
        refine hK _ _ ⟨⟨HBF'.out.alloc _, HX1'.out.alloc _, HX2'.out.alloc _⟩, ?_⟩
        clear hK K3
        refine wpAnyH_all (rs := [0]) (by kernel_rfl) (by simp) ?_
        intro i hii
        obtain rfl : i = 0 := by simpa using hii
        clear hii
        have r1 := (HB7'.out.alloc (.cells #[.bool (qr X).1, .slice a3 (qr X).2.1.length c3, .slice o3 (qr X).2.2.length r3] 30)).cell
        refine wpOp_intro rfl (fun K2 hK => ?_)
        go_simp
        refine hK _ _ ⟨⟨HBF'.out.alloc _, HX1'.out.alloc _, HX2'.out.alloc _⟩, ?_⟩
        clear hK K2 r1
        refine one_op 6 rfl (fun K4 hK => ?_)
        rw [if_pos (by rfl)]
        refine wp_append_rat hi hz0 hz1 hz2 V1 _ _ rfl w.heap.size (.slice av k cv) ys (qr X, (a3, c3), (o3, r3)) rfl rfl HV'.out.1 ⟨g3.reads, g3'.reads⟩ HBEL'.out.size (by have := HYL.out; omega) ?_
        intro v' w3 hV3 hgrow
        obtain ⟨hKO, hBl, hBx, -⟩ := rat_append HV'.out.1 HBEL'.out.size hgrow
        have HKP3 := Lib.hid (HKP.out.trans hKO)
        have hb7 := hBx _ _ _ (by decide) HB7'.out
        have hbf := hBx _ _ _ (by decide) HBF'.out
        have hb1 := hBx _ _ _ (by decide) HB1'.out
        have hb2 := hBx _ _ _ (by decide) HB2'.out
        have hx1 := grown_off (HX1'.out.alloc _) hgrow (fun e => by have := HLT.out _ e; omega)
        have hx2 := grown_off (HX2'.out.alloc _) hgrow (fun e => by have := HLT.out _ e; omega)
        have hbel3 := HBEL'.out.trans hBl
        replace hV3 := VFO.grow HV'.out.1 HL'.out hgrow hV3
        obtain ⟨av', cv', ev'⟩ := hV3.form
        rw [List.length_append, List.length_singleton] at ev'
        subst ev'
        have HB73 := Lib.hid hb7
        have HBF3 := Lib.hid hbf
        have HB13 := Lib.hid hb1
        have HB23 := Lib.hid hb2
        have HX13 := Lib.hid hx1
        have HX23 := Lib.hid hx2
        have HV3 := Lib.hid hV3
        have HBEL3 := Lib.hid hbel3
        have r1 := hb7.cell
        have r2 := hb7.frozen
        clear hKO hBl hBx hb7 hbf hb1 hb2 hx1 hx2 hbel3 hV3 hgrow HB7' HBF' HB1' HB2' HX1' HX2' HV' HL' HBEL' HKP
        refine hK _ _ ⟨⟨HBF3.out, HX13.out, HX23.out⟩, ?_⟩
        clear hK K4
        refine one_op 7 rfl (fun K5 hK => ?_)
        go_simp
        have HB7f := Lib.hid (HB73.out.set (.slice av' (ys.length + 1) cv'))
        have HBFf := Lib.hid (HBF3.out.other (B' := w1.heap.size) (by omega) (.slice av' (ys.length + 1) cv'))
        refine hK _ _ ⟨⟨HBFf.out, HX13.out.other (by omega) _, HX23.out.other (by omega) _⟩, ?_⟩
        clear hK K5 r1 r2
        refine wdn ?_
        refine ⟨(HKP3.out.trans (KeepsOthers.setCell w3 _ _)).from _, ⟨⟨_, _, take_qr (by have := HZ.out; omega) HMAP.out (by rw [HX.out]), HB7f.out, HV3.out.box HB73.out (by decide) (by decide) rfl _⟩, HBFf.out, HB13.out.other (by omega) _, HB23.out.other (by omega) _, HBEL3.out.setCell (p := ⟨w1.heap.size, 0, none⟩) (by simp; omega) _⟩⟩
  case done =>
    rintro D W hD ⟨⟨v, ys, hmap, hbv, hV⟩, hbf, hb1, hb2, hbel⟩ hK
    rw [List.take_of_length_le (by have := HZ.out; omega)] at hmap
    have HMAP := Lib.hid hmap
    have HV := Lib.hid hV
    have HBEL := Lib.hid hbel
    obtain ⟨av, cv, rfl⟩ := hV.form
    have hc := hbv.cell
    clear hmap hV hbv hbf hb1 hb2 hbel
    go_wp2
    refine ⟨by simp, .inl ⟨_, _, rfl, run_takeDeferred hK, ?_⟩⟩
    refine ⟨_, results_tmp rfl _ _ _, ?_⟩
    exact ⟨_, ys, rfl, HMAP.out, HV.out.off (grownBy_putObj' W D (.deferred none)) (offCells_putObj (M := 0) (Nat.zero_le _) hK rfl), below_left _ HBEL.out (by simp at hD; omega) hK rfl⟩
  case stop =>
    rintro D c W _ h _
    exact h.elim
theorem VFO.one {W : World} {base : Nat} {a : Option Addr} {cap : Nat} {z : Zr} (h : VFO W base (.slice a 1 cap) [z]) : ∃ b, a = some ⟨b, 0, none⟩ ∧ b < W.heap.size ∧ 1 ≤ cap ∧ W.cell? ⟨b, 0, none⟩ = some (.bool z.1.1) ∧ W.cell? ⟨b, 1, none⟩ = some (.slice z.2.1.1 z.1.2.1.length z.2.1.2) ∧ W.cell? ⟨b, 2, none⟩ = some (.slice z.2.2.1 z.1.2.2.length z.2.2.2) := by
 have hr := h.1.1.1
 rcases hr.2 with ⟨e, _⟩ | ⟨g, cap', cur, e, hb, hg, hn, _⟩
 · cases e
 · cases e
   refine ⟨g, rfl, (Array.getElem?_eq_some_iff.1 hg).1, hn, ?_, ?_, ?_⟩
   · have := World.ownsRow.cellAt hr 0 (by decide); rw [this]; rfl
   · have := World.ownsRow.cellAt hr 1 (by decide); rw [this]; rfl
   · have := World.ownsRow.cellAt hr 2 (by decide); rw [this]; rfl
theorem rans_own {w : World} {X : Rat} {e : Ending} {w' : World} {base : Nat} (hb : base ≤ w.heap.size) (h : ∃ a c a' c', e = .returned (.agg #[.bool (qr X).1, .slice a (qr X).2.1.length c, .slice a' (qr X).2.2.length c']) ∧ Fresh w' w.heap.size (.slice a (qr X).2.1.length c) (qr X).2.1 ∧ Fresh w' w.heap.size (.slice a' (qr X).2.2.length c') (qr X).2.2 ∧ Below w.heap.size w w' ∧ Two (.slice a (qr X).2.1.length c) (.slice a' (qr X).2.2.length c')) : RAnsO base w X e w' := by
 obtain ⟨a, c, a', c', h1, h2, h3, h4, h5⟩ := h
 exact ⟨a, c, a', c', h1, h2.mono hb, h3.mono hb, h5, h4⟩
theorem VFO.mono {W : World} {base b' : Nat} {v : Value} {zs : List Zr} (h : VFO W base v zs) (hb : b' ≤ base) : VFO W b' v zs := ⟨⟨⟨own_le h.1.1.1 hb, h.1.1.2⟩, h.1.2⟩, h.2.mono hb⟩
theorem v_addfn_own {w : World} {B : Nat} {X Y T : Rat} {p1 o1 p2 o2 pb ob : Option Addr} {q1 r1 q2 r2 qb rb : Nat} (hB : BoxN w B 30 #[.bool (qr T).1, .slice pb (qr T).2.1.length qb, .slice ob (qr T).2.2.length rb]) (hw : wt X + wt Y + wt T ≤ 9000)
  (g1 : Reads w (.slice p1 (qr X).2.1.length q1) (qr X).2.1) (g2 : Reads w (.slice o1 (qr X).2.2.length r1) (qr X).2.2) (g3 : Reads w (.slice p2 (qr Y).2.1.length q2) (qr Y).2.1) (g4 : Reads w (.slice o2 (qr Y).2.2.length r2) (qr Y).2.2) (g5 : Reads w (.slice pb (qr T).2.1.length qb) (qr T).2.1) (g6 : Reads w (.slice ob (qr T).2.2.length rb) (qr T).2.2) :
  Calls Tryz.prog 98 #[.agg #[.bool (qr X).1, .slice p1 (qr X).2.1.length q1, .slice o1 (qr X).2.2.length r1], .agg #[.bool (qr Y).1, .slice p2 (qr Y).2.1.length q2, .slice o2 (qr Y).2.2.length r2], .pointer (some ⟨B, 0, none⟩)] w (RAnsO w.heap.size w (X + Y * T)) := by
 have wp := wt_mul Y T
 have fX := fit_qr (X := X) (by omega)
 have fY := fit_qr (X := Y) (by omega)
 have fT := fit_qr (X := T) (by omega)
 have fP := fit_qr (X := Y * T) (by omega)
 have km := fun (W : World) {p1 o1 p2 o2 : Option Addr} {q1 r1 q2 r2 : Nat} (g1 : Reads W (.slice p1 (qr Y).2.1.length q1) (qr Y).2.1) (g2 : Reads W (.slice o1 (qr Y).2.2.length r1) (qr Y).2.2) (g3 : Reads W (.slice p2 (qr T).2.1.length q2) (qr T).2.1) (g4 : Reads W (.slice o2 (qr T).2.2.length r2) (qr T).2.2) =>
  r_mul_rd (qr_can Y).is (qr_can T).is (qr_can (Y * T)) rfl fY.2.1 fY.2.2 fT.2.1 fT.2.2 g1 g2 g3 g4
 have ka := fun (W : World) {p1 o1 p2 o2 : Option Addr} {q1 r1 q2 r2 : Nat} (g1 : Reads W (.slice p1 (qr X).2.1.length q1) (qr X).2.1) (g2 : Reads W (.slice o1 (qr X).2.2.length r1) (qr X).2.2) (g3 : Reads W (.slice p2 (qr (Y * T)).2.1.length q2) (qr (Y * T)).2.1) (g4 : Reads W (.slice o2 (qr (Y * T)).2.2.length r2) (qr (Y * T)).2.2) =>
  r_add_own (qr_can X).is (qr_can (Y * T)).is (qr_can (X + Y * T)) rfl fX.2.1 fX.2.2 fP.2.1 fP.2.2 g1 g2 g3 g4
 have M : Mem w [(w.heap.size + 1 + 1, 30, [.bool false, .slice none 0 0, .slice none 0 0]), (w.heap.size + 1, 30, [.bool (qr Y).1, .slice p2 (qr Y).2.1.length q2, .slice o2 (qr Y).2.2.length r2]), (w.heap.size, 30, [.bool (qr X).1, .slice p1 (qr X).2.1.length q1, .slice o1 (qr X).2.2.length r1])]
   [(.slice ob (qr T).2.2.length rb, (qr T).2.2), (.slice pb (qr T).2.1.length qb, (qr T).2.1), (.slice o2 (qr Y).2.2.length r2, (qr Y).2.2), (.slice p2 (qr Y).2.1.length q2, (qr Y).2.1), (.slice o1 (qr X).2.2.length r1, (qr X).2.2), (.slice p1 (qr X).2.1.length q1, (qr X).2.1)]
   (((w.alloc (.cells #[.bool (qr X).1, .slice p1 (qr X).2.1.length q1, .slice o1 (qr X).2.2.length r1] 30)).alloc (.cells #[.bool (qr Y).1, .slice p2 (qr Y).2.1.length q2, .slice o2 (qr Y).2.2.length r2] 30)).alloc (.cells #[.bool false, .slice none 0 0, .slice none 0 0] 30)) := by
  have M := ((((((((((Mem.start w).add g1).add g2).add g3).add g4).add g5).add g6).new 30 [.bool (qr X).1, .slice p1 (qr X).2.1.length q1, .slice o1 (qr X).2.2.length r1]).new 30 [.bool (qr Y).1, .slice p2 (qr Y).2.1.length q2, .slice o2 (qr Y).2.2.length r2]).new 30 [.bool false, .slice none 0 0, .slice none 0 0])
  simpa only [World.size_alloc] using M
 clear g1 g2 g3 g4 g5 g6 fX fY fT fP wp hw
 unfold RAnsO
 obtain ⟨qZ, hqZ⟩ : ∃ q, q = qr (X + Y * T) := ⟨_, rfl⟩
 rw [← hqZ] at ka ⊢
 obtain ⟨qP, hqP⟩ : ∃ q, q = qr (Y * T) := ⟨_, rfl⟩
 rw [← hqP] at km ka
 clear hqZ hqP
 generalize qr X = qX at *
 generalize qr Y = qY at *
 generalize qr T = qT at *
 go_enter Tryz.func98, Tryz.ntmps98
 go_wp2
 refine region_mem (S := (fun W => BoxN W (w.heap.size) 30 #[.bool qX.1, .slice p1 qX.2.1.length q1, .slice o1 qX.2.2.length r1] ∧ BoxN W (w.heap.size + 1) 30 #[.bool qY.1, .slice p2 qY.2.1.length q2, .slice o2 qY.2.2.length r2] ∧ BoxN W B 30 #[.bool qT.1, .slice pb qT.2.1.length qb, .slice ob qT.2.2.length rb])) M (by kernel_rfl) ?_
 intro V0 M
 have hS0 : (fun W => BoxN W (w.heap.size) 30 #[.bool qX.1, .slice p1 qX.2.1.length q1, .slice o1 qX.2.2.length r1] ∧ BoxN W (w.heap.size + 1) 30 #[.bool qY.1, .slice p2 qY.2.1.length q2, .slice o2 qY.2.2.length r2] ∧ BoxN W B 30 #[.bool qT.1, .slice pb qT.2.1.length qb, .slice ob qT.2.2.length rb]) V0 := ⟨M.box 2 rfl, M.box 1 rfl, M.old hB⟩
 refine wtk 0 (.agg #[.bool qX.1, .slice p1 qX.2.1.length q1, .slice o1 qX.2.2.length r1]) rfl (fun _ _ _ h => h) (Or.inl ⟨by rfl, fun W3 hS => by obtain ⟨hS1, _, _⟩ := hS; have c0 := hS1.cell 0 _ rfl; have c1 := hS1.cell 1 _ rfl; have c2 := hS1.cell 2 _ rfl; go_simp⟩) hS0 ?_
 refine wtk 1 (.agg #[.bool qY.1, .slice p2 qY.2.1.length q2, .slice o2 qY.2.2.length r2]) rfl (fun _ _ _ h => h) (Or.inl ⟨by rfl, fun W3 hS => by obtain ⟨_, hS1, _⟩ := hS; have c0 := hS1.cell 0 _ rfl; have c1 := hS1.cell 1 _ rfl; have c2 := hS1.cell 2 _ rfl; go_simp⟩) hS0 ?_
 refine wtk 2 (.agg #[.bool qT.1, .slice pb qT.2.1.length qb, .slice ob qT.2.2.length rb]) rfl (fun _ _ _ h => h) (Or.inl ⟨by rfl, fun W3 hS => by obtain ⟨_, _, hS1⟩ := hS; have c0 := hS1.cell 0 _ rfl; have c1 := hS1.cell 1 _ rfl; have c2 := hS1.cell 2 _ rfl; go_simp⟩) hS0 ?_
 clear hS0
 try simp only [Act.put, List.setIfInBounds_toArray, List.set_cons_zero, List.set_cons_succ]
 refine one_op 3 rfl (fun K1 hK => ?_)
 go_simp
 refine (km _ (M.get 3 rfl) (M.get 2 rfl) (M.get 1 rfl) (M.get 0 rfl)).mono ?_
 rintro e V1 ⟨a1, c1, a1', c1', rfl, g, g', rr⟩
 have M' := ((M.up rr).add g).add g'
 clear M rr g g'
 have M := M'; clear M'
 refine hK _ _ ⟨⟨M.box 2 rfl, M.box 1 rfl, M.old hB⟩, ?_⟩
 clear hK K1
 refine one_op 4 rfl (fun K2 hK => ?_)
 go_simp
 refine (ka _ (M.get 7 rfl) (M.get 6 rfl) (M.get 1 rfl) (M.get 0 rfl)).mono ?_
 rintro e V2 ⟨a2, c2, a2', c2', rfl, g, g', rr, tw⟩
 have M' := (MemO.of (n := 8) M).upadd2 rr g g' tw
 clear M rr g g' tw
 have M := M'; clear M'
 refine hK _ _ ⟨⟨M.box 2 rfl, M.box 1 rfl, M.1.old hB⟩, ?_⟩
 clear hK K2
 have f0_0 := M.fr 0 rfl 0; have f0_1 := M.fr 0 rfl 1; have f0_2 := M.fr 0 rfl 2
 have z0_0 := M.cell 0 rfl 0 rfl; have z0_1 := M.cell 0 rfl 1 rfl; have z0_2 := M.cell 0 rfl 2 rfl
 refine one_op 5 rfl (fun Ks4 hK => ?_)
 go_simp
 have M' := (((M.put 0 rfl rfl 0 (.bool qZ.1)).put 0 rfl rfl 1 (.slice a2 qZ.2.1.length c2)).put 0 rfl rfl 2 (.slice a2' qZ.2.2.length c2'))
 clear M f0_0 z0_0 f0_1 z0_1 f0_2 z0_2
 refine hK _ _ ⟨⟨M'.box 2 rfl, M'.box 1 rfl, M'.1.old hB⟩, ?_⟩
 clear hK Ks4
 refine wdn ?_
 go_wp2
 refine ret_boxN rfl rfl (M'.box 0 rfl) Tryz.underlying30 size_rat rfl ?_
 exact ⟨a2, c2, a2', c2', rfl, M'.own 1 rfl, M'.own 0 rfl, (M'.two 0 1 rfl rfl).symm, M'.below⟩
theorem v_axfn_own {w : World} {B : Nat} {T : Rat} {pb ob : Option Addr} {qb rb : Nat} {xs ys : List Rat} {n : Nat} (hB : BoxN w B 30 #[.bool (qr T).1, .slice pb (qr T).2.1.length qb, .slice ob (qr T).2.2.length rb]) (g5 : Reads w (.slice pb (qr T).2.1.length qb) (qr T).2.1) (g6 : Reads w (.slice ob (qr T).2.2.length rb) (qr T).2.2) (hx : xs.length = n) (hy : ys.length = n) (hwx : ∀ x ∈ xs, wt x ≤ 3000) (hwy : ∀ y ∈ ys, wt y ≤ 3000) (hwT : wt T ≤ 3000) :
  ∀ (W : World) (j : Nat) (z1 z2 : Zr), j < n → z1.1 = (xs.map qr).getD j default → z2.1 = (ys.map qr).getD j default → ZIn W z1 → ZIn W z2 → Below w.heap.size w W → Calls Tryz.prog 98 (#[zval z1, zval z2] ++ #[.pointer (some ⟨B, 0, none⟩)]) W (RAnsO W.heap.size W ((axpy T xs ys).getD j 0)) := by
 intro W j z1 z2 hj e1 e2 i1 i2 r
 rw [qr_at (by omega)] at e1 e2
 have w1 := hwx _ (at_mem (xs := xs) (j := j) (by omega))
 have w2 := hwy _ (at_mem (xs := ys) (j := j) (by omega))
 rw [axpy_at (by omega) (by omega)]
 generalize xs.getD j 0 = X at *
 generalize ys.getD j 0 = Y at *
 obtain ⟨q1, s1, t1⟩ := z1
 obtain ⟨q2, s2, t2⟩ := z2
 dsimp only at e1 e2
 subst e1 e2
 exact v_addfn_own (hB.under r) (by omega) i1.1 i1.2 i2.1 i2.2 (g5.below r) (g6.below r)
theorem v_addm_own {w : World} {a1 a2 : Option Addr} {n c1 c2 : Nat} {xs ys : List Rat} {T : Rat} {pb ob : Option Addr} {qb rb : Nat} (h1 : VReads w (.slice a1 n c1) (xs.map qr)) (h2 : VReads w (.slice a2 n c2) (ys.map qr)) (g5 : Reads w (.slice pb (qr T).2.1.length qb) (qr T).2.1) (g6 : Reads w (.slice ob (qr T).2.2.length rb) (qr T).2.2) (hwx : ∀ x ∈ xs, wt x ≤ 3000) (hwy : ∀ y ∈ ys, wt y ≤ 3000) (hwT : wt T ≤ 3000) (hn : n ≤ 60000) :
    Calls Tryz.prog 22 #[.slice a1 n c1, .slice a2 n c2, .agg #[.bool (qr T).1, .slice pb (qr T).2.1.length qb, .slice ob (qr T).2.2.length rb]] w fun e w' => ∃ v zs, e = .returned (.tuple #[v, .int .i64 0]) ∧ zs.map (·.1) = (axpy T xs ys).map qr ∧ VFO w' w.heap.size v zs ∧ Below w.heap.size w w' := by
  have al : Below w.heap.size w (w.alloc (.cells #[.bool (qr T).1, .slice pb (qr T).2.1.length qb, .slice ob (qr T).2.2.length rb] 30)) := (Below.refl _ _).alloc (Nat.le_refl _) _
  have M : Mem w [(w.heap.size, 30, [.bool (qr T).1, .slice pb (qr T).2.1.length qb, .slice ob (qr T).2.2.length rb])] [(.slice ob (qr T).2.2.length rb, (qr T).2.2), (.slice pb (qr T).2.1.length qb, (qr T).2.1)] (w.alloc (.cells #[.bool (qr T).1, .slice pb (qr T).2.1.length qb, .slice ob (qr T).2.2.length rb] 30)) := (((Mem.start w).add g5).add g6).new _ _
  have hx : xs.length = n := by have := h1.addr.1; simpa using this.symm
  have hy : ys.length = n := by have := h2.addr.1; simpa using this.symm
  have fx := fit_each (xs := xs) (fun x hx => Nat.le_trans (hwx x hx) (by omega))
  have fy := fit_each (xs := ys) (fun x hx => Nat.le_trans (hwy x hx) (by omega))
  have fT := fit_qr (X := T) (by omega)
  have k1 := v_match true (by rw [all_qok_qr, all_qok_qr]; simp) (h1.below al) (h2.below al) ⟨fx, by simp; omega⟩ ⟨fy, by simp; omega⟩
  have hzl : (axpy T xs ys).length = n := by simp [axpy, hx, hy]
  have kc := fun (W : World) (g5 : Reads W (.slice pb (qr T).2.1.length qb) (qr T).2.1) (g6 : Reads W (.slice ob (qr T).2.2.length rb) (qr T).2.2) => rcheck_any (n := (qr T).1) g5 g6 fT.1.1 fT.1.2 (by have := fT.2.1; omega) (by have := fT.2.2; omega)
  rw [show rchk (qr T).1 (qr T).2.1 (qr T).2.2 = true from (qr_can T).chk] at kc
  have k2 := fun (W : World) (r : Below w.heap.size w W) {B : Nat} (hB : BoxN W B 30 #[.bool (qr T).1, .slice pb (qr T).2.1.length qb, .slice ob (qr T).2.2.length rb]) => v_joined_own (h1.below r) (h2.below r) (by omega) hzl (enters_of Tryz.func98 (by kernel_rfl) rfl) (v_axfn_own (w := W) hB (g5.below r) (g6.below r) hx hy hwx hwy hwT)
  generalize qr T = q at *
  have ezl : ((axpy T xs ys).map qr).length = n := by simp [hzl]
  generalize (axpy T xs ys).map qr = zq at *
  clear h1 h2 hwx hwy hwT hx hy fx fy hzl g5 g6 fT
  go_enter Tryz.func22, Tryz.ntmps22
  go_wp2_with fail
  refine k1.mono ?_
  rintro e w1 ⟨rfl, rr⟩
  have M' := M.up rr
  clear M rr k1
  have M := M'; clear M'
  have z0 := M.cell 0 rfl 0 rfl; have z1 := M.cell 0 rfl 1 rfl; have z2 := M.cell 0 rfl 2 rfl
  go_wp2_with fail
  refine (kc _ (M.get 1 rfl) (M.get 0 rfl)).mono ?_
  rintro e w2 ⟨rfl, rr⟩
  have M' := M.up rr
  clear M rr kc z0 z1 z2
  have M := M'; clear M'
  go_wp2_with fail
  refine (k2 _ M.below (M.box 0 rfl)).mono ?_
  rintro e w3 ⟨v, zs, rfl, hm, hv, rr⟩
  obtain ⟨av, cv, ev⟩ := hv.form
  have hl : zs.length = n := by rw [← ezl, ← hm, List.length_map]
  rw [hl] at ev
  subst ev
  have HV := Lib.hid (hv.mono M.below.size)
  have HM := Lib.hid hm
  have HB := Lib.hid (then_below M.below rr)
  clear M rr k2 hv hm hl ezl
  go_wp2_with fail
  go_ret2
  exact ⟨_, zs, rfl, HM.out, HV.out, HB.out⟩
theorem v_scale_ow2 {w : World} {a : Option Addr} {n cap : Nat} {qs : List Qr} {T : Rat} {b : Bool} {l d : List Nat} {pb ob : Option Addr} {qb rb : Nat} (h : VReads w (.slice a n cap) qs) (hq : qrows qs) (hT : RIs b l d T) (b1 : l.length ≤ 9999) (b2 : d.length ≤ 9999) (g5 : Reads w (.slice pb l.length qb) l) (g6 : Reads w (.slice ob d.length rb) d) :
    Calls Tryz.prog 21 #[.slice a n cap, .agg #[.bool b, .slice pb l.length qb, .slice ob d.length rb]] w fun e w' => ∃ v zs, e = .returned v ∧ VFO w' (w.heap.size + 1) v zs ∧ zs.map (·.1) = (scl T (qs.map qval)).map qr ∧ Below w.heap.size w w' := by
  obtain ⟨i0, hi, hz0, hz1, hz2⟩ := info_parts info_rat
  obtain ⟨hn, hcap, bb, off, ha, hc⟩ := h.addr
  have hn1 : n ≤ 65536 := hn ▸ hq.2
  have hzl : (scl T (qs.map qval)).length = n := by simp [scl, hn]
  have hk : ∀ (j : Nat) (_ : j < n) (W : World) (p o : Option Addr) (c e : Nat) (_ : Reads W (.slice p (qs.getD j default).2.1.length c) (qs.getD j default).2.1) (_ : Reads W (.slice o (qs.getD j default).2.2.length e) (qs.getD j default).2.2) (_ : Below w.heap.size w W),
      Calls Tryz.prog 46 #[.agg #[.bool (qs.getD j default).1, .slice p (qs.getD j default).2.1.length c, .slice o (qs.getD j default).2.2.length e], .agg #[.bool b, .slice pb l.length qb, .slice ob d.length rb]] W (RAnsO W.heap.size W ((scl T (qs.map qval)).getD j 0)) := by
    intro j hj W p o c e g1 g2 r
    have hm := qs_mem (qs := qs) (j := j) (by omega)
    rw [scl_at (by omega)]
    have hf := hq.1 _ hm
    exact (r_mul_own hf.is hT (qr_can _) rfl hf.2.1 hf.2.2 b1 b2 g1 g2 (g5.below r) (g6.below r)).mono fun e w' h => rans_own (Nat.le_refl _) h
  have HK := Lib.hid hk
  have HN := Lib.hid hn
  have HC := Lib.hid hc
  have HA := Lib.hid ha
  have HZ := Lib.hid hzl
  generalize scl T (qs.map qval) = zs at *
  clear h hq hT b1 b2 g5 g6 hn hc ha hzl hk
  go_enter Tryz.func21, Tryz.ntmps21
  go_wp2_with ((at_make; go_loud (refine wpList_make_rat hi hz0 hz1 hz2 _ rfl _ _ rfl (w.heap.size + 1) .i64 .i64 n rfl rfl (by omega) (by simp) ?_); intro w1 hV1 hgrow1))
  have hbel1 : Below w.heap.size w w1 := ((Below.refl _ _).alloc (Nat.le_refl _) _).grown hgrow1 (by simp) (fun _ e => by cases e)
  have hbx : BoxN w1 w.heap.size 30 #[.bool b, .slice pb l.length qb, .slice ob d.length rb] := (hgrow1.block _ (by simp) (by simp)).trans (BoxN.new w _ _)
  simp only [World.size_alloc] at hV1
  have HB1 := Lib.hid hbel1
  have HX1 := Lib.hid hbx
  have HV1 : Hid (VFO w1 (w.heap.size + 1) _ []) := Lib.hid ⟨hV1, OwnL.nil⟩
  clear hbel1 hbx hV1 hgrow1
  go_loopw [5, 13] (fun v i wr => ∃ (k : Nat) (ys : List Zr) (av : Option Addr) (cv : Nat), k ≤ n ∧ i = .int .i64 k ∧ v = .slice av k cv ∧ Hid (ys.map (·.1) = (zs.take k).map qr) ∧ Hid (VFO wr (w.heap.size + 1) (.slice av k cv) ys) ∧ Hid (BoxN wr w.heap.size 30 #[.bool b, .slice pb l.length qb, .slice ob d.length rb]) ∧ Hid (Below w.heap.size w wr)) (fun _ i _ => n - (intOf i).toNat)
  case atStart => exact ⟨0, [], _, _, Nat.zero_le _, rfl, rfl, Lib.hid rfl, HV1, HX1, HB1⟩
  case round =>
    obtain ⟨k, ys, av, cv, hk, rfl, rfl, HM, HV, HX, HB⟩ := hrel
    by_cases hlt : k < n
    · obtain ⟨rfl, hbl⟩ := HA.out (by omega)
      have hk2 : k < qs.length := by have := HN.out; omega
      have hqat := (HC.out k _ (qs_at hk2)).below hbl HB.out
      have hcall := HK.out k hlt
      obtain ⟨X, hX⟩ : ∃ X, X = zs.getD k 0 := ⟨_, rfl⟩
      rw [← hX] at hcall
      have HXX := Lib.hid hX
      unfold RAnsO at hcall
      generalize qs.getD k default = q at *
      obtain ⟨s, l1, d1⟩ := q
      obtain ⟨p, c, p', c', h0, h1, h2, g1, g2⟩ := hqat
      dsimp only at h0 h1 h2 g1 g2 hcall
      have hyl : ys.length = k := by
        have := congrArg List.length HM.out
        simp only [List.length_map, List.length_take] at this
        have := HZ.out; omega
      have HYL := Lib.hid hyl
      have x0 := HX.out.cell 0 _ rfl
      have x1 := HX.out.cell 1 _ rfl
      have x2 := HX.out.cell 2 _ rfl
      have hwl := HX.out.lt
      have G1 := Lib.hid g1
      have G2 := Lib.hid g2
      clear g1 g2 hk2 hX hyl HA HC HK
      go_wp2_with fail
      have al : Below wr.heap.size wr (wr.alloc (.cells #[.bool s, .slice p l1.length c, .slice p' d1.length c'] 30)) := (Below.refl _ _).alloc (Nat.le_refl _) _
      refine (hcall _ _ _ _ _ (G1.out.below al) (G2.out.below al) (then_below HB.out al)).mono ?_
      rintro e w2 ⟨a3, c3, o3, r3, rfl, f, f', tw, rr⟩
      have g := f.reads
      have g' := f'.reads
      have rb := then_below al rr
      have HB2 := Lib.hid (then_below HB.out rb)
      have HX2 := Lib.hid (HX.out.under rb)
      have HV2 := Lib.hid (HV.out.below rb)
      have HL2 := Lib.hid (HV.out.2.snoc (z := (qr X, (a3, c3), (o3, r3))) rb HX.out.lt ⟨f.mono al.size, f'.mono al.size⟩ tw)
      clear al rr rb hcall h0 h1 h2 x0 x1 x2 HB HX HV G1 G2 f f' tw
      have hs2 : w.heap.size + 1 ≤ w2.heap.size := HX2.out.lt
      go_wp2_with ((at_builtin; go_loud (refine wpList_append_rat hi hz0 hz1 hz2 w2 rfl _ _ rfl (w.heap.size + 1) (.slice av k cv) ys (qr X, (a3, c3), (o3, r3)) rfl rfl HV2.out.1 ⟨g, g'⟩ hs2 (by have := HYL.out; omega) ?_); intro v' w3 hV3 hgrow; have hap := rat_append HV2.out.1 hs2 hgrow; have hx3 := grown_off (HX2.out.alloc _) hgrow (fun e => by have := (HV2.out.1.lt e).1; omega); replace hV3 := VFO.grow HV2.out.1 HL2.out hgrow hV3; obtain ⟨av', cv', ev'⟩ := hV3.form; rw [List.length_append, List.length_singleton, HYL.out] at ev'; subst ev'; have HV3 := Lib.hid hV3; have HX3 := Lib.hid hx3; have HB3 := Lib.hid (HB2.out.trans (hap.2.1.mono (Nat.le_succ _))); clear hV3 hx3 hap hgrow HV2 HL2 HX2 HB2))
      go_roundw
      case rel => exact ⟨k + 1, ys ++ [(qr X, (a3, c3), (o3, r3))], av', cv', by omega, by simp, rfl, Lib.hid (take_qr (by have := HZ.out; omega) HM.out (by rw [HXX.out])), HV3, HX3, HB3⟩
      case measure => simp [intOf]; omega
    · obtain rfl : k = n := by omega
      clear HA HC HK
      go_wp2
      go_ret
      have hm := HM.out
      rw [List.take_of_length_le (by have := HZ.out; omega)] at hm
      exact ⟨_, _, rfl, HV.out, hm, HB.out⟩
end
section
open Go Go.Proofs Go.RowKit Go.Shelf Nu
set_option linter.unusedVariables false
set_option linter.unusedSimpArgs false
set_option maxRecDepth 100000
attribute [local go_sem] Oper.semAt_some
theorem all_next {α : Type} {f : α → Bool} {l : List α} {k : Nat} {x : α} (hx : l[k]? = some x) (h : (l.take k).all f = true) (hf : f x = true) : (l.take (k + 1)).all f = true := by
 rw [List.take_add_one, hx, List.all_append, h]
 simp [hf]
theorem all_no {α : Type} {f : α → Bool} {l : List α} {k : Nat} {x : α} (hx : l[k]? = some x) (hf : f x = false) : l.all f = false := by
 rw [List.all_eq_false]
 exact ⟨x, List.mem_of_getElem? hx, by simp [hf]⟩
theorem all_end {α : Type} {f : α → Bool} {l : List α} {k : Nat} (h : (l.take k).all f = true) (hk : l.length ≤ k) : l.all f = true := by rwa [List.take_of_length_le hk] at h
theorem Mem.two {w W : World} {bs : List (Nat × TypeId × List Value)} {rs : List (Value × List Nat)} {x y : Value × List Nat} (M : Mem w bs rs W) (e0 : rs[0]? = some x) (e1 : rs[1]? = some y) : Mem w bs [x, y] W :=
 ⟨M.1, M.2.1, M.2.2.1, fun k v l h => by
  match k with
  | 0 => simp at h; exact M.2.2.2 0 v l (e0.trans (by rw [h]))
  | 1 => simp at h; exact M.2.2.2 1 v l (e1.trans (by rw [h]))
  | k + 2 => simp at h⟩
theorem rv_check {w : World} {a : Option Addr} {n cap : Nat} {qs : List Qr} (R : Bool) (hR : R = qs.all qok) (h : VReads w (.slice a n cap) qs) (hq : qrows qs) :
  Calls Tryz.prog 13 #[.slice a n cap] w fun e w' => e = .returned (.bool R) ∧ Below w.heap.size w w' := by
 obtain ⟨hn, hcap, b, off, ha, hc⟩ := h.addr
 have HN := Lib.hid hn
 have HR := Lib.hid hR
 have HQ := Lib.hid hq
 have HC := Lib.hid hc
 have HA := Lib.hid ha
 have hn1 : n ≤ 65536 := hn ▸ hq.2
 clear hn hR hq hc h hcap ha
 have k0 : ((0 : Nat) : Int) = 0 := rfl
 go_enter Tryz.func13, Tryz.ntmps13
 go_wp2
 go_loopg [3] n (fun g s wr => ∃ k : Nat, k + g = n ∧ s = .int .i64 (k : Int) ∧ Hid ((qs.take k).all qok = true) ∧ Hid (Below w.heap.size w wr))
 case atStart => exact ⟨0, by omega, rfl, Lib.hid (by simp), Lib.hid (Below.refl _ _)⟩
 case round =>
  clear k0
  obtain ⟨k, hk, rfl, HS, HB⟩ := hrel
  by_cases hlt : k < n
  · have n0 : (0 : Int) ≤ (k : Int) := by omega
    have l0 : (k : Int) < (n : Int) := by omega
    have w0 : IntKind.i64.wrap ((k : Int) + 1) = ((k + 1 : Nat) : Int) := IntWalk.i64_in _ (by omega)
    obtain ⟨rfl, hbl⟩ := HA.out (by omega)
    obtain ⟨q, hqk⟩ : ∃ q, qs[k]? = some q := ⟨_, List.getElem?_eq_getElem (by have := HN.out; omega)⟩
    have hqat := (HC.out k q hqk).below hbl HB.out
    have hfit := HQ.out.1 q (List.mem_of_getElem? hqk)
    have HK := Lib.hid hqk
    obtain ⟨s, l, d⟩ := q
    obtain ⟨p, c, p', c', h0, h1, h2, g1, g2⟩ := hqat
    dsimp only at h0 h1 h2 g1 g2
    obtain ⟨T, hT⟩ : ∃ T, T = qok (s, l, d) := ⟨_, rfl⟩
    have kc := Lib.hid (show Calls Tryz.prog 53 #[.agg #[.bool s, .slice p l.length c, .slice p' d.length c']] wr fun e w' => e = .returned (.bool T) ∧ Below wr.heap.size wr w' from hT ▸ rr_check (n := s) g1 g2 hfit.1.1 hfit.1.2 (Nat.le_trans hfit.2.1 (by omega)) (Nat.le_trans hfit.2.2 (by omega)))
    have HT := Lib.hid hT
    clear g1 g2 hfit hqk hT HA HC
    go_wp2_with fail
    refine kc.out.mono ?_
    rintro e w1 ⟨rfl, rr⟩
    have HB1 := Lib.hid (then_below HB.out rr)
    clear rr kc h0 h1 h2
    cases T with
    | false =>
     have h0 : R = false := by rw [HR.out]; exact all_no HK.out HT.out.symm
     subst h0
     go_wp2_with fail
     go_ret
     exact ⟨rfl, HB1.out⟩
    | true =>
     have HS2 := Lib.hid (all_next HK.out HS.out HT.out.symm)
     go_wp2_with fail
     go_roundg (n - (k + 1))
     case measure => omega
     case rel => exact ⟨k + 1, by omega, by first | rfl | simp, HS2, HB1⟩
  · have h0 : R = true := by rw [HR.out]; exact all_end HS.out (by have := HN.out; omega)
    have l0 : ¬ (k : Int) < (n : Int) := by omega
    subst h0
    clear HA HC
    go_wp2_with fail
    go_ret
    exact ⟨rfl, HB.out⟩
theorem same_lists {w : World} {v u : Value} {l : List Nat} (h1 : Reads w v l) (h2 : Reads w u l) (hl : l.length ≤ 100000) :
  Calls Tryz.prog 51 #[v, u] w fun e w' => e = .returned (.bool true) ∧ Below w.heap.size w w' := by
 refine (sameNat_any h1 h2 (by omega) (by omega)).mono ?_
 rintro e w' ⟨rfl, n, rfl⟩
 exact ⟨by simp, ⟨rfl, rfl, rfl, Nat.le_refl _, fun k hk => rfl⟩⟩
theorem sameRat_same {w : World} {p1 o1 p2 o2 : Option Addr} {q1 r1 q2 r2 : Nat} {n : Bool} {l d : List Nat} (b1 : l.length ≤ 80000) (b2 : d.length ≤ 80000) (g1 : Reads w (.slice p1 l.length q1) l) (g2 : Reads w (.slice o1 d.length r1) d) (g3 : Reads w (.slice p2 l.length q2) l) (g4 : Reads w (.slice o2 d.length r2) d) :
  Calls Tryz.prog 11 #[.agg #[.bool n, .slice p1 l.length q1, .slice o1 d.length r1], .agg #[.bool n, .slice p2 l.length q2, .slice o2 d.length r2]] w fun e w' => e = .returned (.bool true) ∧ Below w.heap.size w w' := by
 have ki := fun (W : World) (g1 : Reads W (.slice p1 l.length q1) l) (g3 : Reads W (.slice p2 l.length q2) l) => sameInt_any (n1 := n) (n2 := n) (R := true) g1 g3 (by omega) (by omega) (by simp)
 have kn := fun (W : World) (g2 : Reads W (.slice o1 d.length r1) d) (g4 : Reads W (.slice o2 d.length r2) d) => same_lists g2 g4 (by omega)
 have M : Mem w [(w.heap.size + 1, 30, [.bool n, .slice p2 l.length q2, .slice o2 d.length r2]), (w.heap.size, 30, [.bool n, .slice p1 l.length q1, .slice o1 d.length r1])] [(.slice o2 d.length r2, d), (.slice p2 l.length q2, l), (.slice o1 d.length r1, d), (.slice p1 l.length q1, l)]
   ((w.alloc (.cells #[.bool n, .slice p1 l.length q1, .slice o1 d.length r1] 30)).alloc (.cells #[.bool n, .slice p2 l.length q2, .slice o2 d.length r2] 30)) := by
  have M := (((((Mem.start w).add g1).add g2).add g3).add g4).new 30 [.bool n, .slice p1 l.length q1, .slice o1 d.length r1] |>.new 30 [.bool n, .slice p2 l.length q2, .slice o2 d.length r2]
  simpa only [World.size_alloc] using M
 have KI := Lib.hid ki
 have KN := Lib.hid kn
 clear b1 b2 g1 g2 g3 g4 ki kn
 go_enter Tryz.func11, Tryz.ntmps11
 have z0 := M.cell 0 rfl 0 rfl; have z1 := M.cell 0 rfl 1 rfl; have z3 := M.cell 1 rfl 0 rfl; have z4 := M.cell 1 rfl 1 rfl
 go_wp2_with fail
 clear z0 z1 z3 z4
 refine (KI.out _ (M.get 3 rfl) (M.get 1 rfl)).mono ?_
 rintro e w1 ⟨rfl, rr⟩
 have M' := M.up rr; clear M rr; have M := M'; clear M'
 have z0 := M.cell 0 rfl 2 rfl; have z1 := M.cell 1 rfl 2 rfl
 go_wp2_with fail
 refine (KN.out _ (M.get 2 rfl) (M.get 0 rfl)).mono ?_
 rintro e w2 ⟨rfl, rr⟩
 have M' := M.up rr; clear M rr
 go_wp2_with fail
 go_ret
 exact ⟨rfl, M'.below⟩
theorem sr_rows {w : World} {a1 a2 : Option Addr} {n c1 c2 : Nat} {qs : List Qr} (h1 : VReads w (.slice a1 n c1) qs) (h2 : VReads w (.slice a2 n c2) qs) (hn : n ≤ 65536) (hq : ∀ q ∈ qs, q.2.1.length ≤ 80000 ∧ q.2.2.length ≤ 80000) :
  Calls Tryz.prog 24 #[.slice a1 n c1, .slice a2 n c2] w fun e w' => e = .returned (.bool true) ∧ Below w.heap.size w w' := by
 have hl := h1.addr.1
 obtain ⟨b1, o1, f, ha1, hf⟩ := h1.fn
 obtain ⟨b2, o2, g, ha2, hg⟩ := h2.fn
 have hd1 := h1.addr.2.1
 have hd2 := h2.addr.2.1
 have HF := Lib.hid hf
 have HG := Lib.hid hg
 have HA1 := Lib.hid ha1
 have HA2 := Lib.hid ha2
 have HQ := Lib.hid hq
 have HL := Lib.hid hl
 clear h1 h2 hf hg ha1 ha2 hq hl
 go_enter Tryz.func24, Tryz.ntmps24
 go_wp2
 go_loopg [5] n (fun g s wr => ∃ k : Nat, k + g = n ∧ s = .int .i64 (k : Int) ∧ Hid (Below w.heap.size w wr))
 case atStart => exact ⟨0, by omega, rfl, Lib.hid (Below.refl _ _)⟩
 case round =>
  obtain ⟨k, hk, rfl, HB⟩ := hrel
  by_cases hlt : k < n
  · obtain ⟨rfl, hb1⟩ := HA1.out (by omega)
    obtain ⟨rfl, hb2⟩ := HA2.out (by omega)
    have hf := HF.out k hlt
    have hg := HG.out k hlt
    have n0 : (0 : Int) ≤ (k : Int) := by omega
    have l0 : (k : Int) < (n : Int) := by omega
    have w0 : IntKind.i64.wrap ((k : Int) + 1) = ((k + 1 : Nat) : Int) := IntWalk.i64_in _ (by omega)
    generalize f k = z1 at hf
    generalize g k = z2 at hg
    have hm := HQ.out _ (qs_mem (qs := qs) (j := k) (by have := HL.out; omega))
    generalize qs.getD k default = q0 at *
    obtain ⟨⟨s, l, d⟩, ⟨p, c⟩, p', c'⟩ := z1
    obtain ⟨⟨s2, l2, d2⟩, ⟨q, e⟩, q', e'⟩ := z2
    have ez1 := hf.1
    have ez2 := hg.1
    dsimp only at ez1 ez2
    subst ez1
    simp only [Prod.mk.injEq] at ez2
    obtain ⟨ey1, ey2, ey3⟩ := ez2
    have ey1 := ey1.symm
    have ey2 := ey2.symm
    have ey3 := ey3.symm
    subst ey1 ey2 ey3
    dsimp only at hm
    have KS := Lib.hid (show ∀ w5, Below w.heap.size w w5 → ((fun w' : World => w'.cell? ⟨b1, o1 + k * 3, none⟩ = some (.bool s) ∧ w'.cell? ⟨b1, o1 + k * 3 + 1, none⟩ = some (.slice p l.length c) ∧ w'.cell? ⟨b1, o1 + k * 3 + 2, none⟩ = some (.slice p' d.length c') ∧ w'.cell? ⟨b2, o2 + k * 3, none⟩ = some (.bool s) ∧ w'.cell? ⟨b2, o2 + k * 3 + 1, none⟩ = some (.slice q l.length e) ∧ w'.cell? ⟨b2, o2 + k * 3 + 2, none⟩ = some (.slice q' d.length e')) w5) ∧
      Calls Tryz.prog 11 #[.agg #[.bool s, .slice p l.length c, .slice p' d.length c'], .agg #[.bool s, .slice q l.length e, .slice q' d.length e']] w5 fun e w' => e = .returned (.bool true) ∧ Below w.heap.size w w' from fun w5 b5 => by
     obtain ⟨r0, r1, r2⟩ := hf.2.1.below hb1 b5
     obtain ⟨t0, t1, t2⟩ := hg.2.1.below hb2 b5
     have y1 := hf.2.2.below b5
     have y2 := hg.2.2.below b5
     exact ⟨⟨r0, r1, r2, t0, t1, t2⟩, (sameRat_same hm.1 hm.2 y1.1 y1.2 y2.1 y2.2).mono fun e w' h => ⟨h.1, then_below b5 h.2⟩⟩)
    have HB0 := Lib.hid (show Below w.heap.size w wr.drew from ⟨HB.out.os, HB.out.tape, HB.out.output, HB.out.size, HB.out.block⟩)
    clear hf hg hm HF HG HA1 HA2 HQ
    go_wp2
    go_region_held3 (fun w' => w'.cell? ⟨b1, o1 + k * 3, none⟩ = some (.bool s) ∧ w'.cell? ⟨b1, o1 + k * 3 + 1, none⟩ = some (.slice p l.length c) ∧ w'.cell? ⟨b1, o1 + k * 3 + 2, none⟩ = some (.slice p' d.length c') ∧ w'.cell? ⟨b2, o2 + k * 3, none⟩ = some (.bool s) ∧ w'.cell? ⟨b2, o2 + k * 3 + 1, none⟩ = some (.slice q l.length e) ∧ w'.cell? ⟨b2, o2 + k * 3 + 2, none⟩ = some (.slice q' d.length e'))
     (first
      | exact (KS.out _ HB1.out).1
      | exact (KS.out _ HB0.out).1
      | fail)
     (first
      | (go_at_call 11; (with_reducible refine (KS.out _ HB0.out).2.mono ?_); rintro e w1 ⟨rfl, q1⟩; have HB1 := Lib.hid q1; clear q1)
      | fail)
    go_wp2
    go_roundg (n - (k + 1))
    case measure => omega
    case rel => exact ⟨k + 1, by omega, by first | rfl | simp, Lib.hid (by first | exact HB1.out | exact ⟨HB1.out.os, HB1.out.tape, HB1.out.output, HB1.out.size, HB1.out.block⟩)⟩
  · obtain rfl : k = n := by omega
    have l0 : ¬ (k : Int) < (k : Int) := by omega
    clear HF HG HA1 HA2 HQ
    go_wp2
    go_ret
    exact ⟨rfl, HB.out⟩
theorem rv_add_no {w : World} {a1 a2 : Option Addr} {n1 n2 c1 c2 : Nat} {q1 q2 : List Qr} {b : Bool} {pb ob : Option Addr} {lb qb mb rb : Nat} (hR : (decide (n1 = n2) && (q1.all qok && q2.all qok)) = false) (h1 : VReads w (.slice a1 n1 c1) q1) (h2 : VReads w (.slice a2 n2 c2) q2) (f1 : qrows q1) (f2 : qrows q2) :
   Calls Tryz.prog 23 #[.slice a1 n1 c1, .slice a2 n2 c2, .agg #[.bool b, .slice pb lb qb, .slice ob mb rb]] w fun e w' => e = .returned (.tuple #[.slice none 0 0, .int .i64 1]) ∧ Below w.heap.size w w' := by
 have k1 := Lib.hid (fun (R : Bool) (hR : R = q1.all qok) (W : World) (r : Below w.heap.size w W) => rv_check R hR (h1.below r) f1)
 have k2 := Lib.hid (fun (R : Bool) (hR : R = q2.all qok) (W : World) (r : Below w.heap.size w W) => rv_check R hR (h2.below r) f2)
 have B0 := Lib.hid (show Below w.heap.size w (w.alloc (.cells #[.bool b, .slice pb lb qb, .slice ob mb rb] 30)) from (Below.refl _ _).alloc (Nat.le_refl _) _)
 obtain ⟨R1, hR1⟩ : ∃ R, R = q1.all qok := ⟨_, rfl⟩
 obtain ⟨R2, hR2⟩ : ∃ R, R = q2.all qok := ⟨_, rfl⟩
 rw [← hR1, ← hR2] at hR
 have HR1 := Lib.hid hR1
 have HR2 := Lib.hid hR2
 clear h1 h2 f1 f2 hR1 hR2
 by_cases hn : n1 = n2
 · have enn : ((n1 : Int) != (n2 : Int)) = false := by rw [hn]; simp
   have HN := Lib.hid hn
   cases R1 with
   | false =>
    clear hR hn
    go_enter Tryz.func23, Tryz.ntmps23
    go_wp2_with fail
    refine (k1.out false HR1.out _ B0.out).mono ?_
    rintro e w1 ⟨rfl, r⟩
    have B1 := Lib.hid (then_below B0.out r)
    clear r
    go_wp2_with fail
    go_ret2
    exact ⟨rfl, B1.out⟩
   | true =>
    have h2 : R2 = false := by simpa [hn] using hR
    subst h2
    clear hR hn
    go_enter Tryz.func23, Tryz.ntmps23
    go_wp2_with fail
    refine (k1.out true HR1.out _ B0.out).mono ?_
    rintro e w1 ⟨rfl, r⟩
    have B1 := Lib.hid (then_below B0.out r)
    clear r
    go_wp2_with fail
    refine (k2.out false HR2.out _ B1.out).mono ?_
    rintro e w1 ⟨rfl, r⟩
    have B1 := Lib.hid (then_below B1.out r)
    clear r
    go_wp2_with fail
    go_ret2
    exact ⟨rfl, B1.out⟩
 · have enn : ((n1 : Int) != (n2 : Int)) = true := bne_iff_ne.2 (by omega)
   clear hR hn
   go_enter Tryz.func23, Tryz.ntmps23
   go_wp2_with fail
   go_ret2
   exact ⟨rfl, B0.out⟩
theorem rv_scale {w : World} {a : Option Addr} {n cap : Nat} {qs : List Qr} {b : Bool} {l d : List Nat} {T : Rat} {pb ob : Option Addr} {qb rb : Nat} (h : VReads w (.slice a n cap) qs) (hq : qrows qs) (hT : RIs b l d T) (b1 : l.length ≤ 9999) (b2 : d.length ≤ 9999) (g5 : Reads w (.slice pb l.length qb) l) (g6 : Reads w (.slice ob d.length rb) d) :
    Calls Tryz.prog 25 #[.slice a n cap, .agg #[.bool b, .slice pb l.length qb, .slice ob d.length rb]] w fun e w' => ∃ v, e = .returned v ∧ VFresh w' w.heap.size v ((scl T (qs.map qval)).map qr) ∧ Below w.heap.size w w' := by
  obtain ⟨i0, hi, hz0, hz1, hz2⟩ := info_parts info_rat
  obtain ⟨hn, hcap, bb, off, ha, hc⟩ := h.addr
  have hn1 : n ≤ 65536 := hn ▸ hq.2
  have hzl : (scl T (qs.map qval)).length = n := by simp [scl, hn]
  have hk : ∀ (j : Nat) (_ : j < n) (W : World) (_ : Below w.heap.size w W) (p o : Option Addr) (c e : Nat) (_ : Reads w (.slice p (qs.getD j default).2.1.length c) (qs.getD j default).2.1) (_ : Reads w (.slice o (qs.getD j default).2.2.length e) (qs.getD j default).2.2),
      Calls Tryz.prog 49 #[.agg #[.bool (qs.getD j default).1, .slice p (qs.getD j default).2.1.length c, .slice o (qs.getD j default).2.2.length e], .agg #[.bool b, .slice pb l.length qb, .slice ob d.length rb]] W (RAns W ((scl T (qs.map qval)).getD j 0)) := by
    intro j hj W r p o c e g1 g2
    have hm := qs_mem (qs := qs) (j := j) (by omega)
    rw [scl_at (by omega)]
    have hf := hq.1 _ hm
    exact rr_mul (qr_can _) rfl hf.is hT hf.2.1 hf.2.2 b1 b2 (g1.below r) (g2.below r) (g5.below r) (g6.below r)
  have HK := Lib.hid hk
  have HN := Lib.hid hn
  have HC1 := Lib.hid hc
  have HA1 := Lib.hid ha
  have HZ := Lib.hid hzl
  generalize scl T (qs.map qval) = zs at *
  have HX0 := Lib.hid (BoxN.new w 30 #[.bool b, .slice pb l.length qb, .slice ob d.length rb])
  have HB0 := Lib.hid (show Below w.heap.size w (w.alloc (.cells #[.bool b, .slice pb l.length qb, .slice ob d.length rb] 30)) from (Below.refl _ _).alloc (Nat.le_refl _) _)
  have HV0 := Lib.hid (VF.nil (w.alloc (.cells #[.bool b, .slice pb l.length qb, .slice ob d.length rb] 30)) (w.heap.size + 1))
  clear h hq hT b1 b2 g5 g6 hn hc ha hzl hk
  go_enter Tryz.func25, Tryz.ntmps25
  go_wp2
  go_loopg [5, 6] n (fun g v i wr => ∃ (k : Nat) (ys : List Zr) (av : Option Addr) (cv : Nat), k + g = n ∧ v = .slice av k cv ∧ i = .int .i64 k ∧ Hid (ys.map (·.1) = (zs.take k).map qr) ∧ Hid (VF wr (w.heap.size + 1) (.slice av k cv) ys) ∧ Hid (BoxN wr w.heap.size 30 #[.bool b, .slice pb l.length qb, .slice ob d.length rb]) ∧ Hid (Below w.heap.size w wr))
  case atStart => exact ⟨0, [], none, 0, by omega, rfl, rfl, Lib.hid rfl, HV0, HX0, HB0⟩
  case round =>
    clear HV0 HX0 HB0
    obtain ⟨k, ys, av, cv, hk, rfl, rfl, HM, HV, HX, HB⟩ := hrel
    have HYL := Lib.hid (show ys.length = k by
      have := congrArg List.length HM.out
      simp only [List.length_map, List.length_take] at this
      have := HZ.out
      omega)
    by_cases hlt : k < n
    · obtain ⟨rfl, hb1⟩ := HA1.out (by omega)
      have hk2 : k < qs.length := by have := HN.out; omega
      have hqat := HC1.out k _ (qs_at hk2)
      have hcall := HK.out k hlt
      obtain ⟨X, hX⟩ : ∃ X, X = zs.getD k 0 := ⟨_, rfl⟩
      rw [← hX] at hcall
      have HXX := Lib.hid hX
      unfold RAns at hcall
      generalize qs.getD k default = q at *
      obtain ⟨s, l1, d1⟩ := q
      obtain ⟨p, c, p', c', u0, u1, u2, g1, g2⟩ := hqat
      dsimp only at u0 u1 u2 g1 g2 hcall
      have HCALL := Lib.hid (fun (W : World) (r : Below w.heap.size w W) => hcall W r _ _ _ _ g1 g2)
      have n0 : (0 : Int) ≤ (k : Int) := by omega
      have l0 : (k : Int) < (n : Int) := by omega
      have w0 : IntKind.i64.wrap ((k : Int) + 1) = ((k + 1 : Nat) : Int) := IntWalk.i64_in _ (by omega)
      have dr : Below wr.heap.size wr wr.drew := ⟨rfl, rfl, rfl, Nat.le_refl _, fun _ _ => rfl⟩
      have HVd := Lib.hid (HV.out.below dr)
      have HXd := Lib.hid (HX.out.under dr)
      have HBd := Lib.hid (then_below HB.out dr)
      clear hk2 hX hcall g1 g2 HA1 HC1 HK dr HV HX HB
      go_wp2_with fail
      refine wp_region_held (S := (fun V => BoxN V w.heap.size 30 #[.bool b, .slice pb l.length qb, .slice ob d.length rb] ∧ Below w.heap.size w V)) (by kernel_rfl) ?_
      have hS0 : (fun V => BoxN V w.heap.size 30 #[.bool b, .slice pb l.length qb, .slice ob d.length rb] ∧ Below w.heap.size w V) wr.drew := ⟨HXd.out, HBd.out⟩
      refine wtk 0 (.slice av k cv) rfl (fun _ _ _ h => h) (Or.inl ⟨by rfl, fun W3 hS => by go_simp⟩) hS0 ?_
      try simp only [Act.put, List.setIfInBounds_toArray, List.set_cons_zero, List.set_cons_succ]
      refine wtk 1 (.slice (some ⟨bb, off, none⟩) n cap) rfl (fun _ _ _ h => h) (Or.inl ⟨by rfl, fun W3 hS => by go_simp⟩) hS0 ?_
      try simp only [Act.put, List.setIfInBounds_toArray, List.set_cons_zero, List.set_cons_succ]
      refine wtk 2 (.int .i64 (k : Int)) rfl (fun _ _ _ h => h) (Or.inl ⟨by rfl, fun W3 hS => by go_simp⟩) hS0 ?_
      try simp only [Act.put, List.setIfInBounds_toArray, List.set_cons_zero, List.set_cons_succ]
      refine wtk 3 (.pointer (some ⟨bb, off + k * 3, none⟩)) rfl (fun _ _ _ h => h) (Or.inl ⟨by rfl, fun W3 hS => by go_simp⟩) hS0 ?_
      try simp only [Act.put, List.setIfInBounds_toArray, List.set_cons_zero, List.set_cons_succ]
      refine wtk 4 (.agg #[.bool s, .slice p l1.length c, .slice p' d1.length c']) rfl (fun _ _ _ h => h) (Or.inl ⟨by rfl, fun W3 hS => by have c0 := (hS.2.cell (p := ⟨bb, off + k * 3, none⟩) hb1).trans u0; have c1 := (hS.2.cell (p := ⟨bb, off + k * 3 + 1, none⟩) hb1).trans u1; have c2 := (hS.2.cell (p := ⟨bb, off + k * 3 + 2, none⟩) hb1).trans u2; go_simp⟩) hS0 ?_
      try simp only [Act.put, List.setIfInBounds_toArray, List.set_cons_zero, List.set_cons_succ]
      refine wtk 5 (.agg #[.bool b, .slice pb l.length qb, .slice ob d.length rb]) rfl (fun _ _ _ h => h) (Or.inl ⟨by rfl, fun W3 hS => by have c0 := hS.1.cell 0 _ rfl; have c1 := hS.1.cell 1 _ rfl; have c2 := hS.1.cell 2 _ rfl; go_simp⟩) hS0 ?_
      try simp only [Act.put, List.setIfInBounds_toArray, List.set_cons_zero, List.set_cons_succ]
      clear hS0 u0 u1 u2
      refine one_op 6 rfl (fun K6 hK => ?_)
      go_simp
      refine (HCALL.out _ HBd.out).mono ?_
      rintro ex V1 ⟨a3, c3, o3, r3, rfl, g3, g3', rr⟩
      have HXb := Lib.hid (HXd.out.under rr)
      have HBb := Lib.hid (then_below HBd.out rr)
      have HVb := Lib.hid (HVd.out.below rr)
      have G3 := Lib.hid (And.intro g3 g3')
      clear rr g3 g3' HXd HBd HVd HCALL
      refine hK _ _ ⟨⟨HXb.out, HBb.out⟩, ?_⟩
      clear hK K6
      refine one_op 7 rfl (fun K7 hK => ?_)
      go_simp
      refine hK _ _ ⟨⟨HXb.out.alloc _, HBb.out.alloc (HBb.out.size) _⟩, ?_⟩
      clear hK K7
      refine one_op 8 rfl (fun K8 hK => ?_)
      rw [if_pos (by rfl)]
      refine wp_append_rat hi hz0 hz1 hz2 V1 _ _ rfl (w.heap.size + 1) (.slice av k cv) ys (qr X, (a3, c3), (o3, r3)) rfl rfl HVb.out ⟨G3.out.1, G3.out.2⟩ HXb.out.lt (by have := HYL.out; omega) ?_
      intro v' w3 hV3 hgrow
      have hap := rat_append HVb.out HXb.out.lt hgrow
      have hx3 := grown_off (HXb.out.alloc _) hgrow (fun e => by have := (HVb.out.lt e).1; omega)
      obtain ⟨av', cv', ev'⟩ := hV3.form
      rw [List.length_append, List.length_singleton, HYL.out] at ev'
      subst ev'
      have HV3 := Lib.hid hV3
      have HX3 := Lib.hid hx3
      have HB3 := Lib.hid (HBb.out.trans (hap.2.1.mono (Nat.le_succ _)))
      clear hV3 hx3 hap hgrow HVb HXb HBb G3
      refine hK _ _ ⟨⟨HX3.out, HB3.out⟩, ?_⟩
      clear hK K8
      refine one_op 9 rfl (fun K9 hK => ?_)
      go_simp
      refine hK _ _ ⟨⟨HX3.out, HB3.out⟩, ?_⟩
      clear hK K9
      refine wdn ?_
      go_wp2
      go_roundg (n - (k + 1))
      case measure => omega
      case rel => exact ⟨k + 1, ys ++ [(qr X, (a3, c3), (o3, r3))], av', cv', by omega, by first | rfl | simp, by first | rfl | simp, Lib.hid (take_qr (by have := HZ.out; omega) HM.out (by rw [HXX.out])), HV3, HX3, HB3⟩
    · obtain rfl : k = n := by omega
      have l0 : ¬ (k : Int) < (k : Int) := by omega
      clear HC1 HA1 HK
      go_wp2
      go_ret
      have hm := HM.out
      rw [List.take_of_length_le (by have := HZ.out; omega)] at hm
      exact ⟨_, rfl, by have := HV.out.fresh.mono (Nat.le_succ w.heap.size); rw [hm] at this; exact this, HB.out⟩
theorem rv_add {w : World} {a1 a2 : Option Addr} {n c1 c2 : Nat} {xs ys : List Rat} {T : Rat} {pb ob : Option Addr} {qb rb : Nat} (h1 : VReads w (.slice a1 n c1) (xs.map qr)) (h2 : VReads w (.slice a2 n c2) (ys.map qr)) (g5 : Reads w (.slice pb (qr T).2.1.length qb) (qr T).2.1) (g6 : Reads w (.slice ob (qr T).2.2.length rb) (qr T).2.2) (hwx : ∀ x ∈ xs, wt x ≤ 3000) (hwy : ∀ y ∈ ys, wt y ≤ 3000) (hwT : wt T ≤ 3000) (hn : n ≤ 60000) :
    Calls Tryz.prog 23 #[.slice a1 n c1, .slice a2 n c2, .agg #[.bool (qr T).1, .slice pb (qr T).2.1.length qb, .slice ob (qr T).2.2.length rb]] w fun e w' => ∃ v, e = .returned (.tuple #[v, .int .i64 0]) ∧ VFresh w' w.heap.size v ((axpy T xs ys).map qr) ∧ Below w.heap.size w w' := by
  obtain ⟨i0, hi, hz0, hz1, hz2⟩ := info_parts info_rat
  have hx : xs.length = n := by have := h1.addr.1; simpa using this.symm
  have hy : ys.length = n := by have := h2.addr.1; simpa using this.symm
  have fx := fit_each (xs := xs) (fun x hx => Nat.le_trans (hwx x hx) (by omega))
  have fy := fit_each (xs := ys) (fun x hx => Nat.le_trans (hwy x hx) (by omega))
  have fT := fit_qr (X := T) (by omega)
  have k1 := Lib.hid (fun (W : World) (r : Below w.heap.size w W) => rv_check true (by rw [all_qok_qr]) (h1.below r) ⟨fx, by simp; omega⟩)
  have k2 := Lib.hid (fun (W : World) (r : Below w.heap.size w W) => rv_check true (by rw [all_qok_qr]) (h2.below r) ⟨fy, by simp; omega⟩)
  have k3' := fun (W : World) (r : Below w.heap.size w W) => rr_check (n := (qr T).1) (g5.below r) (g6.below r) fT.1.1 fT.1.2 (Nat.le_trans fT.2.1 (by omega)) (Nat.le_trans fT.2.2 (by omega))
  rw [show rchk (qr T).1 (qr T).2.1 (qr T).2.2 = true from (qr_can T).chk] at k3'
  have k3 := Lib.hid k3'
  have hzl : (axpy T xs ys).length = n := by simp [axpy, hx, hy]
  obtain ⟨-, hd1, b1, o1, hA1, hC1⟩ := h1.addr
  obtain ⟨-, hd2, b2, o2, hA2, hC2⟩ := h2.addr
  have hk : ∀ (j : Nat) (_ : j < n), ∃ (X Y : Rat), (xs.map qr)[j]? = some (qr X) ∧ (ys.map qr)[j]? = some (qr Y) ∧ (axpy T xs ys).getD j 0 = X + Y * T ∧ wt X ≤ 3000 ∧ wt Y ≤ 3000 := by
    intro j hj
    have e1 : xs[j]? = some (xs.getD j 0) := by rw [List.getD_eq_getElem?_getD, List.getElem?_eq_getElem (by omega)]; rfl
    have e2 : ys[j]? = some (ys.getD j 0) := by rw [List.getD_eq_getElem?_getD, List.getElem?_eq_getElem (by omega)]; rfl
    exact ⟨xs.getD j 0, ys.getD j 0, by rw [List.getElem?_map, e1]; rfl, by rw [List.getElem?_map, e2]; rfl, axpy_at (by omega) (by omega), hwx _ (at_mem (by omega)), hwy _ (at_mem (by omega))⟩
  have HK := Lib.hid hk
  have HC1 := Lib.hid hC1
  have HC2 := Lib.hid hC2
  have HA1 := Lib.hid hA1
  have HA2 := Lib.hid hA2
  have HZ := Lib.hid hzl
  have G5 := Lib.hid g5
  have G6 := Lib.hid g6
  have WT := Lib.hid hwT
  have FT := Lib.hid fT
  have enn : ((n : Int) != (n : Int)) = false := by simp
  obtain ⟨qT, hqT⟩ : ∃ q, q = qr T := ⟨_, rfl⟩
  have CT := Lib.hid (show RCan qT.1 qT.2.1 qT.2.2 T by rw [hqT]; exact qr_can T)
  rw [← hqT] at k3 G5 G6 FT ⊢
  clear hqT
  obtain ⟨sT, lT, dT⟩ := qT
  dsimp only at k3 G5 G6 FT CT ⊢
  generalize axpy T xs ys = zs at *
  have HX0 := Lib.hid (BoxN.new w 30 #[.bool sT, .slice pb lT.length qb, .slice ob dT.length rb])
  have HB0 := Lib.hid (show Below w.heap.size w (w.alloc (.cells #[.bool sT, .slice pb lT.length qb, .slice ob dT.length rb] 30)) from (Below.refl _ _).alloc (Nat.le_refl _) _)
  clear h1 h2 g5 g6 hwx hwy hwT hx hy fx fy fT k3' hzl hk hA1 hA2 hC1 hC2
  go_enter Tryz.func23, Tryz.ntmps23
  go_wp2_with fail
  refine (k1.out _ HB0.out).mono ?_
  rintro e w1 ⟨rfl, rr⟩
  have HX1 := Lib.hid (HX0.out.under rr)
  have HB1 := Lib.hid (then_below HB0.out rr)
  clear rr HX0 HB0
  go_wp2_with fail
  refine (k2.out _ HB1.out).mono ?_
  rintro e w2 ⟨rfl, rr⟩
  have HX2 := Lib.hid (HX1.out.under rr)
  have HB2 := Lib.hid (then_below HB1.out rr)
  clear rr HX1 HB1
  have z0 := HX2.out.cell 0 _ rfl
  have z1 := HX2.out.cell 1 _ rfl
  have z2 := HX2.out.cell 2 _ rfl
  go_wp2_with fail
  refine (k3.out _ HB2.out).mono ?_
  rintro e w3 ⟨rfl, rr⟩
  have HX0 := Lib.hid (HX2.out.under rr)
  have HB0 := Lib.hid (then_below HB2.out rr)
  have HV0 := Lib.hid (VF.nil w3 (w.heap.size + 1))
  clear rr HX2 HB2 z0 z1 z2 k1 k2 k3
  go_wp2_with fail
  go_loopg [8, 9] n (fun g v i wr => ∃ (k : Nat) (ys : List Zr) (av : Option Addr) (cv : Nat), k + g = n ∧ v = .slice av k cv ∧ i = .int .i64 k ∧ Hid (ys.map (·.1) = (zs.take k).map qr) ∧ Hid (VF wr (w.heap.size + 1) (.slice av k cv) ys) ∧ Hid (BoxN wr w.heap.size 30 #[.bool sT, .slice pb lT.length qb, .slice ob dT.length rb]) ∧ Hid (Below w.heap.size w wr))
  case atStart => exact ⟨0, [], none, 0, by omega, rfl, rfl, Lib.hid rfl, HV0, HX0, HB0⟩
  case round =>
    clear HV0 HX0 HB0
    obtain ⟨k, ys, av, cv, hk, rfl, rfl, HM, HV, HX, HB⟩ := hrel
    have HYL := Lib.hid (show ys.length = k by
      have := congrArg List.length HM.out
      simp only [List.length_map, List.length_take] at this
      have := HZ.out
      omega)
    by_cases hlt : k < n
    · obtain ⟨rfl, hb1⟩ := HA1.out (by omega)
      obtain ⟨rfl, hb2⟩ := HA2.out (by omega)
      obtain ⟨X, Y, eX, eY, eZ, wX, wY⟩ := HK.out k hlt
      have hxat := HC1.out k _ eX
      have hyat := HC2.out k _ eY
      obtain ⟨Z, hZ⟩ : ∃ Z, Z = zs.getD k 0 := ⟨_, rfl⟩
      have HXX := Lib.hid hZ
      rw [← hZ] at eZ
      have fX := fit_qr (X := X) (by omega)
      have fY := fit_qr (X := Y) (by omega)
      have wp := wt_mul Y T
      have wT := WT.out
      have fP := fit_qr (X := Y * T) (by omega)
      obtain ⟨p1, e1, p2, e2, u0, u1, u2, gx, gx'⟩ := hxat
      obtain ⟨q1, f1, q2, f2, v0, v1, v2, gy, gy'⟩ := hyat
      have KM := Lib.hid (fun (W : World) (r : Below w.heap.size w W) => rr_mul (qr_can (Y * T)) rfl (qr_can Y).is CT.out.is fY.2.1 fY.2.2 FT.out.2.1 FT.out.2.2 (gy.below r) (gy'.below r) (G5.out.below r) (G6.out.below r))
      have KA := Lib.hid (fun (W : World) (r : Below w.heap.size w W) {pa po : Option Addr} {qa qo : Nat} (r3 : Reads W (.slice pa (qr (Y * T)).2.1.length qa) (qr (Y * T)).2.1) (r4 : Reads W (.slice po (qr (Y * T)).2.2.length qo) (qr (Y * T)).2.2) => rr_add (qr_can Z) eZ (qr_can X).is (qr_can (Y * T)).is fX.2.1 fX.2.2 fP.2.1 fP.2.2 (gx.below r) (gx'.below r) r3 r4)
      clear gx gx' gy gy' eX eY eZ wX wY wp wT fX fY fP hZ
      generalize qr X = qx at *
      generalize qr Y = qy at *
      generalize qr (Y * T) = qp at *
      obtain ⟨s1, l1, d1⟩ := qx
      obtain ⟨s2, l2, d2⟩ := qy
      dsimp only at u0 u1 u2 v0 v1 v2 KM KA
      have n0 : (0 : Int) ≤ (k : Int) := by omega
      have l0 : (k : Int) < (n : Int) := by omega
      have w0 : IntKind.i64.wrap ((k : Int) + 1) = ((k + 1 : Nat) : Int) := IntWalk.i64_in _ (by omega)
      have dr : Below wr.heap.size wr wr.drew := ⟨rfl, rfl, rfl, Nat.le_refl _, fun _ _ => rfl⟩
      have HVd := Lib.hid (HV.out.below dr)
      have HXd := Lib.hid (HX.out.under dr)
      have HBd := Lib.hid (then_below HB.out dr)
      clear HA1 HA2 HC1 HC2 HK dr HV HX HB
      go_wp2_with fail
      refine wp_region_held (S := (fun V => BoxN V w.heap.size 30 #[.bool sT, .slice pb lT.length qb, .slice ob dT.length rb] ∧ Below w.heap.size w V)) (by kernel_rfl) ?_
      have hS0 : (fun V => BoxN V w.heap.size 30 #[.bool sT, .slice pb lT.length qb, .slice ob dT.length rb] ∧ Below w.heap.size w V) wr.drew := ⟨HXd.out, HBd.out⟩
      refine wtk 0 (.slice av k cv) rfl (fun _ _ _ h => h) (Or.inl ⟨by rfl, fun W3 hS => by go_simp⟩) hS0 ?_
      try simp only [Act.put, List.setIfInBounds_toArray, List.set_cons_zero, List.set_cons_succ]
      refine wtk 1 (.slice (some ⟨b1, o1, none⟩) n c1) rfl (fun _ _ _ h => h) (Or.inl ⟨by rfl, fun W3 hS => by go_simp⟩) hS0 ?_
      try simp only [Act.put, List.setIfInBounds_toArray, List.set_cons_zero, List.set_cons_succ]
      refine wtk 2 (.int .i64 (k : Int)) rfl (fun _ _ _ h => h) (Or.inl ⟨by rfl, fun W3 hS => by go_simp⟩) hS0 ?_
      try simp only [Act.put, List.setIfInBounds_toArray, List.set_cons_zero, List.set_cons_succ]
      refine wtk 3 (.pointer (some ⟨b1, o1 + k * 3, none⟩)) rfl (fun _ _ _ h => h) (Or.inl ⟨by rfl, fun W3 hS => by go_simp⟩) hS0 ?_
      try simp only [Act.put, List.setIfInBounds_toArray, List.set_cons_zero, List.set_cons_succ]
      refine wtk 4 (.agg #[.bool s1, .slice p1 l1.length e1, .slice p2 d1.length e2]) rfl (fun _ _ _ h => h) (Or.inl ⟨by rfl, fun W3 hS => by have c0 := (hS.2.cell (p := ⟨b1, o1 + k * 3, none⟩) hb1).trans u0; have c1 := (hS.2.cell (p := ⟨b1, o1 + k * 3 + 1, none⟩) hb1).trans u1; have c2 := (hS.2.cell (p := ⟨b1, o1 + k * 3 + 2, none⟩) hb1).trans u2; go_simp⟩) hS0 ?_
      try simp only [Act.put, List.setIfInBounds_toArray, List.set_cons_zero, List.set_cons_succ]
      refine wtk 5 (.slice (some ⟨b2, o2, none⟩) n c2) rfl (fun _ _ _ h => h) (Or.inl ⟨by rfl, fun W3 hS => by go_simp⟩) hS0 ?_
      try simp only [Act.put, List.setIfInBounds_toArray, List.set_cons_zero, List.set_cons_succ]
      refine wtk 6 (.int .i64 (k : Int)) rfl (fun _ _ _ h => h) (Or.inl ⟨by rfl, fun W3 hS => by go_simp⟩) hS0 ?_
      try simp only [Act.put, List.setIfInBounds_toArray, List.set_cons_zero, List.set_cons_succ]
      refine wtk 7 (.pointer (some ⟨b2, o2 + k * 3, none⟩)) rfl (fun _ _ _ h => h) (Or.inl ⟨by rfl, fun W3 hS => by go_simp⟩) hS0 ?_
      try simp only [Act.put, List.setIfInBounds_toArray, List.set_cons_zero, List.set_cons_succ]
      refine wtk 8 (.agg #[.bool s2, .slice q1 l2.length f1, .slice q2 d2.length f2]) rfl (fun _ _ _ h => h) (Or.inl ⟨by rfl, fun W3 hS => by have c0 := (hS.2.cell (p := ⟨b2, o2 + k * 3, none⟩) hb2).trans v0; have c1 := (hS.2.cell (p := ⟨b2, o2 + k * 3 + 1, none⟩) hb2).trans v1; have c2 := (hS.2.cell (p := ⟨b2, o2 + k * 3 + 2, none⟩) hb2).trans v2; go_simp⟩) hS0 ?_
      try simp only [Act.put, List.setIfInBounds_toArray, List.set_cons_zero, List.set_cons_succ]
      refine wtk 9 (.agg #[.bool sT, .slice pb lT.length qb, .slice ob dT.length rb]) rfl (fun _ _ _ h => h) (Or.inl ⟨by rfl, fun W3 hS => by have c0 := hS.1.cell 0 _ rfl; have c1 := hS.1.cell 1 _ rfl; have c2 := hS.1.cell 2 _ rfl; go_simp⟩) hS0 ?_
      try simp only [Act.put, List.setIfInBounds_toArray, List.set_cons_zero, List.set_cons_succ]
      clear hS0 u0 u1 u2 v0 v1 v2
      refine one_op 10 rfl (fun K5 hK => ?_)
      go_simp
      refine (KM.out _ HBd.out).mono ?_
      rintro ex V0 ⟨a4, c4, o4, r4, rfl, g4, g4', rr⟩
      have HXe := Lib.hid (HXd.out.under rr)
      have HBe := Lib.hid (then_below HBd.out rr)
      have HVe := Lib.hid (HVd.out.below rr)
      have G4 := Lib.hid (And.intro g4 g4')
      clear rr g4 g4' HXd HBd HVd KM
      refine hK _ _ ⟨⟨HXe.out, HBe.out⟩, ?_⟩
      clear hK K5
      refine one_op 11 rfl (fun K6 hK => ?_)
      go_simp
      refine (KA.out _ HBe.out G4.out.1 G4.out.2).mono ?_
      rintro ex V1 ⟨a3, c3, o3, r3, rfl, g3, g3', rr⟩
      have HXb := Lib.hid (HXe.out.under rr)
      have HBb := Lib.hid (then_below HBe.out rr)
      have HVb := Lib.hid (HVe.out.below rr)
      have G3 := Lib.hid (And.intro g3 g3')
      clear rr g3 g3' HXe HBe HVe KA G4
      refine hK _ _ ⟨⟨HXb.out, HBb.out⟩, ?_⟩
      clear hK K6
      refine one_op 12 rfl (fun K7 hK => ?_)
      go_simp
      refine hK _ _ ⟨⟨HXb.out.alloc _, HBb.out.alloc (HBb.out.size) _⟩, ?_⟩
      clear hK K7
      refine one_op 13 rfl (fun K8 hK => ?_)
      rw [if_pos (by rfl)]
      refine wp_append_rat hi hz0 hz1 hz2 V1 _ _ rfl (w.heap.size + 1) (.slice av k cv) ys (qr Z, (a3, c3), (o3, r3)) rfl rfl HVb.out ⟨G3.out.1, G3.out.2⟩ HXb.out.lt (by have := HYL.out; omega) ?_
      intro v' w3 hV3 hgrow
      have hap := rat_append HVb.out HXb.out.lt hgrow
      have hx3 := grown_off (HXb.out.alloc _) hgrow (fun e => by have := (HVb.out.lt e).1; omega)
      obtain ⟨av', cv', ev'⟩ := hV3.form
      rw [List.length_append, List.length_singleton, HYL.out] at ev'
      subst ev'
      have HV3 := Lib.hid hV3
      have HX3 := Lib.hid hx3
      have HB3 := Lib.hid (HBb.out.trans (hap.2.1.mono (Nat.le_succ _)))
      clear hV3 hx3 hap hgrow HVb HXb HBb G3
      refine hK _ _ ⟨⟨HX3.out, HB3.out⟩, ?_⟩
      clear hK K8
      refine one_op 14 rfl (fun K9 hK => ?_)
      go_simp
      refine hK _ _ ⟨⟨HX3.out, HB3.out⟩, ?_⟩
      clear hK K9
      refine wdn ?_
      go_wp2
      go_roundg (n - (k + 1))
      case measure => omega
      case rel => exact ⟨k + 1, ys ++ [(qr Z, (a3, c3), (o3, r3))], av', cv', by omega, by first | rfl | simp, by first | rfl | simp, Lib.hid (take_qr (by have := HZ.out; omega) HM.out (by rw [HXX.out])), HV3, HX3, HB3⟩
    · obtain rfl : k = n := by omega
      have l0 : ¬ (k : Int) < (k : Int) := by omega
      clear HC1 HA1 HK HC2 HA2
      go_wp2
      go_ret2
      have hm := HM.out
      rw [List.take_of_length_le (by have := HZ.out; omega)] at hm
      exact ⟨_, rfl, by have := HV.out.fresh.mono (Nat.le_succ w.heap.size); rw [hm] at this; exact this, HB.out⟩
theorem rv_add_bad {w : World} {a1 a2 : Option Addr} {n c1 c2 : Nat} {xs ys : List Rat} {b : Bool} {l d : List Nat} {pb ob : Option Addr} {qb rb : Nat} (h1 : VReads w (.slice a1 n c1) (xs.map qr)) (h2 : VReads w (.slice a2 n c2) (ys.map qr)) (g5 : Reads w (.slice pb l.length qb) l) (g6 : Reads w (.slice ob d.length rb) d) (hf : Fit (b, l, d)) (hk : rchk b l d = false) (hwx : ∀ x ∈ xs, wt x ≤ 3000) (hwy : ∀ y ∈ ys, wt y ≤ 3000) (hn : n ≤ 60000) :
  Calls Tryz.prog 23 #[.slice a1 n c1, .slice a2 n c2, .agg #[.bool b, .slice pb l.length qb, .slice ob d.length rb]] w fun e w' => e = .returned (.tuple #[.slice none 0 0, .int .i64 1]) ∧ Below w.heap.size w w' := by
 have fx := fit_each (xs := xs) (fun x hx => Nat.le_trans (hwx x hx) (by omega))
 have fy := fit_each (xs := ys) (fun x hx => Nat.le_trans (hwy x hx) (by omega))
 have hx : xs.length = n := by have := h1.addr.1; simpa using this.symm
 have hy : ys.length = n := by have := h2.addr.1; simpa using this.symm
 have k1 := Lib.hid (fun (W : World) (r : Below w.heap.size w W) => rv_check true (by rw [all_qok_qr]) (h1.below r) ⟨fx, by simp; omega⟩)
 have k2 := Lib.hid (fun (W : World) (r : Below w.heap.size w W) => rv_check true (by rw [all_qok_qr]) (h2.below r) ⟨fy, by simp; omega⟩)
 have k3' := fun (W : World) (r : Below w.heap.size w W) => rr_check (n := b) (g5.below r) (g6.below r) hf.1.1 hf.1.2 (by have := hf.2.1; dsimp only at this; omega) (by have := hf.2.2; dsimp only at this; omega)
 rw [hk] at k3'
 have k3 := Lib.hid k3'
 have enn : ((n : Int) != (n : Int)) = false := by simp
 have HX0 := Lib.hid (BoxN.new w 30 #[.bool b, .slice pb l.length qb, .slice ob d.length rb])
 have HB0 := Lib.hid (show Below w.heap.size w (w.alloc (.cells #[.bool b, .slice pb l.length qb, .slice ob d.length rb] 30)) from (Below.refl _ _).alloc (Nat.le_refl _) _)
 clear h1 h2 g5 g6 hwx hwy hx hy fx fy k3' hf hk
 go_enter Tryz.func23, Tryz.ntmps23
 go_wp2_with fail
 refine (k1.out _ HB0.out).mono ?_
 rintro e w1 ⟨rfl, rr⟩
 have HX1 := Lib.hid (HX0.out.under rr)
 have HB1 := Lib.hid (then_below HB0.out rr)
 clear rr HX0 HB0
 go_wp2_with fail
 refine (k2.out _ HB1.out).mono ?_
 rintro e w2 ⟨rfl, rr⟩
 have HX2 := Lib.hid (HX1.out.under rr)
 have HB2 := Lib.hid (then_below HB1.out rr)
 clear rr HX1 HB1
 have z0 := HX2.out.cell 0 _ rfl
 have z1 := HX2.out.cell 1 _ rfl
 have z2 := HX2.out.cell 2 _ rfl
 go_wp2_with fail
 refine (k3.out _ HB2.out).mono ?_
 rintro e w3 ⟨rfl, rr⟩
 have HB3 := Lib.hid (then_below HB2.out rr)
 clear rr HX2 HB2 z0 z1 z2 k1 k2 k3
 go_wp2_with fail
 go_ret2
 exact ⟨rfl, HB3.out⟩
theorem gk0 (W : World) : ∀ t ∈ ([] : List GI), GOK W t := fun _ h => by cases h
theorem gkc {W : World} {x : GI} {l : List GI} (h : GOK W x) (k : ∀ t ∈ l, GOK W t) : ∀ t ∈ x :: l, GOK W t := fun t ht => by
 rcases List.mem_cons.1 ht with rfl | h1
 · exact h
 · exact k _ h1
theorem zb_of {zs : List Zr} {qs : List Qr} (hm : zs.map (·.1) = qs) (hb : ∀ q ∈ qs, q.2.1.length ≤ 100000 ∧ q.2.2.length ≤ 100000) : ∀ z ∈ zs, z.1.2.1.length ≤ 2000000 ∧ z.1.2.2.length ≤ 2000000 := fun z hz => by
 have := hb z.1 (by rw [← hm]; exact List.mem_map_of_mem hz)
 omega
theorem twinR_fr {w : World} {v : Value} {qs : List Qr} {n : Nat} (hn : n = qs.length) (h : VReads w v qs) (hl : n ≤ 65536) (hb : ∀ q ∈ qs, q.2.1.length ≤ 100000 ∧ q.2.2.length ≤ 100000) :
  Calls Tryz.prog 8 #[v] w fun e w' => ∃ g c ps, e = .returned (.slice (some ⟨g, 0, none⟩) n c) ∧ TwR w' w.heap.size g c qs ∧ FR w' w.heap.size w'.heap.size (some ⟨g, 0, none⟩) n c ps ∧ Below w.heap.size w w' := by
 subst hn
 refine (twinR_own h hl hb).mono ?_
 rintro e w' ⟨g, c, rfl, t, ⟨zs, hm, hr, ho⟩, r⟩
 exact ⟨g, c, zs.map zfp, rfl, t, fr_of (by rw [← hm, List.length_map]) hr ho (zb_of hm hb), r⟩
theorem TwR.vreads' {W : World} {B g c n : Nat} {qs : List Qr} (h : TwR W B g c qs) (hn : n = qs.length) : VReads W (.slice (some ⟨g, 0, none⟩) n c) qs := by subst hn; exact h.vreads
theorem leftR_n {W : World} {B g c n : Nat} {v : Value} {qs : List Qr} (hn : n = qs.length) (T : TwR W B g c qs) (h : VReads W v qs) (hl : n ≤ 65536) (hb : ∀ q ∈ qs, q.2.1.length ≤ 100000 ∧ q.2.2.length ≤ 100000) :
  Calls Tryz.prog 16 #[.slice (some ⟨g, 0, none⟩) n c, v] W fun e w' => e = .returned (.bool true) ∧ Below W.heap.size W w' := by
 subst hn; exact leftR_any T h hl hb
theorem VFO.fr {W : World} {base n : Nat} {a : Option Addr} {c : Nat} {zs : List Zr} {qs : List Qr} (h : VFO W base (.slice a n c) zs) (hm : zs.map (·.1) = qs) (hn : n = qs.length) (hb : ∀ q ∈ qs, q.2.1.length ≤ 100000 ∧ q.2.2.length ≤ 100000) : FR W base W.heap.size a n c (zs.map zfp) := by
 have hl : zs.length = n := by rw [hn, ← hm, List.length_map]
 exact fr_of hl (by have := h.1.1.1; rw [hl] at this ⊢; exact this) h.2 (zb_of hm hb)
theorem not_in {B : Nat} {W : World} {n : Nat} {u v : Value} {eb et : List (Value × Nat)} (h : BT W B n u v eb et) {top : Nat} (ht : top ≤ B) : ∀ g, g < top → ¬ (g = B ∨ u.ownBlock = some g ∨ v.ownBlock = some g) := fun g hg e => by
 rcases e with e | e | e
 · omega
 · have := (h.bu g e).1; omega
 · have := (h.bv g e).1; omega
theorem bt_fr {W W0 : World} {B n base top : Nat} {u v : Value} {eb et : List (Value × Nat)} {a : Option Addr} {l c : Nat} {ps : List Fp} (h : BT W B n u v eb et) (F : FR W0 base top a l c ps) (hF : Below B W0 W) (ht : top ≤ B) (hn : n + 2 * l ≤ 100000) (hl : eb.length + 2 * l ≤ 100000) (hl2 : et.length ≤ 100000) :
  Calls Tryz.prog 17 #[.pointer (some ⟨B, 0, none⟩), .slice a l c] W fun e w' => e = .returned (.tuple #[]) ∧ ∃ u' v', BT w' B (n + 2 * l + 1) u' v' (eb ++ tolds (fx ps) (fy ps) n l) (et ++ [(.slice a l c, n + 2 * l + 1)]) ∧ Below B W w' := by
 refine (bt_rats h hn hl hl2 ((F.below (hF.mono ht)).rowR (not_in h ht))).mono ?_
 rintro e w' ⟨rfl, u', v', h1, h2⟩
 exact ⟨rfl, u', v', h1, h2.bel⟩
theorem bt_rat' {W : World} {B n : Nat} {u v : Value} {eb et : List (Value × Nat)} {s : Bool} {a a2 : Option Addr} {l c l2 c2 : Nat} (h : BT W B n u v eb et) (hn : n + 1 ≤ 100000) (hl : eb.length + 1 ≤ 100000) :
  Calls Tryz.prog 18 #[.pointer (some ⟨B, 0, none⟩), .agg #[.bool s, .slice a l c, .slice a2 l2 c2]] W fun e w' => e = .returned (.tuple #[]) ∧ ∃ u', BT w' B (n + 2) u' v (eb ++ [(.slice a l c, n + 1), (.slice a2 l2 c2, n + 2)]) et ∧ Below B W w' := by
 refine (bt_rat h hn hl).mono ?_
 rintro e w' ⟨rfl, u', h1, h2⟩
 exact ⟨rfl, u', h1, h2.bel⟩
theorem seg_own {W W' : World} {base top i j : Nat} {s : Bool} {a a' : Option Addr} {c c' : Nat} {l d : List Nat} (h1 : Fresh W base (.slice a l.length c) l) (h2 : Fresh W base (.slice a' d.length c') d) (tw : Two (.slice a l.length c) (.slice a' d.length c')) (bl : l.length ≤ 2000000) (bd : d.length ≤ 2000000) (hb : Below W.heap.size W W') (hs : base ≤ W.heap.size) (ht : W.heap.size ≤ top) (hi : i ≤ 100000) (hj : j ≤ 100000) : Seg W' base top [(.slice a l.length c, i), (.slice a' d.length c', j)] [] :=
 seg_rat (p := (s, (a, l.length, c), (a', d.length, c'))) (Nat.le_trans hs ht) (((part_of h1 bl).below hb).wide (Nat.le_refl _) ht) (((part_of h2 bd).below hb).wide (Nat.le_refl _) ht) tw hi hj
end
end Go.Proofs.YtdjfooflhpkcbaaGreatDoor
