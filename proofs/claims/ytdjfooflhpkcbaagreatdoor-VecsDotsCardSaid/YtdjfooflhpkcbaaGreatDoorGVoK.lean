/- Rows of fractions whose parts are memory of their own. The law package's copy of a row of fractions: memory of its own. Rows of fractions of their .. -/
import Derived.Deep.QuietTactic
import Derived.Test.YtdjfooflhpkcbaaGreatDoorGNtL
import Derived.Test.YtdjfooflhpkcbaaGreatDoorGRTv
import Derived.Test.YtdjfooflhpkcbaaGreatDoorGBkSg
import Derived.Test.YtdjfooflhpkcbaaGreatDoorGVecO
import Derived.Test.YtdjfooflhpkcbaaGreatDoorGRatOpO
import Derived.Test.YtdjfooflhpkcbaaGreatDoorGRrO
import Derived.Test.YtdjfooflhpkcbaaGreatDoorGMathG
import Derived.Test.YtdjfooflhpkcbaaGreatDoorGRatSame
set_option maxRecDepth 100000
set_option maxHeartbeats 16000000
set_option linter.unusedSimpArgs false
set_option linter.unusedVariables false
namespace Go.Proofs.YtdjfooflhpkcbaaGreatDoor
section
open Go Go.Proofs Go.RowKit Go.Shelf Nu
def ZOw (W : World) (base : Nat) (z : Zr) : Prop := Fresh W base (.slice z.2.1.1 z.1.2.1.length z.2.1.2) z.1.2.1 ∧ Fresh W base (.slice z.2.2.1 z.1.2.2.length z.2.2.2) z.1.2.2
def zpv (z : Zr) : List Value := [.slice z.2.1.1 z.1.2.1.length z.2.1.2, .slice z.2.2.1 z.1.2.2.length z.2.2.2]
def OwnL (W : World) (base : Nat) (zs : List Zr) : Prop := (∀ z ∈ zs, ZOw W base z) ∧ (zs.flatMap zpv).Pairwise Two
section
variable {W W' : World} {base : Nat} {z : Zr} {zs : List Zr}
theorem ZOw.off {t : TypeId} (h : ZOw W base z) (ho : Off t W W') (ht : 71 ≠ t) : ZOw W' base z := ⟨own_off h.1 ho ht, own_off h.2 ho ht⟩
theorem ZOw.below (h : ZOw W base z) (hb : Below W.heap.size W W') : ZOw W' base z := ⟨h.1.below hb, h.2.below hb⟩
theorem ZOw.mono {base' : Nat} (h : ZOw W base z) (hb : base' ≤ base) : ZOw W base' z := ⟨h.1.mono hb, h.2.mono hb⟩
theorem ZOw.zin (h : ZOw W base z) : ZIn W z := ⟨h.1.reads, h.2.reads⟩
theorem ZOw.lies (h : ZOw W base z) {x : Value} (hx : x ∈ zpv z) {g : Nat} (e : x.ownBlock = some g) : base ≤ g ∧ g < W.heap.size := by
 simp only [zpv, List.mem_cons, List.not_mem_nil, or_false] at hx
 rcases hx with rfl | rfl
 · exact World.ownsRow.lt h.1 g e
 · exact World.ownsRow.lt h.2 g e
theorem OwnL.nil : OwnL W base [] := ⟨fun z h => (by cases h), List.Pairwise.nil⟩
theorem OwnL.off {t : TypeId} (h : OwnL W base zs) (ho : Off t W W') (ht : 71 ≠ t) : OwnL W' base zs := ⟨fun z hz => (h.1 z hz).off ho ht, h.2⟩
theorem OwnL.below (h : OwnL W base zs) (hb : Below W.heap.size W W') : OwnL W' base zs := ⟨fun z hz => (h.1 z hz).below hb, h.2⟩
theorem OwnL.mono {base' : Nat} (h : OwnL W base zs) (hb : base' ≤ base) : OwnL W base' zs := ⟨fun z hz => (h.1 z hz).mono hb, h.2⟩
theorem OwnL.lies (h : OwnL W base zs) {x : Value} (hx : x ∈ zs.flatMap zpv) {g : Nat} (e : x.ownBlock = some g) : base ≤ g ∧ g < W.heap.size := by
 obtain ⟨z, hz, hx⟩ := List.mem_flatMap.1 hx
 exact (h.1 z hz).lies hx e
theorem OwnL.snoc (h : OwnL W base zs) (hb : Below W.heap.size W W') (hs : base ≤ W.heap.size) (hz : ZOw W' W.heap.size z) (ht : Two (.slice z.2.1.1 z.1.2.1.length z.2.1.2) (.slice z.2.2.1 z.1.2.2.length z.2.2.2)) : OwnL W' base (zs ++ [z]) := by
 refine ⟨fun y hy => ?_, ?_⟩
 · rcases List.mem_append.1 hy with hy | hy
   · exact (h.1 y hy).below hb
   · obtain rfl := List.mem_singleton.1 hy
     exact hz.mono hs
 · rw [List.flatMap_append, List.pairwise_append]
   refine ⟨h.2, ?_, fun x hx y hy => ?_⟩
   · rw [List.flatMap_singleton]
     refine List.pairwise_cons.2 ⟨fun y hy => ?_, List.pairwise_singleton _ _⟩
     obtain rfl := List.mem_singleton.1 hy
     exact ht
   · rw [List.flatMap_singleton] at hy
     cases e : x.ownBlock with
     | none => exact .inl e
     | some g =>
      refine .inr fun e2 => ?_
      have h1 := (h.lies hx e).2
      have h2 := (hz.lies hy (e2 ▸ e)).1
      omega
end
def RAnsO (base : Nat) (w : World) (X : Rat) (e : Ending) (w' : World) : Prop :=
 ∃ a c a' c', e = .returned (.agg #[.bool (qr X).1, .slice a (qr X).2.1.length c, .slice a' (qr X).2.2.length c']) ∧ Fresh w' base (.slice a (qr X).2.1.length c) (qr X).2.1 ∧ Fresh w' base (.slice a' (qr X).2.2.length c') (qr X).2.2 ∧ Two (.slice a (qr X).2.1.length c) (.slice a' (qr X).2.2.length c') ∧ Below w.heap.size w w'
def VFO (W : World) (base : Nat) (v : Value) (zs : List Zr) : Prop := VF W base v zs ∧ OwnL W base zs
theorem VFO.below {W W' : World} {base : Nat} {v : Value} {zs : List Zr} (h : VFO W base v zs) (hb : Below W.heap.size W W') : VFO W' base v zs := ⟨h.1.below hb, h.2.below hb⟩
theorem VFO.alloc {W : World} {base : Nat} {v : Value} {zs : List Zr} (h : VFO W base v zs) (o : Obj) : VFO (W.alloc o) base v zs := h.below ((Below.refl _ _).alloc (Nat.le_refl _) o)
theorem VFO.lt {W : World} {base g : Nat} {v : Value} {zs : List Zr} (h : VFO W base v zs) (hg : v.ownBlock = some g) : base ≤ g ∧ g < W.heap.size := h.1.lt hg
theorem VFO.form {W : World} {base : Nat} {v : Value} {zs : List Zr} (h : VFO W base v zs) : ∃ a cap, v = .slice a zs.length cap := h.1.form
theorem VFO.grow {W w3 : World} {base : Nat} {v v' : Value} {zs ys : List Zr} {tmp : Obj} (h : VF W base v zs) (ho : OwnL W base ys) (hgrow : (W.alloc tmp).grownBy w3 v.ownBlock) (h3 : VF w3 base v' ys) : VFO w3 base v' ys :=
 ⟨h3, ho.off ((Off.alloc W tmp).trans (Off.of_grown (World.ownsRow.alloc h.1.1 _) hgrow)) (by decide)⟩
end
section
open Go Go.Proofs Go.RowKit Go.Shelf Nu
set_option linter.unusedVariables false
set_option linter.unusedSimpArgs false
set_option maxRecDepth 100000
attribute [local go_sem] Oper.semAt_some
theorem own_front {W : World} {base n : Nat} {t : TypeId} {g c : Nat} {xs : List Value} {y : List Value} (h : W.ownsRow base t 3 (.slice (some ⟨g, 0, none⟩) (n + 1) c) (n + 1) (xs ++ y)) (hx : xs.length = n * 3 := by simp [zcells_len]) : W.ownsRow base t 3 (.slice (some ⟨g, 0, none⟩) n c) n xs := by
 refine ⟨hx, ?_⟩
 rcases h.2 with ⟨e, _⟩ | ⟨g', cap, cur, e, hb, hg, hn, hm, hs, ht⟩
 · cases e
 · cases e
   refine .inr ⟨g, c, cur, rfl, hb, hg, by omega, hm, hs, ?_⟩
   have := congrArg (List.take (n * 3)) ht
   rw [List.take_take, List.take_left' hx] at this
   rwa [Nat.min_eq_left (by omega)] at this
theorem twinR_own {w : World} {v : Value} {qs : List Qr} (h : VReads w v qs) (hl : qs.length ≤ 65536) (hb : ∀ q ∈ qs, q.2.1.length ≤ 100000 ∧ q.2.2.length ≤ 100000) :
    Calls Tryz.prog 8 #[v] w fun e w' => ∃ g c, e = .returned (.slice (some ⟨g, 0, none⟩) qs.length c) ∧ TwR w' w.heap.size g c qs ∧ (∃ zs : List Zr, zs.map (·.1) = qs ∧ w'.ownsRow w.heap.size 30 3 (.slice (some ⟨g, 0, none⟩) qs.length c) zs.length (zcells zs) ∧ OwnL w' w.heap.size zs) ∧ Below w.heap.size w w' := by
  obtain ⟨i0, hi, hz0, hz1, hz2⟩ := info_parts info_rat
  obtain ⟨a, cap, rfl⟩ := h.form
  obtain ⟨hn', hcap, bb, off, ha, hc⟩ := h.addr
  obtain ⟨n, hn⟩ : ∃ n, n = qs.length := ⟨_, rfl⟩
  obtain ⟨N, hN⟩ : ∃ N, N = n + 1 := ⟨_, rfl⟩
  have w1 : IntKind.i64.wrap ((n : Int) + 1) = (N : Int) := by rw [hN]; exact IntWalk.i64_in _ (by omega)
  rw [← hn]
  rw [← hn] at ha
  have HN := Lib.hid (show n = qs.length ∧ N = n + 1 ∧ n ≤ 65536 from ⟨hn, hN, by omega⟩)
  have HC := Lib.hid hc
  have HA := Lib.hid ha
  have HS := Lib.hid hb
  have hn1 : n ≤ 65536 := by omega
  have hN1 : N ≤ 65537 := by omega
  clear h hn hN hn' hcap ha hc hb hl
  go_enter Tryz.func8, Tryz.ntmps8
  go_wp2_with ((at_make; go_loud (refine wpList_make_rat hi hz0 hz1 hz2 _ rfl _ _ rfl w.heap.size .i64 .i64 N rfl rfl (by omega) (by simp) ?_); intro w1 hV1 hgrow1))
  have HB1 := Lib.hid (show Below w.heap.size w w1 from (Below.refl _ _).grown hgrow1 (Nat.le_refl _) (fun _ e => by cases e))
  have HV1 := Lib.hid hV1
  clear hV1 hgrow1
  have k0 : ((0 : Nat) : Int) = 0 := rfl
  go_loopg [3, 4] n (fun g t x wr => ∃ (k : Nat) (ys : List Zr) (av : Option Addr) (cv : Nat), k + g = n ∧ t = .slice av k cv ∧ x = .int .i64 (k : Int) ∧ Hid (ys.map (·.1) = qs.take k) ∧ Hid (VF wr w.heap.size (.slice av k cv) ys) ∧ Hid (∀ z ∈ ys, ZTw wr w.heap.size z) ∧ Hid (OwnL wr w.heap.size ys) ∧ Hid (Below w.heap.size w wr))
  case atStart => exact ⟨0, [], _, _, by omega, rfl, rfl, Lib.hid rfl, HV1, Lib.hid (fun z hz => by cases hz), Lib.hid OwnL.nil, HB1⟩
  case round =>
    clear HV1 HB1 k0
    obtain ⟨k, ys, av, cv, hk, rfl, rfl, HM, HV, HZ, HL, HB⟩ := hrel
    have HY := Lib.hid (lens_of HM.out (by have := HN.out; omega))
    have hwb : w.heap.size ≤ wr.heap.size := HB.out.size
    by_cases hlt : k < n
    · have n0 : (0 : Int) ≤ (k : Int) := by omega
      have l0 : (k : Int) < (n : Int) := by omega
      have w0 : IntKind.i64.wrap ((k : Int) + 1) = ((k + 1 : Nat) : Int) := IntWalk.i64_in _ (by omega)
      obtain ⟨rfl, hbl⟩ := HA.out (by omega)
      obtain ⟨q, hq⟩ : ∃ q, qs[k]? = some q := ⟨_, List.getElem?_eq_getElem (by have := HN.out; omega)⟩
      have hqat := (HC.out k q hq).below hbl HB.out
      have hsz := HS.out q (List.mem_of_getElem? hq)
      have HQ := Lib.hid hq
      obtain ⟨s, l1, d1⟩ := q
      obtain ⟨p, c, p', c', h0, h1, h2, g1, g2⟩ := hqat
      dsimp only at h0 h1 h2 g1 g2 hsz
      have kc := Lib.hid (fun (W : World) (r : Below wr.heap.size wr W) => rtwin_own (n := s) hsz.1 hsz.2 (g1.below r) (g2.below r))
      clear g1 g2 hq hsz HC HA HS
      go_wp2_with fail
      refine (kc.out _ (Below.refl _ _)).mono ?_
      rintro e w2 ⟨a3, c3, o3, r3, rfl, t1, t2, rb, tw⟩
      have HL2 := Lib.hid (HL.out.snoc (z := ((s, l1, d1), (some ⟨a3, 0, none⟩, c3), (some ⟨o3, 0, none⟩, r3))) rb hwb ⟨t1.fresh, t2.fresh⟩ tw)
      have HB2 := Lib.hid (then_below HB.out rb)
      have HV2 := Lib.hid (HV.out.below rb)
      have HZ2 := Lib.hid (show (∀ z ∈ ys, ZTw w2 w.heap.size z) ∧ ZTw w2 w.heap.size ((s, l1, d1), (some ⟨a3, 0, none⟩, c3), (some ⟨o3, 0, none⟩, r3)) from ⟨fun z hz => (HZ.out z hz).below rb, _, _, _, _, rfl, rfl, t1.mono hwb, t2.mono hwb⟩)
      clear rb kc h0 h1 h2 HB HV HZ HL t1 t2 tw
      have hs2 : w.heap.size ≤ w2.heap.size := HB2.out.size
      go_wp2_with ((at_builtin; go_loud (refine wpList_append_rat hi hz0 hz1 hz2 w2 rfl _ _ rfl w.heap.size (.slice av k cv) ys ((s, l1, d1), (some ⟨a3, 0, none⟩, c3), (some ⟨o3, 0, none⟩, r3)) rfl rfl HV2.out HZ2.out.2.zin hs2 (by have := HY.out; omega) ?_); intro v' w3 hV3 hgrow; have hof : Off 30 w2 w3 := (Off.alloc w2 _).trans (Off.of_grown (World.ownsRow.alloc HV2.out.1.1 _) hgrow); have hap := rat_append HV2.out hs2 hgrow; obtain ⟨av', cv', ev'⟩ := hV3.form; rw [List.length_append, List.length_singleton, HY.out] at ev'; subst ev'; have HV3 := Lib.hid hV3; have HZ3 := Lib.hid (show ∀ z ∈ ys ++ [((s, l1, d1), (some ⟨a3, 0, none⟩, c3), (some ⟨o3, 0, none⟩, r3))], ZTw w3 w.heap.size z from fun z hz => by (rcases List.mem_append.1 hz with hz | hz; exact (HZ2.out.1 z hz).off hof (by decide); obtain rfl := List.mem_singleton.1 hz; exact HZ2.out.2.off hof (by decide))); have HL3 := Lib.hid (HL2.out.off hof (by decide)); have HB3 := Lib.hid (HB2.out.trans hap.2.1); clear HL2 hV3 hap hgrow hof HV2 HB2 HZ2))
      go_roundg (n - (k + 1))
      case measure => omega
      case rel => exact ⟨k + 1, ys ++ [((s, l1, d1), (some ⟨a3, 0, none⟩, c3), (some ⟨o3, 0, none⟩, r3))], av', cv', by omega, by first | rfl | simp, by first | rfl | simp, Lib.hid (map_take_snoc HM.out HQ.out rfl), HV3, HZ3, HL3, HB3⟩
    · obtain rfl : k = n := by omega
      have l0 : ¬ (k : Int) < (k : Int) := by omega
      have n0 : (0 : Int) ≤ (k : Int) := by omega
      clear HC HA HS
      have hM : ys.map (·.1) = qs := by rw [HM.out]; exact List.take_of_length_le (by have := HN.out; omega)
      have HM2 := Lib.hid hM
      clear hM
      have lb : Below wr.heap.size wr (wr.alloc (.cells #[.int .u32 77] 71)) := (Below.refl _ _).alloc (Nat.le_refl _) _
      have HV2 := Lib.hid (HV.out.below lb)
      have HF := Lib.hid (fresh_lit wr 77)
      have hs2 : w.heap.size ≤ (wr.alloc (.cells #[.int .u32 77] 71)).heap.size := Nat.le_trans hwb lb.size
      have HZ2 := Lib.hid (fun z hz => (HZ.out z hz).below lb)
      have HL2 := Lib.hid (HL.out.below lb)
      have HB2 := Lib.hid (then_below HB.out lb)
      clear HV HZ HL HB lb
      go_wp2_with ((at_builtin; go_loud (refine wpList_append_rat hi hz0 hz1 hz2 (wr.alloc (.cells #[.int .u32 77] 71)) rfl _ _ rfl w.heap.size (.slice av k cv) ys (zmark (some ⟨wr.heap.size, 0, none⟩, 1)) rfl (by simp only [World.size_alloc]; rfl) HV2.out ⟨Reads.nil _, HF.out.reads⟩ hs2 (by have := HY.out; omega) ?_); intro v' w3 hV3 hgrow; obtain ⟨g3, c3, rfl, hc3, hc4⟩ := hV3.slice (n := k) (by rw [List.length_append, HY.out]; rfl); have HV3 := Lib.hid hV3; have HG := Lib.hid hgrow; clear hV3 hgrow))
      go_ret
      have hof : Off 30 (wr.alloc (.cells #[.int .u32 77] 71)) w3 := (Off.alloc _ _).trans (Off.of_grown (World.ownsRow.alloc HV2.out.1.1 _) HG.out)
      have hap := rat_append HV2.out hs2 HG.out
      refine ⟨g3, c3, rfl, ⟨ys, (some ⟨wr.heap.size, 0, none⟩, 1), HM2.out, ?_, fun z hz => (HZ2.out z hz).off hof (by decide), own_off (HF.out.mono hwb) hof (by decide)⟩, ⟨ys, HM2.out, ?_, HL2.out.off hof (by decide)⟩, HB2.out.trans hap.2.1⟩
      rotate_left
      · have e := HV3.out.1.1
        rw [List.length_append, HY.out, List.length_singleton, zcells_snoc] at e
        have e2 := own_front (n := k) e (by rw [zcells_len, HY.out])
        rw [← HY.out] at e2 ⊢
        exact e2
      rw [← HN.out.1]
      have e := HV3.out.1.1
      rw [List.length_append, HY.out] at e
      exact e
end
section
open Go Go.Proofs Go.RowKit Go.Shelf Nu
set_option linter.unusedVariables false
def zfp (z : Zr) : Fp := (z.1.1, (z.2.1.1, z.1.2.1.length, z.2.1.2), (z.2.2.1, z.1.2.2.length, z.2.2.2))
theorem zfp_cells (zs : List Zr) : (zs.map zfp).flatMap fpc = zcells zs := by
 unfold zcells
 rw [List.flatMap_map]
 rfl
theorem zfp_parts (zs : List Zr) : fps (zs.map zfp) = zs.flatMap zpv := by
 unfold fps
 rw [List.flatMap_map]
 rfl
theorem part_of {W : World} {base : Nat} {a : Option Addr} {c : Nat} {l : List Nat} (h : Fresh W base (.slice a l.length c) l) (hl : l.length ≤ 2000000) : Part W base W.heap.size (a, l.length, c) :=
 ⟨⟨l.length, l.map u32v, hl, h⟩, fun g e => World.ownsRow.lt h g e⟩
theorem own_other {W : World} {b1 b2 n1 n2 k1 k2 g : Nat} {t u : TypeId} {v x : Value} {xs ys : List Value} (h : W.ownsRow b1 t k1 v n1 xs) (h' : W.ownsRow b2 u k2 x n2 ys) (ht : t ≠ u) (e1 : v.ownBlock = some g) (e2 : x.ownBlock = some g) : False := by
 rcases h.2 with ⟨rfl, _⟩ | ⟨g1, c1, cur1, rfl, _, hg1, _⟩
 · cases e1
 · rcases h'.2 with ⟨rfl, _⟩ | ⟨g2, c2, cur2, rfl, _, hg2, _⟩
   · cases e2
   · have e3 : g1 = g := by simpa [Value.ownBlock] using e1
     have e4 : g2 = g := by simpa [Value.ownBlock] using e2
     subst e3; subst e4
     have := hg1.symm.trans hg2
     injection this with this
     injection this with _ h2 _
     exact ht h2
theorem fr_of {W : World} {base : Nat} {a : Option Addr} {n c : Nat} {zs : List Zr} (hl : zs.length = n) (hr : W.ownsRow base 30 3 (.slice a n c) zs.length (zcells zs)) (ho : OwnL W base zs) (hb : ∀ z ∈ zs, z.1.2.1.length ≤ 2000000 ∧ z.1.2.2.length ≤ 2000000) : FR W base W.heap.size a n c (zs.map zfp) := by
 refine ⟨by rw [List.length_map, hl], by rw [zfp_cells, ← hl]; rw [hl] at hr ⊢; exact hr, fun g e => (World.ownsRow.lt hr g e).2, fun p hp => ?_, fun x hx g e1 e2 => ?_, by rw [zfp_parts]; exact ho.2⟩
 · obtain ⟨z, hz, rfl⟩ := List.mem_map.1 hp
   exact ⟨part_of (ho.1 z hz).1 (hb z hz).1, part_of (ho.1 z hz).2 (hb z hz).2⟩
 · rw [zfp_parts] at hx
   obtain ⟨z, hz, hx⟩ := List.mem_flatMap.1 hx
   simp only [zpv, List.mem_cons, List.not_mem_nil, or_false] at hx
   rcases hx with rfl | rfl
   · exact own_other (ho.1 z hz).1 hr (by decide) e1 e2
   · exact own_other (ho.1 z hz).2 hr (by decide) e1 e2
theorem FR.wide {W : World} {base top b' t' : Nat} {a : Option Addr} {n c : Nat} {ps : List Fp} (h : FR W base top a n c ps) (hb : b' ≤ base) (ht : top ≤ t') : FR W b' t' a n c ps :=
 ⟨h.len, row_low h.row hb, fun g e => Nat.lt_of_lt_of_le (h.own g e) ht, fun p hp => ⟨(h.part p hp).1.wide hb ht, (h.part p hp).2.wide hb ht⟩, h.far, h.dup⟩
end
section
open Go Go.Proofs Go.RowKit Go.Shelf Nu
set_option linter.unusedVariables false
set_option linter.unusedSimpArgs false
attribute [local go_sem] Oper.semAt_some
theorem ZOw.offc {W W' : World} {base M : Nat} {z : Zr} {row : Option Nat} (h : ZOw W base z) (hg : W.grownBy W' row) (hr : OffCells M row W) : ZOw W' base z := by
 have key : ∀ {x : Value} {l : List Nat}, Fresh W base x l → Fresh W' base x l := by
  intro x l hx
  refine hx.keptr hg ?_
  rcases hx.2 with ⟨rfl, _⟩ | ⟨g, cap, cur, rfl, _, hgb, _⟩
  · exact .inl rfl
  · refine .inr fun e' => ?_
    obtain ⟨_, o, ho, hc⟩ := hr g (by simpa [Value.ownBlock] using e'.symm)
    rw [hgb] at ho; cases ho; cases hc
 exact ⟨key h.1, key h.2⟩
theorem VFO.off {W W' : World} {base M : Nat} {v : Value} {zs : List Zr} {row : Option Nat} (h : VFO W base v zs) (hg : W.grownBy W' row) (hr : OffCells M row W) : VFO W' base v zs :=
 ⟨h.1.off hg hr, fun z hz => (h.2.1 z hz).offc hg hr, h.2.2⟩
theorem VFO.box {W : World} {base B : Nat} {v : Value} {zs : List Zr} {t : TypeId} {u : Value} (h : VFO W base v zs) (hB : Boxed W B t u) (ht : t ≠ 30) (ht2 : 71 ≠ t) (hu : no32 u = true) (x : Value) : VFO (W.setCell ⟨B, 0, none⟩ x) base v zs :=
 ⟨h.1.box hB ht hu x, h.2.off (Off.put (show BoxN W B t ([u] : List Value).toArray from hB) 0 x) ht2⟩
def JInvO (w : World) (F0 v1 v2 : Value) (s : Nat) (zs : List Rat) (k : Nat) (W : World) : Prop :=
  (∃ (v : Value) (ys : List Zr), ys.map (·.1) = (zs.take k).map qr ∧ Boxed W s 22 v ∧ VFO W w.heap.size v ys) ∧
  Boxed W w.heap.size 74 F0 ∧ Boxed W (s + 1) 22 v1 ∧ Boxed W (s + 1 + 1) 22 v2 ∧ Below w.heap.size w W
theorem JInvO.own {w : World} {F0 v1 v2 : Value} {s : Nat} {zs : List Rat} {M : Nat} (hM : w.heap.size ≤ M) : OwnFrom M (JInvO w F0 v1 v2 s zs) := by
 rintro k W W' row ⟨⟨v, ys, h0, h1, h2⟩, h3, h4, h5, h6⟩ hg hr
 exact ⟨⟨v, ys, h0, keepBox h1 hg hr, h2.off hg hr⟩, keepBox h3 hg hr, keepBox h4 hg hr, keepBox h5 hg hr, keepBelow h6 (Nat.le_refl _) hM hg hr⟩
def JMidO (w : World) (v : Value) (ys : List Zr) (F0 v1 v2 : Value) (s B1 B2 : Nat) (c1 c2 : Array Value) (_ : Unit) (W : World) : Prop :=
 Boxed W s 22 v ∧ VFO W w.heap.size v ys ∧ Boxed W w.heap.size 74 F0 ∧ Boxed W (s + 1) 22 v1 ∧ Boxed W (s + 1 + 1) 22 v2 ∧ Below w.heap.size w W ∧ BoxN W B1 30 c1 ∧ BoxN W B2 30 c2
theorem JMidO.own {w : World} {v : Value} {ys : List Zr} {F0 v1 v2 : Value} {s B1 B2 : Nat} {c1 c2 : Array Value} {M : Nat} (hM : w.heap.size ≤ M) : OwnFrom M (JMidO w v ys F0 v1 v2 s B1 B2 c1 c2) := by
 rintro u W W' row ⟨h1, h2, h3, h4, h5, h6, h7, h8⟩ hg hr
 exact ⟨keepBox h1 hg hr, h2.off hg hr, keepBox h3 hg hr, keepBox h4 hg hr, keepBox h5 hg hr, keepBelow h6 (Nat.le_refl _) hM hg hr, keepBoxN h7 hg hr, keepBoxN h8 hg hr⟩
theorem v_joined_own {w : World} {a1 a2 : Option Addr} {n c1 c2 : Nat} {qs1 qs2 : List Qr} {J : Nat} {caps : Array Value} {zs : List Rat} (h1 : VReads w (.slice a1 n c1) qs1) (h2 : VReads w (.slice a2 n c2) qs2) (hn : n ≤ 65536) (hzs : zs.length = n)
    (eJ : ∀ (args : Array Value) (w : World), (callFunc J args).run Tryz.prog w = .ok (.enter J args) w)
    (kJ : ∀ (W : World) (j : Nat) (z1 z2 : Zr), j < n → z1.1 = qs1.getD j default → z2.1 = qs2.getD j default → ZIn W z1 → ZIn W z2 → Below w.heap.size w W → Calls Tryz.prog J (#[zval z1, zval z2] ++ caps) W (RAnsO W.heap.size W (zs.getD j 0))) :
    Calls Tryz.prog 45 #[.slice a1 n c1, .slice a2 n c2, .func (.func J) #[] caps] w fun e w' => ∃ v ys, e = .returned v ∧ ys.map (·.1) = zs.map qr ∧ VFO w' w.heap.size v ys ∧ Below w.heap.size w w' := by
  obtain ⟨i0, hi, hz0, hz1, hz2⟩ := info_parts info_rat
  have hd1 := h1.addr.2.1
  have hd2 := h2.addr.2.1
  obtain ⟨b1, o1, f, hA1, hf⟩ := h1.fn
  obtain ⟨b2, o2, g, hA2, hg⟩ := h2.fn
  have HF := Lib.hid hf
  have HG := Lib.hid hg
  have HK := Lib.hid kJ
  have HA1 := Lib.hid hA1
  have HA2 := Lib.hid hA2
  have HZ := Lib.hid hzs
  clear h1 h2 hf hg kJ hA1 hA2 hzs
  refine (callsIn_wide (n := 0)).1 ?_
  refine callsIn_of_wp_marks Tryz.func45 rfl trivial ?_ rfl
  simp only [Tryz.ntmps45, List.size_toArray, List.length_cons, List.length_nil, Nat.reduceAdd, Nat.reduceSub, Array.replicate_succ, Array.replicate_zero, List.push_toArray, List.append_toArray, List.nil_append, List.cons_append]
  refine wpIn_wide.2 ?_
  go_wp2_with (first
      | (at_make; go_loud (refine wpList_make_rat hi hz0 hz1 hz2 _ rfl _ _ rfl w.heap.size .i64 .i64 n rfl rfl (by omega) (by simp) ?_); intro w1 hV1 hgrow1)
      | (go_at_call 54; refine (places_any _ _ _ _ _ _ _).mono ?_; rintro e w' ⟨rfl, rfl⟩))
  have hs1 : (w.alloc (.cells #[.func (.func J) #[] caps] 74)).heap.size ≤ w1.heap.size := hgrow1.size
  have hs2 : w.heap.size + 1 ≤ w1.heap.size := by simpa using hs1
  have hbel1 : Below w.heap.size w w1 := ((Below.refl _ _).alloc (Nat.le_refl _) _).grown hgrow1 (by simp) (fun _ e => by cases e)
  have hbx : Boxed w1 w.heap.size 74 (.func (.func J) #[] caps) := (Boxed.new w _ _).kept hgrow1 (by simp)
  clear hs1
  simp only [World.size_alloc] at hV1
  refine (wpIn_wide (n := 0)).1 ?_
  refine wp_rangeMid (gf := 134) rfl (enters_of Tryz.func134 (by kernel_rfl) rfl)
    (places_iter n b1 o1 b2 o2 c1 c2 (w1.heap.size + 1) (w1.heap.size + 1 + 1) a1 a2 f g hn (fun h => (HA1.out h).1) (fun h => (HA2.out h).1) hd1 hd2) (fun _ => rfl)
    (JInvO w (.func (.func J) #[] caps) (.slice a1 n c1) (.slice a2 n c2) w1.heap.size zs) (fun _ _ => False) (JInvO.own (by simp; omega)) (fun _ _ _ _ h _ _ => h)
    (fun k W h => ⟨h.2.2.1.cell, h.2.2.2.1.cell, fun hk => ⟨(HF.out k hk).2.1.below (HA1.out (by omega)).2 h.2.2.2.2, (HG.out k hk).2.1.below (HA2.out (by omega)).2 h.2.2.2.2⟩⟩) ?start ?round ?done ?stop
  case start =>
    refine ⟨⟨_, [], rfl, ((Boxed.new w1 _ _).alloc _).alloc _, ⟨((hV1.alloc _).alloc _).alloc _, OwnL.nil⟩⟩, ((hbx.alloc _).alloc _).alloc _, (boxed_new1 w1 _ _ _).alloc _, boxed_new2 w1 _ _ _ _, ?_⟩
    exact ((hbel1.alloc (by omega) _).alloc (by simp; omega) _).alloc (by simp; omega) _
  case round =>
    intro l k W hk hinv
    have hfk := HF.out k hk
    have hgk := HG.out k hk
    generalize f k = z1 at *
    generalize g k = z2 at *
    obtain ⟨⟨s, l1, d1⟩, ⟨p, c⟩, p', c'⟩ := z1
    obtain ⟨⟨s', l2, d2⟩, ⟨q, e⟩, q', e'⟩ := z2
    dsimp only [zval]
    have HFK := Lib.hid hfk
    have HGK := Lib.hid hgk
    obtain ⟨⟨v, ys, hmap, hbv, hV⟩, hbf, hb1, hb2, hbel⟩ := hinv
    have hlt : ∀ g, v.ownBlock = some g → g < W.heap.size := fun g e => (hV.lt e).2
    have hyl : ys.length = k := by
      have := congrArg List.length hmap
      simp only [List.length_map, List.length_take] at this
      have := HZ.out; omega
    obtain ⟨av, cv, ev⟩ := hV.form
    rw [hyl] at ev
    subst ev
    have hWs : w.heap.size ≤ W.heap.size := hbel.size
    have hWs2 : w1.heap.size + 1 + 1 < W.heap.size := (Array.getElem?_eq_some_iff.1 (show W.heap[w1.heap.size + 1 + 1]? = _ from hb2)).1
    have hmid : JMidO w (.slice av k cv) ys (.func (.func J) #[] caps) (.slice a1 n c1) (.slice a2 n c2) w1.heap.size W.heap.size (W.heap.size + 1) #[.bool s, .slice p l1.length c, .slice p' d1.length c'] #[.bool s', .slice q l2.length e, .slice q' d2.length e'] () ((W.alloc (.cells #[.bool s, .slice p l1.length c, .slice p' d1.length c'] 30)).alloc (.cells #[.bool s', .slice q l2.length e, .slice q' d2.length e'] 30)) :=
      ⟨(hbv.alloc _).alloc _, (hV.alloc _).alloc _, (hbf.alloc _).alloc _, (hb1.alloc _).alloc _, (hb2.alloc _).alloc _, (hbel.alloc hWs _).alloc (by simp; omega) _, (BoxN.new W _ _).alloc _, BoxN.new1 W _ _ _⟩
    have HMAP := Lib.hid hmap
    have HLT := Lib.hid hlt
    have HYL := Lib.hid hyl
    have HMID := Lib.hid hmid
    clear hfk hgk hmap hlt hyl hmid hbv hV hbf hb1 hb2 hbel
    gi_wp2
    refine ⟨((KeepsOthers.alloc W _).trans (KeepsOthers.alloc _ _)).from _, _, HMID.out, JMidO.own (by first | omega | (simp; omega)), ?_⟩
    rintro W2 ⟨hbv, hV, hbf, hb1, hb2, hbel, hx1, hx2⟩
    have r1 := hbv.cell
    have r2 := hbv.frozen
    have r3 := hbf.cell
    have x0 := hx1.cell 0 _ rfl
    have x1 := hx1.cell 1 _ rfl
    have x2 := hx1.cell 2 _ rfl
    have y0 := hx2.cell 0 _ rfl
    have y1 := hx2.cell 1 _ rfl
    have y2 := hx2.cell 2 _ rfl
    have HBV := Lib.hid hbv
    have HV0 := Lib.hid hV
    have HBF0 := Lib.hid hbf
    have HB10 := Lib.hid hb1
    have HB20 := Lib.hid hb2
    have HBEL0 := Lib.hid hbel
    have HX10 := Lib.hid hx1
    have HX20 := Lib.hid hx2
    clear hbv hV hbf hb1 hb2 hbel hx1 hx2
    gi_wp2_with (refine region_held_in (Lets.round l) (fun V => Boxed V w.heap.size 74 (.func (.func J) #[] caps) ∧ BoxN V W.heap.size 30 #[.bool s, .slice p l1.length c, .slice p' d1.length c'] ∧ BoxN V (W.heap.size + 1) 30 #[.bool s', .slice q l2.length e, .slice q' d2.length e']) (by kernel_rfl) (by kernel_rfl) (by rintro ⟨_, _, h⟩; exact h) (Stop.of ?_))
    refine Stop.mk ?_
    clear r1 r2 r3 x0 x1 x2 y0 y1 y2 HMID
    have dr : Below W2.heap.size W2 W2.drew := ⟨rfl, rfl, rfl, Nat.le_refl _, fun _ _ => rfl⟩
    have HB7 := Lib.hid (boxed_under HBV.out dr)
    have HBF := Lib.hid (boxed_under HBF0.out dr)
    have HB1 := Lib.hid (boxed_under HB10.out dr)
    have HB2 := Lib.hid (boxed_under HB20.out dr)
    have HX1 := Lib.hid (HX10.out.under dr)
    have HX2 := Lib.hid (HX20.out.under dr)
    have HV := Lib.hid (HV0.out.below dr)
    have HBEL := Lib.hid (then_below HBEL0.out dr)
    have hS0 : (fun V => Boxed V w.heap.size 74 (.func (.func J) #[] caps) ∧ BoxN V W.heap.size 30 #[.bool s, .slice p l1.length c, .slice p' d1.length c'] ∧ BoxN V (W.heap.size + 1) 30 #[.bool s', .slice q l2.length e, .slice q' d2.length e']) W2.drew := ⟨HBF.out, HX1.out, HX2.out⟩
    refine wtk 1 (.func (.func J) #[] caps) rfl (fun _ _ _ h => h) (Or.inl ⟨by rfl, fun W3 hS => by obtain ⟨hS1, _, _⟩ := hS; have c1 := hS1.cell; go_simp⟩) hS0 ?_
    refine wtk 2 (.agg #[.bool s, .slice p l1.length c, .slice p' d1.length c']) rfl (fun _ _ _ h => h) (Or.inl ⟨by rfl, fun W3 hS => by obtain ⟨_, hS1, _⟩ := hS; have c0 := hS1.cell 0 _ rfl; have c1 := hS1.cell 1 _ rfl; have c2 := hS1.cell 2 _ rfl; go_simp⟩) hS0 ?_
    refine wtk 3 (.agg #[.bool s', .slice q l2.length e, .slice q' d2.length e']) rfl (fun _ _ _ h => h) (Or.inl ⟨by rfl, fun W3 hS => by obtain ⟨_, _, hS1⟩ := hS; have c0 := hS1.cell 0 _ rfl; have c1 := hS1.cell 1 _ rfl; have c2 := hS1.cell 2 _ rfl; go_simp⟩) hS0 ?_
    clear hS0
    try simp only [Act.put, List.setIfInBounds_toArray, List.set_cons_zero, List.set_cons_succ]
    have hzi1 := (HFK.out.2.2.below HBEL0.out).below dr
    have hzi2 := (HGK.out.2.2.below HBEL0.out).below dr
    have kc := HK.out W2.drew k _ _ hk HFK.out.1 HGK.out.1 hzi1 hzi2 HBEL.out
    obtain ⟨X, hX⟩ : ∃ X, X = zs.getD k 0 := ⟨_, rfl⟩
    rw [← hX] at kc
    have HX := Lib.hid hX
    unfold RAnsO at kc
    dsimp only [zval] at kc
    clear hzi1 hzi2 hX
    refine two_op 0 4 ?_ ?_
    · have r1 := HB7.out.cell
      refine wpOp_intro rfl (fun K2 hK => ?_)
      go_simp
      refine hK _ _ ⟨⟨HBF.out, HX1.out, HX2.out⟩, ?_⟩
      clear hK K2 r1
      refine one_op 4 rfl (fun K1 hK => ?_)
      go_simp
      refine kc.mono ?_
      rintro ex V1 ⟨a3, c3, o3, r3, rfl, g3, g3', tw, rr⟩
      have HB7' := Lib.hid (boxed_under HB7.out rr)
      have HBF' := Lib.hid (boxed_under HBF.out rr)
      have HB1' := Lib.hid (boxed_under HB1.out rr)
      have HB2' := Lib.hid (boxed_under HB2.out rr)
      have HX1' := Lib.hid (HX1.out.under rr)
      have HX2' := Lib.hid (HX2.out.under rr)
      have HV' := Lib.hid (HV.out.below rr)
      have HL' := Lib.hid (HV.out.2.snoc (z := (qr X, (a3, c3), (o3, r3))) rr HBEL.out.size ⟨g3, g3'⟩ tw)
      have HBEL' := Lib.hid (then_below HBEL.out rr)
      have HKP := Lib.hid ((KeepsOthers.drew W2).trans (keeps_below rr))
      clear kc rr HB7 HBF HB1 HB2 HX1 HX2 HV HBEL
      refine hK _ _ ⟨⟨HBF'.out, HX1'.out, HX2'.out⟩, ?_⟩
      clear hK K1
      refine one_op 5 rfl (fun K3 hK => ?_)
      go_simp
      refine hK _ _ ⟨⟨HBF'.out.alloc _, HX1'.out.alloc _, HX2'.out.alloc _⟩, ?_⟩
      clear hK K3
      refine one_op 6 rfl (fun K4 hK => ?_)
      rw [if_pos (by rfl)]
      refine wp_append_rat hi hz0 hz1 hz2 V1 _ _ rfl w.heap.size (.slice av k cv) ys (qr X, (a3, c3), (o3, r3)) rfl rfl HV'.out.1 ⟨g3.reads, g3'.reads⟩ HBEL'.out.size (by have := HYL.out; omega) ?_
      intro v' w3 hV3 hgrow
      obtain ⟨hKO, hBl, hBx, -⟩ := rat_append HV'.out.1 HBEL'.out.size hgrow
      have HKP3 := Lib.hid (HKP.out.trans hKO)
      have hb7 := hBx _ _ _ (by decide) HB7'.out
      have hbf := hBx _ _ _ (by decide) HBF'.out
      have hb1 := hBx _ _ _ (by decide) HB1'.out
      have hb2 := hBx _ _ _ (by decide) HB2'.out
      have hx1 := grown_off (HX1'.out.alloc _) hgrow (fun e => by have := HLT.out _ e; omega)
      have hx2 := grown_off (HX2'.out.alloc _) hgrow (fun e => by have := HLT.out _ e; omega)
      have hbel3 := HBEL'.out.trans hBl
      replace hV3 := VFO.grow HV'.out.1 HL'.out hgrow hV3
      obtain ⟨av', cv', ev'⟩ := hV3.form
      rw [List.length_append, List.length_singleton] at ev'
      subst ev'
      have HB73 := Lib.hid hb7
      have HBF3 := Lib.hid hbf
      have HB13 := Lib.hid hb1
      have HB23 := Lib.hid hb2
      have HX13 := Lib.hid hx1
      have HX23 := Lib.hid hx2
      have HV3 := Lib.hid hV3
      have HBEL3 := Lib.hid hbel3
      have r1 := hb7.cell
      have r2 := hb7.frozen
      clear hKO hBl hBx hb7 hbf hb1 hb2 hx1 hx2 hbel3 hV3 hgrow HB7' HBF' HB1' HB2' HX1' HX2' HV' HL' HBEL' HKP
      refine hK _ _ ⟨⟨HBF3.out, HX13.out, HX23.out⟩, ?_⟩
      clear hK K4
      refine one_op 7 rfl (fun K5 hK => ?_)
      go_simp
      have HB7f := Lib.hid (HB73.out.set (.slice av' (ys.length + 1) cv'))
      have HBFf := Lib.hid (HBF3.out.other (B' := w1.heap.size) (by omega) (.slice av' (ys.length + 1) cv'))
      refine hK _ _ ⟨⟨HBFf.out, HX13.out.other (by omega) _, HX23.out.other (by omega) _⟩, ?_⟩
      clear hK K5 r1 r2
      refine wdn ?_
      refine ⟨(HKP3.out.trans (KeepsOthers.setCell w3 _ _)).from _, ⟨⟨_, _, take_qr (by have := HZ.out; omega) HMAP.out (by rw [HX.out]), HB7f.out, HV3.out.box HB73.out (by decide) (by decide) rfl _⟩, HBFf.out, HB13.out.other (by omega) _, HB23.out.other (by omega) _, HBEL3.out.setCell (p := ⟨w1.heap.size, 0, none⟩) (by simp; omega) _⟩⟩
    · refine wpOp_intro rfl (fun K1 hK => ?_)
      go_simp
      refine kc.mono ?_
      rintro ex V1 ⟨a3, c3, o3, r3, rfl, g3, g3', tw, rr⟩
      have HB7' := Lib.hid (boxed_under HB7.out rr)
      have HBF' := Lib.hid (boxed_under HBF.out rr)
      have HB1' := Lib.hid (boxed_under HB1.out rr)
      have HB2' := Lib.hid (boxed_under HB2.out rr)
      have HX1' := Lib.hid (HX1.out.under rr)
      have HX2' := Lib.hid (HX2.out.under rr)
      have HV' := Lib.hid (HV.out.below rr)
      have HL' := Lib.hid (HV.out.2.snoc (z := (qr X, (a3, c3), (o3, r3))) rr HBEL.out.size ⟨g3, g3'⟩ tw)
      have HBEL' := Lib.hid (then_below HBEL.out rr)
      have HKP := Lib.hid ((KeepsOthers.drew W2).trans (keeps_below rr))
      clear kc rr HB7 HBF HB1 HB2 HX1 HX2 HV HBEL
      refine hK _ _ ⟨⟨HBF'.out, HX1'.out, HX2'.out⟩, ?_⟩
      clear hK K1
      refine two_op 0 5 ?_ ?_
      · have r1 := HB7'.out.cell
        refine wpOp_intro rfl (fun K2 hK => ?_)
        go_simp
        refine hK _ _ ⟨⟨HBF'.out, HX1'.out, HX2'.out⟩, ?_⟩
        clear hK K2 r1
        refine one_op 5 rfl (fun K3 hK => ?_)
        go_simp
        refine hK _ _ ⟨⟨HBF'.out.alloc _, HX1'.out.alloc _, HX2'.out.alloc _⟩, ?_⟩
        clear hK K3
        refine one_op 6 rfl (fun K4 hK => ?_)
        rw [if_pos (by rfl)]
        refine wp_append_rat hi hz0 hz1 hz2 V1 _ _ rfl w.heap.size (.slice av k cv) ys (qr X, (a3, c3), (o3, r3)) rfl rfl HV'.out.1 ⟨g3.reads, g3'.reads⟩ HBEL'.out.size (by have := HYL.out; omega) ?_
        intro v' w3 hV3 hgrow
        obtain ⟨hKO, hBl, hBx, -⟩ := rat_append HV'.out.1 HBEL'.out.size hgrow
        have HKP3 := Lib.hid (HKP.out.trans hKO)
        have hb7 := hBx _ _ _ (by decide) HB7'.out
        have hbf := hBx _ _ _ (by decide) HBF'.out
        have hb1 := hBx _ _ _ (by decide) HB1'.out
        have hb2 := hBx _ _ _ (by decide) HB2'.out
        have hx1 := grown_off (HX1'.out.alloc _) hgrow (fun e => by have := HLT.out _ e; omega)
        have hx2 := grown_off (HX2'.out.alloc _) hgrow (fun e => by have := HLT.out _ e; omega)
        have hbel3 := HBEL'.out.trans hBl
        replace hV3 := VFO.grow HV'.out.1 HL'.out hgrow hV3
        obtain ⟨av', cv', ev'⟩ := hV3.form
        rw [List.length_append, List.length_singleton] at ev'
        subst ev'
        have HB73 := Lib.hid hb7
        have HBF3 := Lib.hid hbf
        have HB13 := Lib.hid hb1
        have HB23 := Lib.hid hb2
        have HX13 := Lib.hid hx1
        have HX23 := Lib.hid hx2
        have HV3 := Lib.hid hV3
        have HBEL3 := Lib.hid hbel3
        have r1 := hb7.cell
        have r2 := hb7.frozen
        clear hKO hBl hBx hb7 hbf hb1 hb2 hx1 hx2 hbel3 hV3 hgrow HB7' HBF' HB1' HB2' HX1' HX2' HV' HL' HBEL' HKP
        refine hK _ _ ⟨⟨HBF3.out, HX13.out, HX23.out⟩, ?_⟩
        clear hK K4
        refine one_op 7 rfl (fun K5 hK => ?_)
        go_simp
        have HB7f := Lib.hid (HB73.out.set (.slice av' (ys.length + 1) cv'))
        have HBFf := Lib.hid (HBF3.out.other (B' := w1.heap.size) (by omega) (.slice av' (ys.length + 1) cv'))
        refine hK _ _ ⟨⟨HBFf.out, HX13.out.other (by omega) _, HX23.out.other (by omega) _⟩, ?_⟩
        clear hK K5 r1 r2
        refine wdn ?_
        refine ⟨(HKP3.out.trans (KeepsOthers.setCell w3 _ _)).from _, ⟨⟨_, _, take_qr (by have := HZ.out; omega) HMAP.out (by rw [HX.out]), HB7f.out, HV3.out.box HB73.out (by decide) (by decide) rfl _⟩, HBFf.out, HB13.out.other (by omega) _, HB23.out.other (by omega) _, HBEL3.out.setCell (p := ⟨w1.heap.size, 0, none⟩) (by simp; omega) _⟩⟩
      · refine wpOp_intro rfl (fun K3 hK => ?_)
        go_simp
        refine hK _ _ ⟨⟨HBF'.out.alloc _, HX1'.out.alloc _, HX2'.out.alloc _⟩, ?_⟩
        clear hK K3
        refine wpAnyH_all (rs := [0]) (by kernel_rfl) (by simp) ?_
        intro i hii
        obtain rfl : i = 0 := by simpa using hii
        clear hii
        have r1 := (HB7'.out.alloc (.cells #[.bool (qr X).1, .slice a3 (qr X).2.1.length c3, .slice o3 (qr X).2.2.length r3] 30)).cell
        refine wpOp_intro rfl (fun K2 hK => ?_)
        go_simp
        refine hK _ _ ⟨⟨HBF'.out.alloc _, HX1'.out.alloc _, HX2'.out.alloc _⟩, ?_⟩
        clear hK K2 r1
        refine one_op 6 rfl (fun K4 hK => ?_)
        rw [if_pos (by rfl)]
        refine wp_append_rat hi hz0 hz1 hz2 V1 _ _ rfl w.heap.size (.slice av k cv) ys (qr X, (a3, c3), (o3, r3)) rfl rfl HV'.out.1 ⟨g3.reads, g3'.reads⟩ HBEL'.out.size (by have := HYL.out; omega) ?_
        intro v' w3 hV3 hgrow
        obtain ⟨hKO, hBl, hBx, -⟩ := rat_append HV'.out.1 HBEL'.out.size hgrow
        have HKP3 := Lib.hid (HKP.out.trans hKO)
        have hb7 := hBx _ _ _ (by decide) HB7'.out
        have hbf := hBx _ _ _ (by decide) HBF'.out
        have hb1 := hBx _ _ _ (by decide) HB1'.out
        have hb2 := hBx _ _ _ (by decide) HB2'.out
        have hx1 := grown_off (HX1'.out.alloc _) hgrow (fun e => by have := HLT.out _ e; omega)
        have hx2 := grown_off (HX2'.out.alloc _) hgrow (fun e => by have := HLT.out _ e; omega)
        have hbel3 := HBEL'.out.trans hBl
        replace hV3 := VFO.grow HV'.out.1 HL'.out hgrow hV3
        obtain ⟨av', cv', ev'⟩ := hV3.form
        rw [List.length_append, List.length_singleton] at ev'
        subst ev'
        have HB73 := Lib.hid hb7
        have HBF3 := Lib.hid hbf
        have HB13 := Lib.hid hb1
        have HB23 := Lib.hid hb2
        have HX13 := Lib.hid hx1
        have HX23 := Lib.hid hx2
        have HV3 := Lib.hid hV3
        have HBEL3 := Lib.hid hbel3
        have r1 := hb7.cell
        have r2 := hb7.frozen
        clear hKO hBl hBx hb7 hbf hb1 hb2 hx1 hx2 hbel3 hV3 hgrow HB7' HBF' HB1' HB2' HX1' HX2' HV' HL' HBEL' HKP
        refine hK _ _ ⟨⟨HBF3.out, HX13.out, HX23.out⟩, ?_⟩
        clear hK K4
        refine one_op 7 rfl (fun K5 hK => ?_)
        go_simp
        have HB7f := Lib.hid (HB73.out.set (.slice av' (ys.length + 1) cv'))
        have HBFf := Lib.hid (HBF3.out.other (B' := w1.heap.size) (by omega) (.slice av' (ys.length + 1) cv'))
        refine hK _ _ ⟨⟨HBFf.out, HX13.out.other (by omega) _, HX23.out.other (by omega) _⟩, ?_⟩
        clear hK K5 r1 r2
        refine wdn ?_
        refine ⟨(HKP3.out.trans (KeepsOthers.setCell w3 _ _)).from _, ⟨⟨_, _, take_qr (by have := HZ.out; omega) HMAP.out (by rw [HX.out]), HB7f.out, HV3.out.box HB73.out (by decide) (by decide) rfl _⟩, HBFf.out, HB13.out.other (by omega) _, HB23.out.other (by omega) _, HBEL3.out.setCell (p := ⟨w1.heap.size, 0, none⟩) (by simp; omega) _⟩⟩
  case done =>
    rintro D W hD ⟨⟨v, ys, hmap, hbv, hV⟩, hbf, hb1, hb2, hbel⟩ hK
    rw [List.take_of_length_le (by have := HZ.out; omega)] at hmap
    have HMAP := Lib.hid hmap
    have HV := Lib.hid hV
    have HBEL := Lib.hid hbel
    obtain ⟨av, cv, rfl⟩ := hV.form
    have hc := hbv.cell
    clear hmap hV hbv hbf hb1 hb2 hbel
    go_wp2
    refine ⟨by simp, .inl ⟨_, _, rfl, run_takeDeferred hK, ?_⟩⟩
    refine ⟨_, results_tmp rfl _ _ _, ?_⟩
    exact ⟨_, ys, rfl, HMAP.out, HV.out.off (grownBy_putObj' W D (.deferred none)) (offCells_putObj (M := 0) (Nat.zero_le _) hK rfl), below_left _ HBEL.out (by simp at hD; omega) hK rfl⟩
  case stop =>
    rintro D c W _ h _
    exact h.elim
theorem VFO.one {W : World} {base : Nat} {a : Option Addr} {cap : Nat} {z : Zr} (h : VFO W base (.slice a 1 cap) [z]) : ∃ b, a = some ⟨b, 0, none⟩ ∧ b < W.heap.size ∧ 1 ≤ cap ∧ W.cell? ⟨b, 0, none⟩ = some (.bool z.1.1) ∧ W.cell? ⟨b, 1, none⟩ = some (.slice z.2.1.1 z.1.2.1.length z.2.1.2) ∧ W.cell? ⟨b, 2, none⟩ = some (.slice z.2.2.1 z.1.2.2.length z.2.2.2) := by
 have hr := h.1.1.1
 rcases hr.2 with ⟨e, _⟩ | ⟨g, cap', cur, e, hb, hg, hn, _⟩
 · cases e
 · cases e
   refine ⟨g, rfl, (Array.getElem?_eq_some_iff.1 hg).1, hn, ?_, ?_, ?_⟩
   · have := World.ownsRow.cellAt hr 0 (by decide); rw [this]; rfl
   · have := World.ownsRow.cellAt hr 1 (by decide); rw [this]; rfl
   · have := World.ownsRow.cellAt hr 2 (by decide); rw [this]; rfl
theorem rans_own {w : World} {X : Rat} {e : Ending} {w' : World} {base : Nat} (hb : base ≤ w.heap.size) (h : ∃ a c a' c', e = .returned (.agg #[.bool (qr X).1, .slice a (qr X).2.1.length c, .slice a' (qr X).2.2.length c']) ∧ Fresh w' w.heap.size (.slice a (qr X).2.1.length c) (qr X).2.1 ∧ Fresh w' w.heap.size (.slice a' (qr X).2.2.length c') (qr X).2.2 ∧ Below w.heap.size w w' ∧ Two (.slice a (qr X).2.1.length c) (.slice a' (qr X).2.2.length c')) : RAnsO base w X e w' := by
 obtain ⟨a, c, a', c', h1, h2, h3, h4, h5⟩ := h
 exact ⟨a, c, a', c', h1, h2.mono hb, h3.mono hb, h5, h4⟩
theorem v_sum_own (n : Nat) {w : World} {base : Nat} {a : Option Addr} {cap : Nat} {xs : List Rat} {ys : List Zr} (hn : n = xs.length) (hm : ys.map (·.1) = xs.map qr) (hV : VFO w base (.slice a n cap) ys) (hbs : base ≤ w.heap.size) (hw : wts xs ≤ 9000) :
   Calls Tryz.prog 44 #[.slice a n cap] w (RAnsO base w (rsum xs)) := by
 have h : VReads w (.slice a n cap) (xs.map qr) := by rw [← hm]; exact hV.1.fresh.reads
 have hcs : n = 0 ∨ n = 1 ∨ 2 ≤ n := by omega
 rcases hcs with rfl | rfl | h2
 · obtain rfl : xs = [] := List.eq_nil_of_length_eq_zero hn.symm
   exact v_sum_none.mono fun e w' h => rans_own hbs h
 · obtain ⟨X, rfl⟩ : ∃ X, xs = [X] := by
    match xs, hn with
    | [X], _ => exact ⟨X, rfl⟩
   obtain ⟨z, rfl⟩ : ∃ z, ys = [z] := by
    have := congrArg List.length hm
    match ys, this with
    | [z], _ => exact ⟨z, rfl⟩
   have hz : z.1 = qr X := by simpa using hm
   obtain ⟨b, rfl, hbl, hcap, h0, h1, h2⟩ := hV.one
   have how := hV.2.1 z (List.mem_singleton.2 rfl)
   have tw : Two (.slice z.2.1.1 z.1.2.1.length z.2.1.2) (.slice z.2.2.1 z.1.2.2.length z.2.2.2) := by
    have := hV.2.2
    rw [List.flatMap_singleton] at this
    exact (List.pairwise_cons.1 this).1 _ (List.mem_singleton.2 rfl)
   have hX : rsum [X] = X := by show X + 0 = X; grind
   rw [hX]
   unfold RAnsO
   rw [← hz]
   obtain ⟨⟨s, l, d⟩, ⟨p, c⟩, p', c'⟩ := z
   dsimp only at h0 h1 h2 how tw ⊢
   have HO := Lib.hid how
   have TW := Lib.hid tw
   clear h hw hn hX hz hm hV how tw
   go_enter Tryz.func44, Tryz.ntmps44
   go_wp2_with fail
   refine ret_boxN rfl rfl (BoxN.new w 30 #[.bool s, .slice p l.length c, .slice p' d.length c']) Tryz.underlying30 size_rat rfl ?_
   have al : Below w.heap.size w (w.alloc (.cells #[.bool s, .slice p l.length c, .slice p' d.length c'] 30)) := (Below.refl _ _).alloc (Nat.le_refl _) _
   exact ⟨p, c, p', c', rfl, HO.out.1.below al, HO.out.2.below al, TW.out, al⟩
 · exact (v_sum_two n (fun m _ => v_sum m) h2 hn h hw).mono fun e w' h => rans_own hbs h
theorem v_mulfn_own {w : World} {xs ys : List Rat} {n : Nat} (hx : xs.length = n) (hy : ys.length = n) (hw : wts xs + wts ys ≤ 9000) :
  ∀ (W : World) (j : Nat) (z1 z2 : Zr), j < n → z1.1 = (xs.map qr).getD j default → z2.1 = (ys.map qr).getD j default → ZIn W z1 → ZIn W z2 → Below w.heap.size w W → Calls Tryz.prog 46 (#[zval z1, zval z2] ++ #[]) W (RAnsO W.heap.size W ((zmul xs ys).getD j 0)) := by
 intro W j z1 z2 hj e1 e2 i1 i2 _
 rw [qr_at (by omega)] at e1 e2
 have w1 := wt_at (xs := xs) (j := j) (by omega)
 have w2 := wt_at (xs := ys) (j := j) (by omega)
 rw [zmul_at (by omega) (by omega)]
 have hm := wt_mul (xs.getD j 0) (ys.getD j 0)
 generalize xs.getD j 0 = X at *
 generalize ys.getD j 0 = Y at *
 obtain ⟨q1, s1, t1⟩ := z1
 obtain ⟨q2, s2, t2⟩ := z2
 dsimp only at e1 e2
 subst e1 e2
 have fX := fit_qr (X := X) (by omega)
 have fY := fit_qr (X := Y) (by omega)
 exact (r_mul_own (qr_can X).is (qr_can Y).is (qr_can (X * Y)) rfl fX.2.1 fX.2.2 fY.2.1 fY.2.2 i1.1 i1.2 i2.1 i2.2).mono fun e w' h => rans_own (Nat.le_refl _) h
theorem v_dot_own {w : World} {a1 a2 : Option Addr} {n c1 c2 : Nat} {xs ys : List Rat} (h1 : VReads w (.slice a1 n c1) (xs.map qr)) (h2 : VReads w (.slice a2 n c2) (ys.map qr)) (hw : wts xs + wts ys ≤ 8900) :
    Calls Tryz.prog 9 #[.slice a1 n c1, .slice a2 n c2] w fun e w' => ∃ a c a' c', e = .returned (.tuple #[.agg #[.bool (qr (dot xs ys)).1, .slice a (qr (dot xs ys)).2.1.length c, .slice a' (qr (dot xs ys)).2.2.length c'], .int .i64 0]) ∧ Fresh w' w.heap.size (.slice a (qr (dot xs ys)).2.1.length c) (qr (dot xs ys)).2.1 ∧ Fresh w' w.heap.size (.slice a' (qr (dot xs ys)).2.2.length c') (qr (dot xs ys)).2.2 ∧ Two (.slice a (qr (dot xs ys)).2.1.length c) (.slice a' (qr (dot xs ys)).2.2.length c') ∧ Below w.heap.size w w' := by
  have al : Below w.heap.size w (w.alloc (.cells #[.bool false, .slice none 0 0, .slice none 0 0] 30)) := (Below.refl _ _).alloc (Nat.le_refl _) _
  have M : Mem w [(w.heap.size, 30, [.bool false, .slice none 0 0, .slice none 0 0])] [] (w.alloc (.cells #[.bool false, .slice none 0 0, .slice none 0 0] 30)) := (Mem.start w).new _ _
  have hx : xs.length = n := by have := h1.addr.1; simpa using this.symm
  have hy : ys.length = n := by have := h2.addr.1; simpa using this.symm
  have l1 := wts_len xs
  have l2 := wts_len ys
  have fx := fit_qrs (xs := xs) (by omega)
  have fy := fit_qrs (xs := ys) (by omega)
  have k1 := v_match true (by rw [all_qok_qr, all_qok_qr]; simp) (h1.below al) (h2.below al) ⟨fx, by simp; omega⟩ ⟨fy, by simp; omega⟩
  have hzl : (zmul xs ys).length = n := by simp [zmul, hx, hy]
  have hzw := wts_zmul xs ys
  have k2 := fun (W : World) (r : Below w.heap.size w W) => v_joined_own (h1.below r) (h2.below r) (by omega) hzl (enters_of Tryz.func46 (by kernel_rfl) rfl) (v_mulfn_own (w := W) hx hy (by omega))
  have k3 := fun (W : World) {base : Nat} {a : Option Addr} {cap : Nat} {zs : List Zr} (hm : zs.map (·.1) = (zmul xs ys).map qr) (h : VFO W base (.slice a n cap) zs) (hb : base ≤ W.heap.size) => v_sum_own n hzl.symm hm h hb (by omega)
  have hd : rsum (zmul xs ys) = dot xs ys := rfl
  rw [hd] at k3
  unfold RAnsO at k3
  generalize qr (dot xs ys) = q at *
  have ezl : ((zmul xs ys).map qr).length = n := by simp [hzl]
  generalize (zmul xs ys).map qr = zq at *
  clear h1 h2 hw hx hy l1 l2 fx fy hzl hzw hd
  go_enter Tryz.func9, Tryz.ntmps9
  go_wp2_with fail
  refine k1.mono ?_
  rintro e w1 ⟨rfl, rr⟩
  have M' := M.up rr
  clear M rr k1
  have M := M'; clear M'
  go_wp2_with fail
  refine (k2 _ M.below).mono ?_
  rintro e w2 ⟨v, zs, rfl, hm, hv, rr⟩
  obtain ⟨av, cv, ev⟩ := hv.form
  have hl : zs.length = n := by rw [← ezl, ← hm, List.length_map]
  rw [hl] at ev
  subst ev
  have M' := M.up rr
  have hs1 : w.heap.size ≤ w1.heap.size := M.below.size
  have k4 := k3 _ hm hv (Nat.le_trans (Nat.le_refl _) rr.size)
  have HS := Lib.hid hs1
  clear M rr k2 hv hm hl k3 ezl hs1
  have M := M'; clear M'
  go_wp2_with fail
  refine k4.mono ?_
  rintro e w3 ⟨a3, c3, o3, r3, rfl, g, g', tw, rr⟩
  have M' := MemO.of (n := 2) (((M.up rr).add g.reads).add g'.reads)
  have HG := Lib.hid g
  have HG' := Lib.hid g'
  have HT := Lib.hid tw
  clear M rr k4 g g' tw
  have f0 := M'.fr 0 rfl 0; have f1 := M'.fr 0 rfl 1; have f2 := M'.fr 0 rfl 2
  have z0 := M'.cell 0 rfl 0 rfl; have z1 := M'.cell 0 rfl 1 rfl; have z2 := M'.cell 0 rfl 2 rfl
  go_wp2_with fail
  have M := (((M'.put 0 rfl rfl 0 (.bool q.1)).put 0 rfl rfl 1 (.slice a3 q.2.1.length c3)).put 0 rfl rfl 2 (.slice o3 q.2.2.length r3))
  refine ret_boxN_tmpV rfl rfl rfl (M.box 0 rfl) Tryz.underlying30 size_rat rfl ?_
  exact ⟨a3, c3, o3, r3, rfl, Fresh.mono (((HG.out.putBox (M'.box 0 rfl) (by decide) 0 _).putBox ((M'.put 0 rfl rfl 0 (.bool q.1)).box 0 rfl) (by decide) 1 _).putBox (((M'.put 0 rfl rfl 0 (.bool q.1)).put 0 rfl rfl 1 (.slice a3 q.2.1.length c3)).box 0 rfl) (by decide) 2 _) HS.out, Fresh.mono (((HG'.out.putBox (M'.box 0 rfl) (by decide) 0 _).putBox ((M'.put 0 rfl rfl 0 (.bool q.1)).box 0 rfl) (by decide) 1 _).putBox (((M'.put 0 rfl rfl 0 (.bool q.1)).put 0 rfl rfl 1 (.slice a3 q.2.1.length c3)).box 0 rfl) (by decide) 2 _) HS.out, HT.out, M.below⟩
theorem VFO.mono {W : World} {base b' : Nat} {v : Value} {zs : List Zr} (h : VFO W base v zs) (hb : b' ≤ base) : VFO W b' v zs := ⟨⟨⟨own_le h.1.1.1 hb, h.1.1.2⟩, h.1.2⟩, h.2.mono hb⟩
end
section
open Go Go.Proofs Go.RowKit Go.Shelf Nu
set_option linter.unusedVariables false
set_option linter.unusedSimpArgs false
set_option maxRecDepth 100000
attribute [local go_sem] Oper.semAt_some
theorem all_next {α : Type} {f : α → Bool} {l : List α} {k : Nat} {x : α} (hx : l[k]? = some x) (h : (l.take k).all f = true) (hf : f x = true) : (l.take (k + 1)).all f = true := by
 rw [List.take_add_one, hx, List.all_append, h]
 simp [hf]
theorem all_no {α : Type} {f : α → Bool} {l : List α} {k : Nat} {x : α} (hx : l[k]? = some x) (hf : f x = false) : l.all f = false := by
 rw [List.all_eq_false]
 exact ⟨x, List.mem_of_getElem? hx, by simp [hf]⟩
theorem all_end {α : Type} {f : α → Bool} {l : List α} {k : Nat} (h : (l.take k).all f = true) (hk : l.length ≤ k) : l.all f = true := by rwa [List.take_of_length_le hk] at h
theorem Mem.two {w W : World} {bs : List (Nat × TypeId × List Value)} {rs : List (Value × List Nat)} {x y : Value × List Nat} (M : Mem w bs rs W) (e0 : rs[0]? = some x) (e1 : rs[1]? = some y) : Mem w bs [x, y] W :=
 ⟨M.1, M.2.1, M.2.2.1, fun k v l h => by
  match k with
  | 0 => simp at h; exact M.2.2.2 0 v l (e0.trans (by rw [h]))
  | 1 => simp at h; exact M.2.2.2 1 v l (e1.trans (by rw [h]))
  | k + 2 => simp at h⟩
theorem rsum_next {l : List Rat} {k : Nat} {x : Rat} (h : l[k]? = some x) : rsum (l.take k) + x = rsum (l.take (k + 1)) := by
 rw [List.take_add_one, h, rsum_append]
 show _ = rsum (l.take k) + (x + 0)
 grind
theorem wts_take (l : List Rat) (k : Nat) : wts (l.take k) ≤ wts l := by have := wts_take_drop l k; omega
theorem rv_check {w : World} {a : Option Addr} {n cap : Nat} {qs : List Qr} (R : Bool) (hR : R = qs.all qok) (h : VReads w (.slice a n cap) qs) (hq : qrows qs) :
  Calls Tryz.prog 13 #[.slice a n cap] w fun e w' => e = .returned (.bool R) ∧ Below w.heap.size w w' := by
 obtain ⟨hn, hcap, b, off, ha, hc⟩ := h.addr
 have HN := Lib.hid hn
 have HR := Lib.hid hR
 have HQ := Lib.hid hq
 have HC := Lib.hid hc
 have HA := Lib.hid ha
 have hn1 : n ≤ 65536 := hn ▸ hq.2
 clear hn hR hq hc h hcap ha
 have k0 : ((0 : Nat) : Int) = 0 := rfl
 go_enter Tryz.func13, Tryz.ntmps13
 go_wp2
 go_loopg [3] n (fun g s wr => ∃ k : Nat, k + g = n ∧ s = .int .i64 (k : Int) ∧ Hid ((qs.take k).all qok = true) ∧ Hid (Below w.heap.size w wr))
 case atStart => exact ⟨0, by omega, rfl, Lib.hid (by simp), Lib.hid (Below.refl _ _)⟩
 case round =>
  clear k0
  obtain ⟨k, hk, rfl, HS, HB⟩ := hrel
  by_cases hlt : k < n
  · have n0 : (0 : Int) ≤ (k : Int) := by omega
    have l0 : (k : Int) < (n : Int) := by omega
    have w0 : IntKind.i64.wrap ((k : Int) + 1) = ((k + 1 : Nat) : Int) := IntWalk.i64_in _ (by omega)
    obtain ⟨rfl, hbl⟩ := HA.out (by omega)
    obtain ⟨q, hqk⟩ : ∃ q, qs[k]? = some q := ⟨_, List.getElem?_eq_getElem (by have := HN.out; omega)⟩
    have hqat := (HC.out k q hqk).below hbl HB.out
    have hfit := HQ.out.1 q (List.mem_of_getElem? hqk)
    have HK := Lib.hid hqk
    obtain ⟨s, l, d⟩ := q
    obtain ⟨p, c, p', c', h0, h1, h2, g1, g2⟩ := hqat
    dsimp only at h0 h1 h2 g1 g2
    obtain ⟨T, hT⟩ : ∃ T, T = qok (s, l, d) := ⟨_, rfl⟩
    have kc := Lib.hid (show Calls Tryz.prog 53 #[.agg #[.bool s, .slice p l.length c, .slice p' d.length c']] wr fun e w' => e = .returned (.bool T) ∧ Below wr.heap.size wr w' from hT ▸ rr_check (n := s) g1 g2 hfit.1.1 hfit.1.2 (Nat.le_trans hfit.2.1 (by omega)) (Nat.le_trans hfit.2.2 (by omega)))
    have HT := Lib.hid hT
    clear g1 g2 hfit hqk hT HA HC
    go_wp2_with fail
    refine kc.out.mono ?_
    rintro e w1 ⟨rfl, rr⟩
    have HB1 := Lib.hid (then_below HB.out rr)
    clear rr kc h0 h1 h2
    cases T with
    | false =>
     have h0 : R = false := by rw [HR.out]; exact all_no HK.out HT.out.symm
     subst h0
     go_wp2_with fail
     go_ret
     exact ⟨rfl, HB1.out⟩
    | true =>
     have HS2 := Lib.hid (all_next HK.out HS.out HT.out.symm)
     go_wp2_with fail
     go_roundg (n - (k + 1))
     case measure => omega
     case rel => exact ⟨k + 1, by omega, by first | rfl | simp, HS2, HB1⟩
  · have h0 : R = true := by rw [HR.out]; exact all_end HS.out (by have := HN.out; omega)
    have l0 : ¬ (k : Int) < (n : Int) := by omega
    subst h0
    clear HA HC
    go_wp2_with fail
    go_ret
    exact ⟨rfl, HB.out⟩
theorem rv_dot {w : World} {a1 a2 : Option Addr} {n c1 c2 : Nat} {xs ys : List Rat} (h1 : VReads w (.slice a1 n c1) (xs.map qr)) (h2 : VReads w (.slice a2 n c2) (ys.map qr)) (hw : wts xs + wts ys ≤ 8900) :
  Calls Tryz.prog 10 #[.slice a1 n c1, .slice a2 n c2] w fun e w' => ∃ a c a' c', e = .returned (.tuple #[.agg #[.bool (qr (dot xs ys)).1, .slice a (qr (dot xs ys)).2.1.length c, .slice a' (qr (dot xs ys)).2.2.length c'], .int .i64 0]) ∧ Reads w' (.slice a (qr (dot xs ys)).2.1.length c) (qr (dot xs ys)).2.1 ∧ Reads w' (.slice a' (qr (dot xs ys)).2.2.length c') (qr (dot xs ys)).2.2 ∧ Below w.heap.size w w' := by
 have al : Below w.heap.size w (w.alloc (.cells #[.bool false, .slice none 0 0, .slice none 0 0] 30)) := (Below.refl _ _).alloc (Nat.le_refl _) _
 have M : Mem w [(w.heap.size, 30, [.bool false, .slice none 0 0, .slice none 0 0])] [] (w.alloc (.cells #[.bool false, .slice none 0 0, .slice none 0 0] 30)) := (Mem.start w).new _ _
 have hx : xs.length = n := by have := h1.addr.1; simpa using this.symm
 have hy : ys.length = n := by have := h2.addr.1; simpa using this.symm
 have l1 := wts_len xs
 have l2 := wts_len ys
 have fx := fit_qrs (xs := xs) (by omega)
 have fy := fit_qrs (xs := ys) (by omega)
 have k1 := Lib.hid (fun (W : World) (r : Below w.heap.size w W) => rv_check true (by rw [all_qok_qr]) (h1.below r) ⟨fx, by simp; omega⟩)
 have k2 := Lib.hid (fun (W : World) (r : Below w.heap.size w W) => rv_check true (by rw [all_qok_qr]) (h2.below r) ⟨fy, by simp; omega⟩)
 have hzl : (zmul xs ys).length = n := by simp [zmul, hx, hy]
 have hzw := wts_zmul xs ys
 obtain ⟨-, -, bx, ox, hA1, hC1⟩ := h1.addr
 obtain ⟨-, -, by', oy, hA2, hC2⟩ := h2.addr
 have HA1 := Lib.hid hA1
 have HA2 := Lib.hid hA2
 have HC1 := Lib.hid hC1
 have HC2 := Lib.hid hC2
 have HL := Lib.hid (show xs.length = n ∧ ys.length = n ∧ (zmul xs ys).length = n ∧ wts (zmul xs ys) ≤ 8900 ∧ wts xs ≤ 8900 ∧ wts ys ≤ 8900 from ⟨hx, hy, hzl, by omega, by omega, by omega⟩)
 have hn9 : n ≤ 9000 := by omega
 have HDD := Lib.hid (show dot xs ys = rsum (zmul xs ys) from rfl)
 have ko := Lib.hid (fun (W : World) => rr_of (w := W) 0 (qr_can ((0 : Int) : Rat)) (by omega) (by omega))
 have HQ0 := Lib.hid (show qr ((0 : Int) : Rat) = qr (rsum ((zmul xs ys).take 0)) from rfl)
 have enn : ((n : Int) != (n : Int)) = false := by simp
 generalize qr ((0 : Int) : Rat) = q0 at *
 generalize hD : dot xs ys = D at *
 clear h1 h2 hw hx hy l1 l2 fx fy hzl hzw hA1 hA2 hC1 hC2 hD
 go_enter Tryz.func10, Tryz.ntmps10
 go_wp2_with fail
 refine (k1.out _ M.below).mono ?_
 rintro e w1 ⟨rfl, rr⟩
 have M' := M.up rr
 clear M rr k1
 have M := M'; clear M'
 go_wp2_with fail
 refine (k2.out _ M.below).mono ?_
 rintro e w2 ⟨rfl, rr⟩
 have M' := M.up rr
 clear M rr k2 al
 have M := M'; clear M'
 go_wp2_with fail
 refine (ko.out _).mono ?_
 rintro e w3 ⟨a, c, a', c', rfl, g, g', rr⟩
 have M' := (((M.up rr).add g).add g').new 30 [.bool q0.1, .slice a q0.2.1.length c, .slice a' q0.2.2.length c']
 have M0 := Lib.hid M'
 clear M M' g g' rr ko
 have k0 : ((0 : Nat) : Int) = 0 := rfl
 go_wp2_with fail
 obtain ⟨b6, hb6⟩ : ∃ b, b = w3.heap.size := ⟨_, rfl⟩
 simp only [← hb6] at M0 ⊢
 clear hb6
 go_loopg [7] n (fun g s wr => ∃ (k : Nat) (a : Option Addr) (c : Nat) (a' : Option Addr) (c' : Nat) (q : Qr), k + g = n ∧ s = .int .i64 (k : Int) ∧ Hid (q = qr (rsum ((zmul xs ys).take k))) ∧ Hid (Mem w [(b6, 30, [.bool q.1, .slice a q.2.1.length c, .slice a' q.2.2.length c']), (w.heap.size, 30, [.bool false, .slice none 0 0, .slice none 0 0])] [(.slice a' q.2.2.length c', q.2.2), (.slice a q.2.1.length c, q.2.1)] wr))
 case atStart => exact ⟨0, a, c, a', c', q0, by omega, rfl, HQ0, M0⟩
 case round =>
  clear k0 M0 HQ0
  obtain ⟨k, a, c, a', c', q, hk, rfl, HQK, HM⟩ := hrel
  by_cases hlt : k < n
  · have n0 : (0 : Int) ≤ (k : Int) := by omega
    have l0 : (k : Int) < (n : Int) := by omega
    have w0 : IntKind.i64.wrap ((k : Int) + 1) = ((k + 1 : Nat) : Int) := IntWalk.i64_in _ (by omega)
    obtain ⟨rfl, hbl⟩ := HA1.out (by omega)
    obtain ⟨rfl, hbl2⟩ := HA2.out (by omega)
    obtain ⟨X, hX⟩ : ∃ X, xs[k]? = some X := ⟨_, List.getElem?_eq_getElem (by have := HL.out; omega)⟩
    obtain ⟨Y, hY⟩ : ∃ Y, ys[k]? = some Y := ⟨_, List.getElem?_eq_getElem (by have := HL.out; omega)⟩
    have hz : (zmul xs ys)[k]? = some (X * Y) := by unfold zmul; rw [List.getElem?_zipWith, hX, hY]
    have hxat := HC1.out k (qr X) (by rw [List.getElem?_map, hX]; rfl)
    have hyat := HC2.out k (qr Y) (by rw [List.getElem?_map, hY]; rfl)
    have hnext := rsum_next hz
    have wX : wt X ≤ 8900 := Nat.le_trans (wt_mem (List.mem_of_getElem? hX)) HL.out.2.2.2.2.1
    have wY : wt Y ≤ 8900 := Nat.le_trans (wt_mem (List.mem_of_getElem? hY)) HL.out.2.2.2.2.2
    have wZ : wt (X * Y) ≤ 8900 := Nat.le_trans (wt_mem (List.mem_of_getElem? hz)) HL.out.2.2.2.1
    have wS : wt (rsum ((zmul xs ys).take k)) ≤ 8901 := Nat.le_trans (wt_rsum _) (by have := wts_take (zmul xs ys) k; have := HL.out.2.2.2.1; omega)
    obtain ⟨S', hS'⟩ : ∃ S', S' = rsum ((zmul xs ys).take (k + 1)) := ⟨_, rfl⟩
    rw [← hS'] at hnext
    have HS' := Lib.hid hS'
    clear hS'
    have hqk := HQK.out
    subst hqk
    generalize rsum ((zmul xs ys).take k) = S at *
    have fX := fit_qr (X := X) (by omega)
    have fY := fit_qr (X := Y) (by omega)
    have fZ := fit_qr (X := X * Y) (by omega)
    have fS := fit_qr (X := S) (by omega)
    obtain ⟨p1, e1, o1, f1, u0, u1, u2, gx, gx'⟩ := hxat
    obtain ⟨p2, e2, o2, f2, v0, v1, v2, gy, gy'⟩ := hyat
    have KM := Lib.hid (fun (W : World) (r : Below w.heap.size w W) => rr_mul (qr_can (X * Y)) rfl (qr_can X).is (qr_can Y).is fX.2.1 fX.2.2 fY.2.1 fY.2.2 (gx.below r) (gx'.below r) (gy.below r) (gy'.below r))
    have KA := Lib.hid (fun (W : World) {pa po pb pq : Option Addr} {qa qo qb qq : Nat} (r1 : Reads W (.slice pa (qr S).2.1.length qa) (qr S).2.1) (r2 : Reads W (.slice po (qr S).2.2.length qo) (qr S).2.2) (r3 : Reads W (.slice pb (qr (X * Y)).2.1.length qb) (qr (X * Y)).2.1) (r4 : Reads W (.slice pq (qr (X * Y)).2.2.length qq) (qr (X * Y)).2.2) => rr_add (qr_can S') hnext.symm (qr_can S).is (qr_can (X * Y)).is fS.2.1 fS.2.2 fZ.2.1 fZ.2.2 r1 r2 r3 r4)
    have M := HM.out
    clear gx gx' gy gy' hX hY hz hnext wX wY wZ wS fX fY fZ fS HA1 HA2 HC1 HC2 HM HQK
    generalize qr X = qx at *
    generalize qr Y = qy at *
    generalize qr (X * Y) = qz at *
    generalize qr S = q at *
    obtain ⟨q9, hq9⟩ : ∃ q, q = qr S' := ⟨_, rfl⟩
    simp only [← hq9] at KA
    have HQ9 := Lib.hid (hq9.trans (by rw [HS'.out]))
    clear hq9
    obtain ⟨s1, l1, d1⟩ := qx
    obtain ⟨s2, l2, d2⟩ := qy
    dsimp only at u0 u1 u2 v0 v1 v2
    go_wp2_with fail
    refine region_mem (S := fun W => Below w.heap.size w W) M (by kernel_rfl) ?_
    intro V0 M
    have hS0 := M.below
    refine wtk 1 (.slice (some ⟨bx, ox, none⟩) n c1) rfl (fun _ _ _ h => h) (Or.inl ⟨by rfl, fun W3 hS => by go_simp⟩) hS0 ?_
    try simp only [Act.put, List.setIfInBounds_toArray, List.set_cons_zero, List.set_cons_succ]
    refine wtk 2 (.int .i64 (k : Int)) rfl (fun _ _ _ h => h) (Or.inl ⟨by rfl, fun W3 hS => by go_simp⟩) hS0 ?_
    try simp only [Act.put, List.setIfInBounds_toArray, List.set_cons_zero, List.set_cons_succ]
    refine wtk 3 (.pointer (some ⟨bx, ox + k * 3, none⟩)) rfl (fun _ _ _ h => h) (Or.inl ⟨by rfl, fun W3 hS => by go_simp⟩) hS0 ?_
    try simp only [Act.put, List.setIfInBounds_toArray, List.set_cons_zero, List.set_cons_succ]
    refine wtk 4 (.agg #[.bool s1, .slice p1 l1.length e1, .slice o1 d1.length f1]) rfl (fun _ _ _ h => h) (Or.inl ⟨by rfl, fun W3 hS => by have c0 := (hS.cell (p := ⟨bx, ox + k * 3, none⟩) hbl).trans u0; have c1 := (hS.cell (p := ⟨bx, ox + k * 3 + 1, none⟩) hbl).trans u1; have c2 := (hS.cell (p := ⟨bx, ox + k * 3 + 2, none⟩) hbl).trans u2; go_simp⟩) hS0 ?_
    try simp only [Act.put, List.setIfInBounds_toArray, List.set_cons_zero, List.set_cons_succ]
    refine wtk 5 (.slice (some ⟨by', oy, none⟩) n c2) rfl (fun _ _ _ h => h) (Or.inl ⟨by rfl, fun W3 hS => by go_simp⟩) hS0 ?_
    try simp only [Act.put, List.setIfInBounds_toArray, List.set_cons_zero, List.set_cons_succ]
    refine wtk 6 (.int .i64 (k : Int)) rfl (fun _ _ _ h => h) (Or.inl ⟨by rfl, fun W3 hS => by go_simp⟩) hS0 ?_
    try simp only [Act.put, List.setIfInBounds_toArray, List.set_cons_zero, List.set_cons_succ]
    refine wtk 7 (.pointer (some ⟨by', oy + k * 3, none⟩)) rfl (fun _ _ _ h => h) (Or.inl ⟨by rfl, fun W3 hS => by go_simp⟩) hS0 ?_
    try simp only [Act.put, List.setIfInBounds_toArray, List.set_cons_zero, List.set_cons_succ]
    refine wtk 8 (.agg #[.bool s2, .slice p2 l2.length e2, .slice o2 d2.length f2]) rfl (fun _ _ _ h => h) (Or.inl ⟨by rfl, fun W3 hS => by have c0 := (hS.cell (p := ⟨by', oy + k * 3, none⟩) hbl2).trans v0; have c1 := (hS.cell (p := ⟨by', oy + k * 3 + 1, none⟩) hbl2).trans v1; have c2 := (hS.cell (p := ⟨by', oy + k * 3 + 2, none⟩) hbl2).trans v2; go_simp⟩) hS0 ?_
    try simp only [Act.put, List.setIfInBounds_toArray, List.set_cons_zero, List.set_cons_succ]
    clear hS0 u0 u1 u2 v0 v1 v2
    refine two_op 0 9 ?_ ?_
    · have z0_0 := M.cell 0 rfl 0 rfl; have z0_1 := M.cell 0 rfl 1 rfl; have z0_2 := M.cell 0 rfl 2 rfl
      refine wpOp_intro rfl (fun K1 hK => ?_)
      go_simp
      clear z0_0 z0_1 z0_2
      refine hK _ _ ⟨M.below, ?_⟩
      clear hK K1
      refine one_op 9 rfl (fun K2 hK => ?_)
      go_simp
      refine (KM.out _ M.below).mono ?_
      rintro e V9 ⟨a3, c3, o3, r3, rfl, g, g', rr⟩
      have M' := ((M.up rr).add g).add g'
      clear M rr g g'
      have M := M'; clear M'
      refine hK _ _ ⟨M.below, ?_⟩
      clear hK K2
      refine one_op 10 rfl (fun K3 hK => ?_)
      go_simp
      refine (KA.out _ (M.get 3 rfl) (M.get 2 rfl) (M.get 1 rfl) (M.get 0 rfl)).mono ?_
      rintro e V10 ⟨a4, c4, o4, r4, rfl, g, g', rr⟩
      have M' := ((M.up rr).add g).add g'
      clear M rr g g'
      have M := M'; clear M'
      refine hK _ _ ⟨M.below, ?_⟩
      clear hK K3
      refine wpAnyH_all (rs := [11]) (by kernel_rfl) (by simp) ?_
      intro i hi
      obtain rfl : i = 11 := by simpa using hi
      clear hi
      have f0_0 := M.fr 0 rfl 0; have f0_1 := M.fr 0 rfl 1; have f0_2 := M.fr 0 rfl 2
      have z0_0 := M.cell 0 rfl 0 rfl; have z0_1 := M.cell 0 rfl 1 rfl; have z0_2 := M.cell 0 rfl 2 rfl
      refine wpOp_intro rfl (fun K4 hK => ?_)
      go_simp
      have M' := (((M.put 0 rfl rfl 0 (.bool q9.1)).put 0 rfl rfl 1 (.slice a4 q9.2.1.length c4)).put 0 rfl rfl 2 (.slice o4 q9.2.2.length r4))
      clear M f0_0 z0_0 f0_1 z0_1 f0_2 z0_2
      have M2 := Lib.hid (M'.two rfl rfl)
      have hS1 := M'.below
      clear M'
      refine hK _ _ ⟨hS1, ?_⟩
      clear hK K4 hS1
      refine wdn ?_
      go_wp2
      go_roundg (n - (k + 1))
      case measure => omega
      case rel => exact ⟨k + 1, a4, c4, o4, r4, q9, by omega, by first | rfl | simp, HQ9, M2⟩
    · refine wpOp_intro rfl (fun K2 hK => ?_)
      go_simp
      refine (KM.out _ M.below).mono ?_
      rintro e V9 ⟨a3, c3, o3, r3, rfl, g, g', rr⟩
      have M' := ((M.up rr).add g).add g'
      clear M rr g g'
      have M := M'; clear M'
      refine hK _ _ ⟨M.below, ?_⟩
      clear hK K2
      refine wpAnyH_all (rs := [0]) (by kernel_rfl) (by simp) ?_
      intro i hi
      obtain rfl : i = 0 := by simpa using hi
      clear hi
      have z0_0 := M.cell 0 rfl 0 rfl; have z0_1 := M.cell 0 rfl 1 rfl; have z0_2 := M.cell 0 rfl 2 rfl
      refine wpOp_intro rfl (fun K1 hK => ?_)
      go_simp
      clear z0_0 z0_1 z0_2
      refine hK _ _ ⟨M.below, ?_⟩
      clear hK K1
      refine one_op 10 rfl (fun K3 hK => ?_)
      go_simp
      refine (KA.out _ (M.get 3 rfl) (M.get 2 rfl) (M.get 1 rfl) (M.get 0 rfl)).mono ?_
      rintro e V10 ⟨a4, c4, o4, r4, rfl, g, g', rr⟩
      have M' := ((M.up rr).add g).add g'
      clear M rr g g'
      have M := M'; clear M'
      refine hK _ _ ⟨M.below, ?_⟩
      clear hK K3
      refine wpAnyH_all (rs := [11]) (by kernel_rfl) (by simp) ?_
      intro i hi
      obtain rfl : i = 11 := by simpa using hi
      clear hi
      have f0_0 := M.fr 0 rfl 0; have f0_1 := M.fr 0 rfl 1; have f0_2 := M.fr 0 rfl 2
      have z0_0 := M.cell 0 rfl 0 rfl; have z0_1 := M.cell 0 rfl 1 rfl; have z0_2 := M.cell 0 rfl 2 rfl
      refine wpOp_intro rfl (fun K4 hK => ?_)
      go_simp
      have M' := (((M.put 0 rfl rfl 0 (.bool q9.1)).put 0 rfl rfl 1 (.slice a4 q9.2.1.length c4)).put 0 rfl rfl 2 (.slice o4 q9.2.2.length r4))
      clear M f0_0 z0_0 f0_1 z0_1 f0_2 z0_2
      have M2 := Lib.hid (M'.two rfl rfl)
      have hS1 := M'.below
      clear M'
      refine hK _ _ ⟨hS1, ?_⟩
      clear hK K4 hS1
      refine wdn ?_
      go_wp2
      go_roundg (n - (k + 1))
      case measure => omega
      case rel => exact ⟨k + 1, a4, c4, o4, r4, q9, by omega, by first | rfl | simp, HQ9, M2⟩
  · obtain rfl : k = n := by omega
    have l0 : ¬ (k : Int) < (k : Int) := by omega
    have hqk := HQK.out
    rw [List.take_of_length_le (by have := HL.out; omega), ← HDD.out] at hqk
    have HQE := Lib.hid hqk
    have M := HM.out
    clear HM hqk HA1 HA2 HC1 HC2
    have z0_0 := M.cell 0 rfl 0 rfl; have z0_1 := M.cell 0 rfl 1 rfl; have z0_2 := M.cell 0 rfl 2 rfl
    have z1_0 := M.cell 1 rfl 0 rfl; have z1_1 := M.cell 1 rfl 1 rfl; have z1_2 := M.cell 1 rfl 2 rfl
    have f1_0 := M.fr 1 rfl 0; have f1_1 := M.fr 1 rfl 1; have f1_2 := M.fr 1 rfl 2
    go_wp2_with fail
    have M' := (((M.put 1 rfl rfl 0 (.bool q.1)).put 1 rfl rfl 1 (.slice a q.2.1.length c)).put 1 rfl rfl 2 (.slice a' q.2.2.length c'))
    refine ret_boxN_tmpV rfl rfl rfl (M'.box 1 rfl) Tryz.underlying30 size_rat rfl ?_
    rw [← HQE.out]
    exact ⟨a, c, a', c', rfl, M'.get 1 rfl, M'.get 0 rfl, M'.below⟩
theorem same_lists {w : World} {v u : Value} {l : List Nat} (h1 : Reads w v l) (h2 : Reads w u l) (hl : l.length ≤ 100000) :
  Calls Tryz.prog 51 #[v, u] w fun e w' => e = .returned (.bool true) ∧ Below w.heap.size w w' := by
 refine (sameNat_any h1 h2 (by omega) (by omega)).mono ?_
 rintro e w' ⟨rfl, n, rfl⟩
 exact ⟨by simp, ⟨rfl, rfl, rfl, Nat.le_refl _, fun k hk => rfl⟩⟩
theorem sameRat_same {w : World} {p1 o1 p2 o2 : Option Addr} {q1 r1 q2 r2 : Nat} {n : Bool} {l d : List Nat} (b1 : l.length ≤ 80000) (b2 : d.length ≤ 80000) (g1 : Reads w (.slice p1 l.length q1) l) (g2 : Reads w (.slice o1 d.length r1) d) (g3 : Reads w (.slice p2 l.length q2) l) (g4 : Reads w (.slice o2 d.length r2) d) :
  Calls Tryz.prog 11 #[.agg #[.bool n, .slice p1 l.length q1, .slice o1 d.length r1], .agg #[.bool n, .slice p2 l.length q2, .slice o2 d.length r2]] w fun e w' => e = .returned (.bool true) ∧ Below w.heap.size w w' := by
 have ki := fun (W : World) (g1 : Reads W (.slice p1 l.length q1) l) (g3 : Reads W (.slice p2 l.length q2) l) => sameInt_any (n1 := n) (n2 := n) (R := true) g1 g3 (by omega) (by omega) (by simp)
 have kn := fun (W : World) (g2 : Reads W (.slice o1 d.length r1) d) (g4 : Reads W (.slice o2 d.length r2) d) => same_lists g2 g4 (by omega)
 have M : Mem w [(w.heap.size + 1, 30, [.bool n, .slice p2 l.length q2, .slice o2 d.length r2]), (w.heap.size, 30, [.bool n, .slice p1 l.length q1, .slice o1 d.length r1])] [(.slice o2 d.length r2, d), (.slice p2 l.length q2, l), (.slice o1 d.length r1, d), (.slice p1 l.length q1, l)]
   ((w.alloc (.cells #[.bool n, .slice p1 l.length q1, .slice o1 d.length r1] 30)).alloc (.cells #[.bool n, .slice p2 l.length q2, .slice o2 d.length r2] 30)) := by
  have M := (((((Mem.start w).add g1).add g2).add g3).add g4).new 30 [.bool n, .slice p1 l.length q1, .slice o1 d.length r1] |>.new 30 [.bool n, .slice p2 l.length q2, .slice o2 d.length r2]
  simpa only [World.size_alloc] using M
 have KI := Lib.hid ki
 have KN := Lib.hid kn
 clear b1 b2 g1 g2 g3 g4 ki kn
 go_enter Tryz.func11, Tryz.ntmps11
 have z0 := M.cell 0 rfl 0 rfl; have z1 := M.cell 0 rfl 1 rfl; have z3 := M.cell 1 rfl 0 rfl; have z4 := M.cell 1 rfl 1 rfl
 go_wp2_with fail
 clear z0 z1 z3 z4
 refine (KI.out _ (M.get 3 rfl) (M.get 1 rfl)).mono ?_
 rintro e w1 ⟨rfl, rr⟩
 have M' := M.up rr; clear M rr; have M := M'; clear M'
 have z0 := M.cell 0 rfl 2 rfl; have z1 := M.cell 1 rfl 2 rfl
 go_wp2_with fail
 refine (KN.out _ (M.get 2 rfl) (M.get 0 rfl)).mono ?_
 rintro e w2 ⟨rfl, rr⟩
 have M' := M.up rr; clear M rr
 go_wp2_with fail
 go_ret
 exact ⟨rfl, M'.below⟩
theorem rv_same {w : World} {a1 a2 : Option Addr} {n c1 c2 : Nat} {xs ys : List Rat} (R : Bool) (hR : R = decide (xs = ys)) (h1 : VReads w (.slice a1 n c1) (xs.map qr)) (h2 : VReads w (.slice a2 n c2) (ys.map qr)) (hwx : ∀ x ∈ xs, wt x ≤ 9999) (hwy : ∀ x ∈ ys, wt x ≤ 9999) (hn : n ≤ 60000) :
  Calls Tryz.prog 15 #[.slice a1 n c1, .slice a2 n c2] w fun e w' => e = .returned (.bool R) ∧ Below w.heap.size w w' := by
 have hx : xs.length = n := by have := h1.addr.1; simpa using this.symm
 have hy : ys.length = n := by have := h2.addr.1; simpa using this.symm
 have fx := fit_each hwx
 have fy := fit_each hwy
 have k1 := Lib.hid (fun (W : World) (r : Below w.heap.size w W) => rv_check true (by rw [all_qok_qr]) (h1.below r) ⟨fx, by simp; omega⟩)
 have k2 := Lib.hid (fun (W : World) (r : Below w.heap.size w W) => rv_check true (by rw [all_qok_qr]) (h2.below r) ⟨fy, by simp; omega⟩)
 obtain ⟨b1, o1, f, ha1, hf⟩ := h1.fn
 obtain ⟨b2, o2, g, ha2, hg⟩ := h2.fn
 have hd1 := h1.addr.2.1
 have hd2 := h2.addr.2.1
 have HF := Lib.hid hf
 have HG := Lib.hid hg
 have HA1 := Lib.hid ha1
 have HA2 := Lib.hid ha2
 have HR := Lib.hid hR
 have HXL := Lib.hid hx
 have HYL := Lib.hid hy
 have HWX := Lib.hid hwx
 have HWY := Lib.hid hwy
 have enn : ((n : Int) != (n : Int)) = false := by simp
 clear h1 h2 hf hg ha1 ha2 hR hx hy hwx hwy fx fy
 go_enter Tryz.func15, Tryz.ntmps15
 go_wp2_with fail
 refine (k1.out _ (Below.refl _ _)).mono ?_
 rintro e w1 ⟨rfl, b1'⟩
 have B1 := Lib.hid b1'
 clear b1' k1
 go_wp2_with fail
 refine (k2.out _ B1.out).mono ?_
 rintro e w2 ⟨rfl, b2'⟩
 have B2 := Lib.hid (then_below B1.out b2')
 clear b2' k2 B1
 go_wp2_with fail
 go_loopg [5] n (fun g s wr => ∃ k : Nat, k + g = n ∧ s = .int .i64 (k : Int) ∧ Hid (∀ j, j < k → xs.getD j 0 = ys.getD j 0) ∧ Hid (Below w.heap.size w wr))
 case atStart => exact ⟨0, by omega, rfl, Lib.hid (fun j hj => by omega), B2⟩
 case round =>
  clear B2
  obtain ⟨k, hk, rfl, HS, HB⟩ := hrel
  by_cases hlt : k < n
  · obtain ⟨rfl, hb1⟩ := HA1.out (by omega)
    obtain ⟨rfl, hb2⟩ := HA2.out (by omega)
    have hf := HF.out k hlt
    have hg := HG.out k hlt
    have n0 : (0 : Int) ≤ (k : Int) := by omega
    have l0 : (k : Int) < (n : Int) := by omega
    have w0 : IntKind.i64.wrap ((k : Int) + 1) = ((k + 1 : Nat) : Int) := IntWalk.i64_in _ (by omega)
    generalize f k = z1 at hf
    generalize g k = z2 at hg
    have e1 := hf.1
    have e2 := hg.1
    rw [qr_at (by have := HXL.out; omega)] at e1
    rw [qr_at (by have := HYL.out; omega)] at e2
    have w1' := HWX.out _ (at_mem (xs := xs) (j := k) (by have := HXL.out; omega))
    have w2' := HWY.out _ (at_mem (xs := ys) (j := k) (by have := HYL.out; omega))
    obtain ⟨X, hX⟩ : ∃ X, X = xs.getD k 0 := ⟨_, rfl⟩
    obtain ⟨Y, hY⟩ : ∃ Y, Y = ys.getD k 0 := ⟨_, rfl⟩
    rw [← hX] at e1 w1'
    rw [← hY] at e2 w2'
    have HX := Lib.hid hX
    have HY := Lib.hid hY
    have fX := fit_qr (X := X) w1'
    have fY := fit_qr (X := Y) w2'
    have cX := qr_can X
    have cY := qr_can Y
    generalize qr X = qx at *
    generalize qr Y = qy at *
    obtain ⟨⟨s, l, d⟩, ⟨p, c⟩, p', c'⟩ := z1
    obtain ⟨⟨s2, l2, d2⟩, ⟨q, e⟩, q', e'⟩ := z2
    dsimp only at e1 e2
    subst e1
    subst e2
    obtain ⟨z, hz⟩ : ∃ z, z = rsg X Y := ⟨_, rfl⟩
    have HZ := Lib.hid hz
    have KS := Lib.hid (show ∀ w5, Below w.heap.size w w5 → ((fun w' : World => w'.cell? ⟨b1, o1 + k * 3, none⟩ = some (.bool s) ∧ w'.cell? ⟨b1, o1 + k * 3 + 1, none⟩ = some (.slice p l.length c) ∧ w'.cell? ⟨b1, o1 + k * 3 + 2, none⟩ = some (.slice p' d.length c') ∧ w'.cell? ⟨b2, o2 + k * 3, none⟩ = some (.bool s2) ∧ w'.cell? ⟨b2, o2 + k * 3 + 1, none⟩ = some (.slice q l2.length e) ∧ w'.cell? ⟨b2, o2 + k * 3 + 2, none⟩ = some (.slice q' d2.length e')) w5) ∧
      Calls Tryz.prog 56 #[.agg #[.bool s, .slice p l.length c, .slice p' d.length c'], .agg #[.bool s2, .slice q l2.length e, .slice q' d2.length e']] w5 fun e w' => e = .returned (.int .i64 z) ∧ Below w.heap.size w w' from fun w5 b5 => by
     obtain ⟨r0, r1, r2⟩ := hf.2.1.below hb1 b5
     obtain ⟨t0, t1, t2⟩ := hg.2.1.below hb2 b5
     have y1 := hf.2.2.below b5
     have y2 := hg.2.2.below b5
     exact ⟨⟨r0, r1, r2, t0, t1, t2⟩, (rr_cmp z HZ.out.symm cX.is cY.is fX.2.1 fX.2.2 fY.2.1 fY.2.2 y1.1 y1.2 y2.1 y2.2).mono fun e w' h => ⟨h.1, then_below b5 h.2⟩⟩)
    have HB0 := Lib.hid (show Below w.heap.size w wr.drew from ⟨HB.out.os, HB.out.tape, HB.out.output, HB.out.size, HB.out.block⟩)
    clear hf hg HF HG HA1 HA2 HWX HWY hX hY hz fX fY cX cY w1' w2'
    cases hb : (z != 0) with
    | false =>
     go_wp2
     go_region_held3 (fun w' => w'.cell? ⟨b1, o1 + k * 3, none⟩ = some (.bool s) ∧ w'.cell? ⟨b1, o1 + k * 3 + 1, none⟩ = some (.slice p l.length c) ∧ w'.cell? ⟨b1, o1 + k * 3 + 2, none⟩ = some (.slice p' d.length c') ∧ w'.cell? ⟨b2, o2 + k * 3, none⟩ = some (.bool s2) ∧ w'.cell? ⟨b2, o2 + k * 3 + 1, none⟩ = some (.slice q l2.length e) ∧ w'.cell? ⟨b2, o2 + k * 3 + 2, none⟩ = some (.slice q' d2.length e'))
      (first
        | exact (KS.out _ HB1.out).1
        | exact (KS.out _ HB0.out).1
        | fail)
      (first
        | (go_at_call 56; (with_reducible refine (KS.out _ HB0.out).2.mono ?_); rintro e w1 ⟨rfl, q1⟩; have HB1 := Lib.hid q1; clear q1)
        | fail)
     go_wp2
     go_roundg (n - (k + 1))
     case measure => omega
     case rel => exact ⟨k + 1, by omega, by first | rfl | simp, Lib.hid (fun j hj => by
      rcases Nat.lt_succ_iff_lt_or_eq.1 hj with h | rfl
      · exact HS.out j h
      · rw [← HX.out, ← HY.out]
        refine (rsg_zero X Y).1 ?_
        rw [← HZ.out]
        simpa using hb), Lib.hid (by first | exact HB1.out | exact ⟨HB1.out.os, HB1.out.tape, HB1.out.output, HB1.out.size, HB1.out.block⟩)⟩
    | true =>
     have h0 : R = false := by
      rw [HR.out]
      refine decide_eq_false fun e => ?_
      have : z = 0 := by rw [HZ.out]; refine (rsg_zero X Y).2 ?_; rw [HX.out, HY.out, e]
      rw [this] at hb
      simp at hb
     subst h0
     go_wp2
     go_region_held3 (fun w' => w'.cell? ⟨b1, o1 + k * 3, none⟩ = some (.bool s) ∧ w'.cell? ⟨b1, o1 + k * 3 + 1, none⟩ = some (.slice p l.length c) ∧ w'.cell? ⟨b1, o1 + k * 3 + 2, none⟩ = some (.slice p' d.length c') ∧ w'.cell? ⟨b2, o2 + k * 3, none⟩ = some (.bool s2) ∧ w'.cell? ⟨b2, o2 + k * 3 + 1, none⟩ = some (.slice q l2.length e) ∧ w'.cell? ⟨b2, o2 + k * 3 + 2, none⟩ = some (.slice q' d2.length e'))
      (first
        | exact (KS.out _ HB1.out).1
        | exact (KS.out _ HB0.out).1
        | fail)
      (first
        | (go_at_call 56; (with_reducible refine (KS.out _ HB0.out).2.mono ?_); rintro e w1 ⟨rfl, q1⟩; have HB1 := Lib.hid q1; clear q1)
        | fail)
     go_wp2
     go_ret
     exact ⟨rfl, by first | exact HB1.out | exact ⟨HB1.out.os, HB1.out.tape, HB1.out.output, HB1.out.size, HB1.out.block⟩⟩
  · obtain rfl : k = n := by omega
    have l0 : ¬ (k : Int) < (k : Int) := by omega
    have h0 : R = true := by rw [HR.out]; exact decide_eq_true (lists_same HXL.out HYL.out HS.out)
    subst h0
    clear HF HG HA1 HA2
    go_wp2_with fail
    go_ret
    exact ⟨rfl, HB.out⟩
theorem rv_same_no {w : World} {a1 a2 : Option Addr} {n1 n2 c1 c2 : Nat} {q1 q2 : List Qr} (hR : (decide (n1 = n2) && (q1.all qok && q2.all qok)) = false) (h1 : VReads w (.slice a1 n1 c1) q1) (h2 : VReads w (.slice a2 n2 c2) q2) (f1 : qrows q1) (f2 : qrows q2) :
   Calls Tryz.prog 15 #[.slice a1 n1 c1, .slice a2 n2 c2] w fun e w' => e = .returned (.bool false) ∧ Below w.heap.size w w' := by
 have k1 := Lib.hid (fun (R : Bool) (hR : R = q1.all qok) (W : World) (r : Below w.heap.size w W) => rv_check R hR (h1.below r) f1)
 have k2 := Lib.hid (fun (R : Bool) (hR : R = q2.all qok) (W : World) (r : Below w.heap.size w W) => rv_check R hR (h2.below r) f2)
 have B0 := Lib.hid (Below.refl w.heap.size w)
 obtain ⟨R1, hR1⟩ : ∃ R, R = q1.all qok := ⟨_, rfl⟩
 obtain ⟨R2, hR2⟩ : ∃ R, R = q2.all qok := ⟨_, rfl⟩
 rw [← hR1, ← hR2] at hR
 have HR1 := Lib.hid hR1
 have HR2 := Lib.hid hR2
 clear h1 h2 f1 f2 hR1 hR2
 by_cases hn : n1 = n2
 · have enn : ((n1 : Int) != (n2 : Int)) = false := by rw [hn]; simp
   have HN := Lib.hid hn
   cases R1 with
   | false =>
    clear hR hn
    go_enter Tryz.func15, Tryz.ntmps15
    go_wp2_with fail
    refine (k1.out false HR1.out _ B0.out).mono ?_
    rintro e w1 ⟨rfl, r⟩
    have B1 := Lib.hid (then_below B0.out r)
    clear r
    go_wp2_with fail
    go_ret
    exact ⟨rfl, B1.out⟩
   | true =>
    have h2 : R2 = false := by simpa [hn] using hR
    subst h2
    clear hR hn
    go_enter Tryz.func15, Tryz.ntmps15
    go_wp2_with fail
    refine (k1.out true HR1.out _ B0.out).mono ?_
    rintro e w1 ⟨rfl, r⟩
    have B1 := Lib.hid (then_below B0.out r)
    clear r
    go_wp2_with fail
    refine (k2.out false HR2.out _ B1.out).mono ?_
    rintro e w1 ⟨rfl, r⟩
    have B1 := Lib.hid (then_below B1.out r)
    clear r
    go_wp2_with fail
    go_ret
    exact ⟨rfl, B1.out⟩
 · have enn : ((n1 : Int) != (n2 : Int)) = true := bne_iff_ne.2 (by omega)
   clear hR hn
   go_enter Tryz.func15, Tryz.ntmps15
   go_wp2_with fail
   go_ret
   exact ⟨rfl, B0.out⟩
theorem rv_dot_no {w : World} {a1 a2 : Option Addr} {n1 n2 c1 c2 : Nat} {q1 q2 : List Qr} (hR : (decide (n1 = n2) && (q1.all qok && q2.all qok)) = false) (h1 : VReads w (.slice a1 n1 c1) q1) (h2 : VReads w (.slice a2 n2 c2) q2) (f1 : qrows q1) (f2 : qrows q2) :
   Calls Tryz.prog 10 #[.slice a1 n1 c1, .slice a2 n2 c2] w fun e w' => e = .returned (.tuple #[.agg #[.bool false, .slice none 0 0, .slice none 0 0], .int .i64 1]) ∧ Below w.heap.size w w' := by
 have k1 := Lib.hid (fun (R : Bool) (hR : R = q1.all qok) (W : World) (r : Below w.heap.size w W) => rv_check R hR (h1.below r) f1)
 have k2 := Lib.hid (fun (R : Bool) (hR : R = q2.all qok) (W : World) (r : Below w.heap.size w W) => rv_check R hR (h2.below r) f2)
 have M := Lib.hid (show Mem w [(w.heap.size, 30, [.bool false, .slice none 0 0, .slice none 0 0])] [] (w.alloc (.cells #[.bool false, .slice none 0 0, .slice none 0 0] 30)) from (Mem.start w).new _ _)
 have B0 := Lib.hid M.out.below
 obtain ⟨R1, hR1⟩ : ∃ R, R = q1.all qok := ⟨_, rfl⟩
 obtain ⟨R2, hR2⟩ : ∃ R, R = q2.all qok := ⟨_, rfl⟩
 rw [← hR1, ← hR2] at hR
 have HR1 := Lib.hid hR1
 have HR2 := Lib.hid hR2
 clear h1 h2 f1 f2 hR1 hR2
 by_cases hn : n1 = n2
 · have enn : ((n1 : Int) != (n2 : Int)) = false := by rw [hn]; simp
   have HN := Lib.hid hn
   cases R1 with
   | false =>
    clear hR hn
    go_enter Tryz.func10, Tryz.ntmps10
    go_wp2_with fail
    refine (k1.out false HR1.out _ B0.out).mono ?_
    rintro e w1 ⟨rfl, r⟩
    have M1 := Lib.hid (M.out.up r)
    clear r
    have f0 := M1.out.fr 0 rfl 0; have f1 := M1.out.fr 0 rfl 1; have f2 := M1.out.fr 0 rfl 2
    have z0 := M1.out.cell 0 rfl 0 rfl; have z1 := M1.out.cell 0 rfl 1 rfl; have z2 := M1.out.cell 0 rfl 2 rfl
    go_wp2_with fail
    have M2 := (((M1.out.put 0 rfl rfl 0 (.bool false)).put 0 rfl rfl 1 (.slice none 0 0)).put 0 rfl rfl 2 (.slice none 0 0))
    refine ret_boxN_tmpV rfl rfl rfl (M2.box 0 rfl) Tryz.underlying30 size_rat rfl ?_
    exact ⟨rfl, M2.below⟩
   | true =>
    have h2 : R2 = false := by simpa [hn] using hR
    subst h2
    clear hR hn
    go_enter Tryz.func10, Tryz.ntmps10
    go_wp2_with fail
    refine (k1.out true HR1.out _ B0.out).mono ?_
    rintro e w1 ⟨rfl, r⟩
    have M0 := Lib.hid (M.out.up r)
    have B1 := Lib.hid M0.out.below
    clear r
    go_wp2_with fail
    refine (k2.out false HR2.out _ B1.out).mono ?_
    rintro e w1 ⟨rfl, r⟩
    have M1 := Lib.hid (M0.out.up r)
    clear r
    have f0 := M1.out.fr 0 rfl 0; have f1 := M1.out.fr 0 rfl 1; have f2 := M1.out.fr 0 rfl 2
    have z0 := M1.out.cell 0 rfl 0 rfl; have z1 := M1.out.cell 0 rfl 1 rfl; have z2 := M1.out.cell 0 rfl 2 rfl
    go_wp2_with fail
    have M2 := (((M1.out.put 0 rfl rfl 0 (.bool false)).put 0 rfl rfl 1 (.slice none 0 0)).put 0 rfl rfl 2 (.slice none 0 0))
    refine ret_boxN_tmpV rfl rfl rfl (M2.box 0 rfl) Tryz.underlying30 size_rat rfl ?_
    exact ⟨rfl, M2.below⟩
 · have enn : ((n1 : Int) != (n2 : Int)) = true := bne_iff_ne.2 (by omega)
   clear hR hn
   go_enter Tryz.func10, Tryz.ntmps10
   go_wp2_with fail
   refine ret_boxN_tmpV rfl rfl rfl (M.out.box 0 rfl) Tryz.underlying30 size_rat rfl ?_
   exact ⟨rfl, M.out.below⟩
theorem gk0 (W : World) : ∀ t ∈ ([] : List GI), GOK W t := fun _ h => by cases h
theorem gkc {W : World} {x : GI} {l : List GI} (h : GOK W x) (k : ∀ t ∈ l, GOK W t) : ∀ t ∈ x :: l, GOK W t := fun t ht => by
 rcases List.mem_cons.1 ht with rfl | h1
 · exact h
 · exact k _ h1
theorem zb_of {zs : List Zr} {qs : List Qr} (hm : zs.map (·.1) = qs) (hb : ∀ q ∈ qs, q.2.1.length ≤ 100000 ∧ q.2.2.length ≤ 100000) : ∀ z ∈ zs, z.1.2.1.length ≤ 2000000 ∧ z.1.2.2.length ≤ 2000000 := fun z hz => by
 have := hb z.1 (by rw [← hm]; exact List.mem_map_of_mem hz)
 omega
theorem twinR_fr {w : World} {v : Value} {qs : List Qr} {n : Nat} (hn : n = qs.length) (h : VReads w v qs) (hl : n ≤ 65536) (hb : ∀ q ∈ qs, q.2.1.length ≤ 100000 ∧ q.2.2.length ≤ 100000) :
  Calls Tryz.prog 8 #[v] w fun e w' => ∃ g c ps, e = .returned (.slice (some ⟨g, 0, none⟩) n c) ∧ TwR w' w.heap.size g c qs ∧ FR w' w.heap.size w'.heap.size (some ⟨g, 0, none⟩) n c ps ∧ Below w.heap.size w w' := by
 subst hn
 refine (twinR_own h hl hb).mono ?_
 rintro e w' ⟨g, c, rfl, t, ⟨zs, hm, hr, ho⟩, r⟩
 exact ⟨g, c, zs.map zfp, rfl, t, fr_of (by rw [← hm, List.length_map]) hr ho (zb_of hm hb), r⟩
theorem TwR.vreads' {W : World} {B g c n : Nat} {qs : List Qr} (h : TwR W B g c qs) (hn : n = qs.length) : VReads W (.slice (some ⟨g, 0, none⟩) n c) qs := by subst hn; exact h.vreads
theorem leftR_n {W : World} {B g c n : Nat} {v : Value} {qs : List Qr} (hn : n = qs.length) (T : TwR W B g c qs) (h : VReads W v qs) (hl : n ≤ 65536) (hb : ∀ q ∈ qs, q.2.1.length ≤ 100000 ∧ q.2.2.length ≤ 100000) :
  Calls Tryz.prog 16 #[.slice (some ⟨g, 0, none⟩) n c, v] W fun e w' => e = .returned (.bool true) ∧ Below W.heap.size W w' := by
 subst hn; exact leftR_any T h hl hb
theorem VFO.fr {W : World} {base n : Nat} {a : Option Addr} {c : Nat} {zs : List Zr} {qs : List Qr} (h : VFO W base (.slice a n c) zs) (hm : zs.map (·.1) = qs) (hn : n = qs.length) (hb : ∀ q ∈ qs, q.2.1.length ≤ 100000 ∧ q.2.2.length ≤ 100000) : FR W base W.heap.size a n c (zs.map zfp) := by
 have hl : zs.length = n := by rw [hn, ← hm, List.length_map]
 exact fr_of hl (by have := h.1.1.1; rw [hl] at this ⊢; exact this) h.2 (zb_of hm hb)
theorem not_in {B : Nat} {W : World} {n : Nat} {u v : Value} {eb et : List (Value × Nat)} (h : BT W B n u v eb et) {top : Nat} (ht : top ≤ B) : ∀ g, g < top → ¬ (g = B ∨ u.ownBlock = some g ∨ v.ownBlock = some g) := fun g hg e => by
 rcases e with e | e | e
 · omega
 · have := (h.bu g e).1; omega
 · have := (h.bv g e).1; omega
theorem bt_fr {W W0 : World} {B n base top : Nat} {u v : Value} {eb et : List (Value × Nat)} {a : Option Addr} {l c : Nat} {ps : List Fp} (h : BT W B n u v eb et) (F : FR W0 base top a l c ps) (hF : Below B W0 W) (ht : top ≤ B) (hn : n + 2 * l ≤ 100000) (hl : eb.length + 2 * l ≤ 100000) (hl2 : et.length ≤ 100000) :
  Calls Tryz.prog 17 #[.pointer (some ⟨B, 0, none⟩), .slice a l c] W fun e w' => e = .returned (.tuple #[]) ∧ ∃ u' v', BT w' B (n + 2 * l + 1) u' v' (eb ++ tolds (fx ps) (fy ps) n l) (et ++ [(.slice a l c, n + 2 * l + 1)]) ∧ Below B W w' := by
 refine (bt_rats h hn hl hl2 ((F.below (hF.mono ht)).rowR (not_in h ht))).mono ?_
 rintro e w' ⟨rfl, u', v', h1, h2⟩
 exact ⟨rfl, u', v', h1, h2.bel⟩
theorem bt_rat' {W : World} {B n : Nat} {u v : Value} {eb et : List (Value × Nat)} {s : Bool} {a a2 : Option Addr} {l c l2 c2 : Nat} (h : BT W B n u v eb et) (hn : n + 1 ≤ 100000) (hl : eb.length + 1 ≤ 100000) :
  Calls Tryz.prog 18 #[.pointer (some ⟨B, 0, none⟩), .agg #[.bool s, .slice a l c, .slice a2 l2 c2]] W fun e w' => e = .returned (.tuple #[]) ∧ ∃ u', BT w' B (n + 2) u' v (eb ++ [(.slice a l c, n + 1), (.slice a2 l2 c2, n + 2)]) et ∧ Below B W w' := by
 refine (bt_rat h hn hl).mono ?_
 rintro e w' ⟨rfl, u', h1, h2⟩
 exact ⟨rfl, u', h1, h2.bel⟩
theorem seg_own {W W' : World} {base top i j : Nat} {s : Bool} {a a' : Option Addr} {c c' : Nat} {l d : List Nat} (h1 : Fresh W base (.slice a l.length c) l) (h2 : Fresh W base (.slice a' d.length c') d) (tw : Two (.slice a l.length c) (.slice a' d.length c')) (bl : l.length ≤ 2000000) (bd : d.length ≤ 2000000) (hb : Below W.heap.size W W') (hs : base ≤ W.heap.size) (ht : W.heap.size ≤ top) (hi : i ≤ 100000) (hj : j ≤ 100000) : Seg W' base top [(.slice a l.length c, i), (.slice a' d.length c', j)] [] :=
 seg_rat (p := (s, (a, l.length, c), (a', d.length, c'))) (Nat.le_trans hs ht) (((part_of h1 bl).below hb).wide (Nat.le_refl _) ht) (((part_of h2 bd).below hb).wide (Nat.le_refl _) ht) tw hi hj
end
end Go.Proofs.YtdjfooflhpkcbaaGreatDoor
