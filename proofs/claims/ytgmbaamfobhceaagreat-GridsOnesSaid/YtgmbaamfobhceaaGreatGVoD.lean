/- Rows of fractions whose parts are memory of their own. Rows of fractions: what is made of two, place by place, in memory of its own. Rows of .. -/
import Derived.Test.YtgmbaamfobhceaaGreatGNtG
import Derived.Test.YtgmbaamfobhceaaGreatGRTv
import Derived.Test.YtgmbaamfobhceaaGreatGVecF
import Derived.Test.YtgmbaamfobhceaaGreatGRatOpO
set_option linter.unusedSimpArgs false
set_option linter.unusedVariables false
set_option maxRecDepth 100000
set_option maxHeartbeats 4000000
namespace Go.Proofs.YtgmbaamfobhceaaGreat
open Go Go.Proofs Go.RowKit Go.Shelf Nu
def ZOw (W : World) (base : Nat) (z : Zr) : Prop := Fresh W base (.slice z.2.1.1 z.1.2.1.length z.2.1.2) z.1.2.1 ∧ Fresh W base (.slice z.2.2.1 z.1.2.2.length z.2.2.2) z.1.2.2
def zpv (z : Zr) : List Value := [.slice z.2.1.1 z.1.2.1.length z.2.1.2, .slice z.2.2.1 z.1.2.2.length z.2.2.2]
def OwnL (W : World) (base : Nat) (zs : List Zr) : Prop := (∀ z ∈ zs, ZOw W base z) ∧ (zs.flatMap zpv).Pairwise Two
section
variable {W W' : World} {base : Nat} {z : Zr} {zs : List Zr}
theorem ZOw.off {t : TypeId} (h : ZOw W base z) (ho : Off t W W') (ht : 127 ≠ t) : ZOw W' base z := ⟨own_off h.1 ho ht, own_off h.2 ho ht⟩
theorem ZOw.below (h : ZOw W base z) (hb : Below W.heap.size W W') : ZOw W' base z := ⟨h.1.below hb, h.2.below hb⟩
theorem ZOw.mono {base' : Nat} (h : ZOw W base z) (hb : base' ≤ base) : ZOw W base' z := ⟨h.1.mono hb, h.2.mono hb⟩
theorem ZOw.zin (h : ZOw W base z) : ZIn W z := ⟨h.1.reads, h.2.reads⟩
theorem ZOw.lies (h : ZOw W base z) {x : Value} (hx : x ∈ zpv z) {g : Nat} (e : x.ownBlock = some g) : base ≤ g ∧ g < W.heap.size := by
 simp only [zpv, List.mem_cons, List.not_mem_nil, or_false] at hx
 rcases hx with rfl | rfl
 · exact World.ownsRow.lt h.1 g e
 · exact World.ownsRow.lt h.2 g e
theorem OwnL.nil : OwnL W base [] := ⟨fun z h => (by cases h), List.Pairwise.nil⟩
theorem OwnL.off {t : TypeId} (h : OwnL W base zs) (ho : Off t W W') (ht : 127 ≠ t) : OwnL W' base zs := ⟨fun z hz => (h.1 z hz).off ho ht, h.2⟩
theorem OwnL.below (h : OwnL W base zs) (hb : Below W.heap.size W W') : OwnL W' base zs := ⟨fun z hz => (h.1 z hz).below hb, h.2⟩
theorem OwnL.mono {base' : Nat} (h : OwnL W base zs) (hb : base' ≤ base) : OwnL W base' zs := ⟨fun z hz => (h.1 z hz).mono hb, h.2⟩
theorem OwnL.lies (h : OwnL W base zs) {x : Value} (hx : x ∈ zs.flatMap zpv) {g : Nat} (e : x.ownBlock = some g) : base ≤ g ∧ g < W.heap.size := by
 obtain ⟨z, hz, hx⟩ := List.mem_flatMap.1 hx
 exact (h.1 z hz).lies hx e
theorem OwnL.snoc (h : OwnL W base zs) (hb : Below W.heap.size W W') (hs : base ≤ W.heap.size) (hz : ZOw W' W.heap.size z) (ht : Two (.slice z.2.1.1 z.1.2.1.length z.2.1.2) (.slice z.2.2.1 z.1.2.2.length z.2.2.2)) : OwnL W' base (zs ++ [z]) := by
 refine ⟨fun y hy => ?_, ?_⟩
 · rcases List.mem_append.1 hy with hy | hy
   · exact (h.1 y hy).below hb
   · obtain rfl := List.mem_singleton.1 hy
     exact hz.mono hs
 · rw [List.flatMap_append, List.pairwise_append]
   refine ⟨h.2, ?_, fun x hx y hy => ?_⟩
   · rw [List.flatMap_singleton]
     refine List.pairwise_cons.2 ⟨fun y hy => ?_, List.pairwise_singleton _ _⟩
     obtain rfl := List.mem_singleton.1 hy
     exact ht
   · rw [List.flatMap_singleton] at hy
     cases e : x.ownBlock with
     | none => exact .inl e
     | some g =>
      refine .inr fun e2 => ?_
      have h1 := (h.lies hx e).2
      have h2 := (hz.lies hy (e2 ▸ e)).1
      omega
end
def RAnsO (base : Nat) (w : World) (X : Rat) (e : Ending) (w' : World) : Prop :=
 ∃ a c a' c', e = .returned (.agg #[.bool (qr X).1, .slice a (qr X).2.1.length c, .slice a' (qr X).2.2.length c']) ∧ Fresh w' base (.slice a (qr X).2.1.length c) (qr X).2.1 ∧ Fresh w' base (.slice a' (qr X).2.2.length c') (qr X).2.2 ∧ Two (.slice a (qr X).2.1.length c) (.slice a' (qr X).2.2.length c') ∧ Below w.heap.size w w'
def VFO (W : World) (base : Nat) (v : Value) (zs : List Zr) : Prop := VF W base v zs ∧ OwnL W base zs
theorem VFO.below {W W' : World} {base : Nat} {v : Value} {zs : List Zr} (h : VFO W base v zs) (hb : Below W.heap.size W W') : VFO W' base v zs := ⟨h.1.below hb, h.2.below hb⟩
theorem VFO.alloc {W : World} {base : Nat} {v : Value} {zs : List Zr} (h : VFO W base v zs) (o : Obj) : VFO (W.alloc o) base v zs := h.below ((Below.refl _ _).alloc (Nat.le_refl _) o)
theorem VFO.lt {W : World} {base g : Nat} {v : Value} {zs : List Zr} (h : VFO W base v zs) (hg : v.ownBlock = some g) : base ≤ g ∧ g < W.heap.size := h.1.lt hg
theorem VFO.form {W : World} {base : Nat} {v : Value} {zs : List Zr} (h : VFO W base v zs) : ∃ a cap, v = .slice a zs.length cap := h.1.form
theorem VFO.grow {W w3 : World} {base : Nat} {v v' : Value} {zs ys : List Zr} {tmp : Obj} (h : VF W base v zs) (ho : OwnL W base ys) (hgrow : (W.alloc tmp).grownBy w3 v.ownBlock) (h3 : VF w3 base v' ys) : VFO w3 base v' ys :=
 ⟨h3, ho.off ((Off.alloc W tmp).trans (Off.of_grown (World.ownsRow.alloc h.1.1 _) hgrow)) (by decide)⟩
end Go.Proofs.YtgmbaamfobhceaaGreat
namespace Go.Proofs.YtgmbaamfobhceaaGreat
open Go Go.Proofs Go.RowKit Go.Shelf Nu
set_option linter.unusedVariables false
set_option linter.unusedSimpArgs false
attribute [local go_sem] Oper.semAt_some
theorem ZOw.offc {W W' : World} {base M : Nat} {z : Zr} {row : Option Nat} (h : ZOw W base z) (hg : W.grownBy W' row) (hr : OffCells M row W) : ZOw W' base z := by
 have key : ∀ {x : Value} {l : List Nat}, Fresh W base x l → Fresh W' base x l := by
  intro x l hx
  refine hx.keptr hg ?_
  rcases hx.2 with ⟨rfl, _⟩ | ⟨g, cap, cur, rfl, _, hgb, _⟩
  · exact .inl rfl
  · refine .inr fun e' => ?_
    obtain ⟨_, o, ho, hc⟩ := hr g (by simpa [Value.ownBlock] using e'.symm)
    rw [hgb] at ho; cases ho; cases hc
 exact ⟨key h.1, key h.2⟩
theorem VFO.off {W W' : World} {base M : Nat} {v : Value} {zs : List Zr} {row : Option Nat} (h : VFO W base v zs) (hg : W.grownBy W' row) (hr : OffCells M row W) : VFO W' base v zs :=
 ⟨h.1.off hg hr, fun z hz => (h.2.1 z hz).offc hg hr, h.2.2⟩
theorem VFO.box {W : World} {base B : Nat} {v : Value} {zs : List Zr} {t : TypeId} {u : Value} (h : VFO W base v zs) (hB : Boxed W B t u) (ht : t ≠ 44) (ht2 : 127 ≠ t) (hu : no32 u = true) (x : Value) : VFO (W.setCell ⟨B, 0, none⟩ x) base v zs :=
 ⟨h.1.box hB ht hu x, h.2.off (Off.put (show BoxN W B t ([u] : List Value).toArray from hB) 0 x) ht2⟩
def JInvO (w : World) (F0 v1 v2 : Value) (s : Nat) (zs : List Rat) (k : Nat) (W : World) : Prop :=
  (∃ (v : Value) (ys : List Zr), ys.map (·.1) = (zs.take k).map qr ∧ Boxed W s 30 v ∧ VFO W w.heap.size v ys) ∧
  Boxed W w.heap.size 86 F0 ∧ Boxed W (s + 1) 30 v1 ∧ Boxed W (s + 1 + 1) 30 v2 ∧ Below w.heap.size w W
theorem JInvO.own {w : World} {F0 v1 v2 : Value} {s : Nat} {zs : List Rat} {M : Nat} (hM : w.heap.size ≤ M) : OwnFrom M (JInvO w F0 v1 v2 s zs) := by
 rintro k W W' row ⟨⟨v, ys, h0, h1, h2⟩, h3, h4, h5, h6⟩ hg hr
 exact ⟨⟨v, ys, h0, keepBox h1 hg hr, h2.off hg hr⟩, keepBox h3 hg hr, keepBox h4 hg hr, keepBox h5 hg hr, keepBelow h6 (Nat.le_refl _) hM hg hr⟩
def JMidO (w : World) (v : Value) (ys : List Zr) (F0 v1 v2 : Value) (s B1 B2 : Nat) (c1 c2 : Array Value) (_ : Unit) (W : World) : Prop :=
 Boxed W s 30 v ∧ VFO W w.heap.size v ys ∧ Boxed W w.heap.size 86 F0 ∧ Boxed W (s + 1) 30 v1 ∧ Boxed W (s + 1 + 1) 30 v2 ∧ Below w.heap.size w W ∧ BoxN W B1 44 c1 ∧ BoxN W B2 44 c2
theorem JMidO.own {w : World} {v : Value} {ys : List Zr} {F0 v1 v2 : Value} {s B1 B2 : Nat} {c1 c2 : Array Value} {M : Nat} (hM : w.heap.size ≤ M) : OwnFrom M (JMidO w v ys F0 v1 v2 s B1 B2 c1 c2) := by
 rintro u W W' row ⟨h1, h2, h3, h4, h5, h6, h7, h8⟩ hg hr
 exact ⟨keepBox h1 hg hr, h2.off hg hr, keepBox h3 hg hr, keepBox h4 hg hr, keepBox h5 hg hr, keepBelow h6 (Nat.le_refl _) hM hg hr, keepBoxN h7 hg hr, keepBoxN h8 hg hr⟩
theorem VFO.one {W : World} {base : Nat} {a : Option Addr} {cap : Nat} {z : Zr} (h : VFO W base (.slice a 1 cap) [z]) : ∃ b, a = some ⟨b, 0, none⟩ ∧ b < W.heap.size ∧ 1 ≤ cap ∧ W.cell? ⟨b, 0, none⟩ = some (.bool z.1.1) ∧ W.cell? ⟨b, 1, none⟩ = some (.slice z.2.1.1 z.1.2.1.length z.2.1.2) ∧ W.cell? ⟨b, 2, none⟩ = some (.slice z.2.2.1 z.1.2.2.length z.2.2.2) := by
 have hr := h.1.1.1
 rcases hr.2 with ⟨e, _⟩ | ⟨g, cap', cur, e, hb, hg, hn, _⟩
 · cases e
 · cases e
   refine ⟨g, rfl, (Array.getElem?_eq_some_iff.1 hg).1, hn, ?_, ?_, ?_⟩
   · have := World.ownsRow.cellAt hr 0 (by decide); rw [this]; rfl
   · have := World.ownsRow.cellAt hr 1 (by decide); rw [this]; rfl
   · have := World.ownsRow.cellAt hr 2 (by decide); rw [this]; rfl
theorem rans_own {w : World} {X : Rat} {e : Ending} {w' : World} {base : Nat} (hb : base ≤ w.heap.size) (h : ∃ a c a' c', e = .returned (.agg #[.bool (qr X).1, .slice a (qr X).2.1.length c, .slice a' (qr X).2.2.length c']) ∧ Fresh w' w.heap.size (.slice a (qr X).2.1.length c) (qr X).2.1 ∧ Fresh w' w.heap.size (.slice a' (qr X).2.2.length c') (qr X).2.2 ∧ Below w.heap.size w w' ∧ Two (.slice a (qr X).2.1.length c) (.slice a' (qr X).2.2.length c')) : RAnsO base w X e w' := by
 obtain ⟨a, c, a', c', h1, h2, h3, h4, h5⟩ := h
 exact ⟨a, c, a', c', h1, h2.mono hb, h3.mono hb, h5, h4⟩
theorem VFO.mono {W : World} {base b' : Nat} {v : Value} {zs : List Zr} (h : VFO W base v zs) (hb : b' ≤ base) : VFO W b' v zs := ⟨⟨⟨own_le h.1.1.1 hb, h.1.1.2⟩, h.1.2⟩, h.2.mono hb⟩
theorem v_scale_ow2 {w : World} {a : Option Addr} {n cap : Nat} {qs : List Qr} {T : Rat} {b : Bool} {l d : List Nat} {pb ob : Option Addr} {qb rb : Nat} (h : VReads w (.slice a n cap) qs) (hq : qrows qs) (hT : RIs b l d T) (b1 : l.length ≤ 9999) (b2 : d.length ≤ 9999) (g5 : Reads w (.slice pb l.length qb) l) (g6 : Reads w (.slice ob d.length rb) d) :
    Calls Tryz.prog 45 #[.slice a n cap, .agg #[.bool b, .slice pb l.length qb, .slice ob d.length rb]] w fun e w' => ∃ v zs, e = .returned v ∧ VFO w' (w.heap.size + 1) v zs ∧ zs.map (·.1) = (scl T (qs.map qval)).map qr ∧ Below w.heap.size w w' := by
  obtain ⟨i0, hi, hz0, hz1, hz2⟩ := info_parts info_rat
  obtain ⟨hn, hcap, bb, off, ha, hc⟩ := h.addr
  have hn1 : n ≤ 65536 := hn ▸ hq.2
  have hzl : (scl T (qs.map qval)).length = n := by simp [scl, hn]
  have hk : ∀ (j : Nat) (_ : j < n) (W : World) (p o : Option Addr) (c e : Nat) (_ : Reads W (.slice p (qs.getD j default).2.1.length c) (qs.getD j default).2.1) (_ : Reads W (.slice o (qs.getD j default).2.2.length e) (qs.getD j default).2.2) (_ : Below w.heap.size w W),
      Calls Tryz.prog 59 #[.agg #[.bool (qs.getD j default).1, .slice p (qs.getD j default).2.1.length c, .slice o (qs.getD j default).2.2.length e], .agg #[.bool b, .slice pb l.length qb, .slice ob d.length rb]] W (RAnsO W.heap.size W ((scl T (qs.map qval)).getD j 0)) := by
    intro j hj W p o c e g1 g2 r
    have hm := qs_mem (qs := qs) (j := j) (by omega)
    rw [scl_at (by omega)]
    have hf := hq.1 _ hm
    exact (r_mul_own hf.is hT (qr_can _) rfl hf.2.1 hf.2.2 b1 b2 g1 g2 (g5.below r) (g6.below r)).mono fun e w' h => rans_own (Nat.le_refl _) h
  have HK := Lib.hid hk
  have HN := Lib.hid hn
  have HC := Lib.hid hc
  have HA := Lib.hid ha
  have HZ := Lib.hid hzl
  generalize scl T (qs.map qval) = zs at *
  clear h hq hT b1 b2 g5 g6 hn hc ha hzl hk
  go_enter Tryz.func45, Tryz.ntmps45
  go_wp2_with ((at_make; go_loud (refine wpList_make_rat hi hz0 hz1 hz2 _ rfl _ _ rfl (w.heap.size + 1) .i64 .i64 n rfl rfl (by omega) (by simp) ?_); intro w1 hV1 hgrow1))
  have hbel1 : Below w.heap.size w w1 := ((Below.refl _ _).alloc (Nat.le_refl _) _).grown hgrow1 (by simp) (fun _ e => by cases e)
  have hbx : BoxN w1 w.heap.size 44 #[.bool b, .slice pb l.length qb, .slice ob d.length rb] := (hgrow1.block _ (by simp) (by simp)).trans (BoxN.new w _ _)
  simp only [World.size_alloc] at hV1
  have HB1 := Lib.hid hbel1
  have HX1 := Lib.hid hbx
  have HV1 : Hid (VFO w1 (w.heap.size + 1) _ []) := Lib.hid ⟨hV1, OwnL.nil⟩
  clear hbel1 hbx hV1 hgrow1
  go_loopw [5, 13] (fun v i wr => ∃ (k : Nat) (ys : List Zr) (av : Option Addr) (cv : Nat), k ≤ n ∧ i = .int .i64 k ∧ v = .slice av k cv ∧ Hid (ys.map (·.1) = (zs.take k).map qr) ∧ Hid (VFO wr (w.heap.size + 1) (.slice av k cv) ys) ∧ Hid (BoxN wr w.heap.size 44 #[.bool b, .slice pb l.length qb, .slice ob d.length rb]) ∧ Hid (Below w.heap.size w wr)) (fun _ i _ => n - (intOf i).toNat)
  case atStart => exact ⟨0, [], _, _, Nat.zero_le _, rfl, rfl, Lib.hid rfl, HV1, HX1, HB1⟩
  case round =>
    obtain ⟨k, ys, av, cv, hk, rfl, rfl, HM, HV, HX, HB⟩ := hrel
    by_cases hlt : k < n
    · obtain ⟨rfl, hbl⟩ := HA.out (by omega)
      have hk2 : k < qs.length := by have := HN.out; omega
      have hqat := (HC.out k _ (qs_at hk2)).below hbl HB.out
      have hcall := HK.out k hlt
      obtain ⟨X, hX⟩ : ∃ X, X = zs.getD k 0 := ⟨_, rfl⟩
      rw [← hX] at hcall
      have HXX := Lib.hid hX
      unfold RAnsO at hcall
      generalize qs.getD k default = q at *
      obtain ⟨s, l1, d1⟩ := q
      obtain ⟨p, c, p', c', h0, h1, h2, g1, g2⟩ := hqat
      dsimp only at h0 h1 h2 g1 g2 hcall
      have hyl : ys.length = k := by
        have := congrArg List.length HM.out
        simp only [List.length_map, List.length_take] at this
        have := HZ.out; omega
      have HYL := Lib.hid hyl
      have x0 := HX.out.cell 0 _ rfl
      have x1 := HX.out.cell 1 _ rfl
      have x2 := HX.out.cell 2 _ rfl
      have hwl := HX.out.lt
      have G1 := Lib.hid g1
      have G2 := Lib.hid g2
      clear g1 g2 hk2 hX hyl HA HC HK
      go_wp2_with fail
      have al : Below wr.heap.size wr (wr.alloc (.cells #[.bool s, .slice p l1.length c, .slice p' d1.length c'] 44)) := (Below.refl _ _).alloc (Nat.le_refl _) _
      refine (hcall _ _ _ _ _ (G1.out.below al) (G2.out.below al) (then_below HB.out al)).mono ?_
      rintro e w2 ⟨a3, c3, o3, r3, rfl, f, f', tw, rr⟩
      have g := f.reads
      have g' := f'.reads
      have rb := then_below al rr
      have HB2 := Lib.hid (then_below HB.out rb)
      have HX2 := Lib.hid (HX.out.under rb)
      have HV2 := Lib.hid (HV.out.below rb)
      have HL2 := Lib.hid (HV.out.2.snoc (z := (qr X, (a3, c3), (o3, r3))) rb HX.out.lt ⟨f.mono al.size, f'.mono al.size⟩ tw)
      clear al rr rb hcall h0 h1 h2 x0 x1 x2 HB HX HV G1 G2 f f' tw
      have hs2 : w.heap.size + 1 ≤ w2.heap.size := HX2.out.lt
      go_wp2_with ((at_builtin; go_loud (refine wpList_append_rat hi hz0 hz1 hz2 w2 rfl _ _ rfl (w.heap.size + 1) (.slice av k cv) ys (qr X, (a3, c3), (o3, r3)) rfl rfl HV2.out.1 ⟨g, g'⟩ hs2 (by have := HYL.out; omega) ?_); intro v' w3 hV3 hgrow; have hap := rat_append HV2.out.1 hs2 hgrow; have hx3 := grown_off (HX2.out.alloc _) hgrow (fun e => by have := (HV2.out.1.lt e).1; omega); replace hV3 := VFO.grow HV2.out.1 HL2.out hgrow hV3; obtain ⟨av', cv', ev'⟩ := hV3.form; rw [List.length_append, List.length_singleton, HYL.out] at ev'; subst ev'; have HV3 := Lib.hid hV3; have HX3 := Lib.hid hx3; have HB3 := Lib.hid (HB2.out.trans (hap.2.1.mono (Nat.le_succ _))); clear hV3 hx3 hap hgrow HV2 HL2 HX2 HB2))
      go_roundw
      case rel => exact ⟨k + 1, ys ++ [(qr X, (a3, c3), (o3, r3))], av', cv', by omega, by simp, rfl, Lib.hid (take_qr (by have := HZ.out; omega) HM.out (by rw [HXX.out])), HV3, HX3, HB3⟩
      case measure => simp [intOf]; omega
    · obtain rfl : k = n := by omega
      clear HA HC HK
      go_wp2
      go_ret
      have hm := HM.out
      rw [List.take_of_length_le (by have := HZ.out; omega)] at hm
      exact ⟨_, _, rfl, HV.out, hm, HB.out⟩
end Go.Proofs.YtgmbaamfobhceaaGreat
