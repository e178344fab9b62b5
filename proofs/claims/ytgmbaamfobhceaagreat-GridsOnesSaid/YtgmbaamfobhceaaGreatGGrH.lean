/- Grids: room for fractions; two rows of fractions one behind the other. Grids: a fraction's opposite. Fractions: their quotients. The stairs of a .. -/
import Derived.Lib.AppendZeros
import Derived.Laws.AppendOwnNone
import Derived.BigRegion
import Derived.Test.YtgmbaamfobhceaaGreatGGrC
import Derived.Test.YtgmbaamfobhceaaGreatGVecF
import Derived.Test.YtgmbaamfobhceaaGreatGRTv
import Derived.Test.YtgmbaamfobhceaaGreatGRatCmp
import Derived.Test.YtgmbaamfobhceaaGreatGGrE
set_option linter.unusedSimpArgs false
set_option linter.unusedVariables false
set_option maxRecDepth 100000
set_option maxHeartbeats 8000000
namespace Go.Proofs.YtgmbaamfobhceaaGreat
section
open Go Go.Proofs Go.RowKit Go.Shelf Nu
set_option linter.unusedVariables false
set_option linter.unusedSimpArgs false
set_option maxRecDepth 100000
attribute [local go_sem] Oper.semAt_some
theorem g_grow {w : World} {n : Nat} (hn : n ≤ 200000) :
   Calls Tryz.prog 137 #[.slice none 0 0, .int .i64 (n : Int)] w fun e w' => ∃ v, e = .returned v ∧ w'.ownsRow w.heap.size 44 3 v 0 [] ∧ Below w.heap.size w w' := by
 obtain ⟨i0, hi, hz0, hz1, hz2⟩ := info_parts info_rat
 have h1 : ¬ ((n : Int) < 0) := by omega
 by_cases h0 : n = 0
 · subst h0
   go_enter Tryz.func137, Tryz.ntmps137
   go_wp2
   go_ret
   exact ⟨_, rfl, World.ownsRow_nil w _ _ 3, Below.refl _ _⟩
 · have h4 : (n : Int) > 0 := by omega
   have hr := fun (ty : TypeId) => Lib.run_append_nil_zeros (P := Tryz.prog) w 30 3 ty 44 i0 (.agg zrat) .i64 .i64 Tryz.underlying30 Tryz.underlying3 hi hz0 n (by omega) (by omega) (by omega) (by rw [hz2]; omega)
   have hG := grownCap_ge w n 0 44
   have hM := grownCap_le_maxLen w n 0 44 (by unfold maxLen; omega)
   obtain ⟨G, eG⟩ : ∃ G, G = grownCap w n 0 44 := ⟨_, rfl⟩
   rw [← eG] at hr hG hM
   obtain ⟨w1, e1⟩ : ∃ w1, w1 = w.drew.alloc (.cells (Builtin.zeroCells (Value.agg zrat).cells n ++ Builtin.zeroCells (Value.agg zrat).cells (G - n)) 44) := ⟨_, rfl⟩
   have hO : w1.ownsRow w.heap.size 44 3 (.slice (some ⟨w.heap.size, 0, none⟩) 0 G) 0 [] := by
    rw [e1]
    refine ⟨rfl, .inr ⟨w.heap.size, G, _, rfl, Nat.le_refl _, heap_alloc_new w.drew _, Nat.zero_le _, hM, ?_, by simp⟩⟩
    have hs : (Value.agg zrat).cells.size = 3 := rfl
    simp only [Array.size_append, Builtin.zeroCells, Array.size_map, Array.size_range, hs]
    omega
   have hB : Below w.heap.size w w1 := by
    rw [e1]
    exact ((Below.refl w.heap.size w).drew).alloc (Nat.le_refl _) _
   rw [← e1] at hr
   have HO := Lib.hid hO
   have HB := Lib.hid hB
   have HR := Lib.hid hr
   have h5 : (n : Int) ≤ (G : Int) := by omega
   have h6 : (0 : Int) ≤ (G : Int) := by omega
   clear hO hB hr e1 eG hi hz0 hz1 hz2 i0
   go_enter Tryz.func137, Tryz.ntmps137
   go_wp2_with (at_builtin; go_loud (refine Lib.wpList_append_run _ rfl _ _ _ _ rfl _ _ rfl rfl _ _ (HR.out _) ?_))
   go_wp2
   go_ret
   exact ⟨_, rfl, HO.out, HB.out⟩
theorem VReads.lies {W : World} {a : Option Addr} {n cap : Nat} {qs : List Qr} (h : VReads W (.slice a n cap) qs) : (a = none ∧ n = 0 ∧ cap = 0 ∧ qs = []) ∨ ∃ (ad : Addr) (zs : List Zr), a = some ad ∧ zs.map (·.1) = qs ∧ zs.length = n ∧ (∀ (j : Nat) (u : Value), (zcells zs)[j]? = some u → W.cell? (ad.add j) = some u) ∧ ∀ z ∈ zs, ZIn W z := by
 have h' := h
 rcases h with ⟨e, rfl⟩ | ⟨b, off, cap', e, hb, hc, hl⟩ | ⟨x, e, rfl⟩
 · cases e
   exact .inl ⟨rfl, rfl, rfl, rfl⟩
 · cases e
   by_cases h0 : 0 < qs.length
   · obtain ⟨zs, h1, h2, h3, h4⟩ := h'.cells h0
     exact .inr ⟨_, zs, rfl, h1, h2, h3, h4⟩
   · obtain rfl : qs = [] := List.eq_nil_of_length_eq_zero (by omega)
     exact .inr ⟨_, [], rfl, rfl, rfl, fun j u hu => by simp [zcells] at hu, fun z hz => by cases hz⟩
 · cases e
   exact .inr ⟨x, [], rfl, rfl, rfl, fun j u hu => by simp [zcells] at hu, fun z hz => by cases hz⟩
theorem below_cell {w0 w : World} {p : Addr} {u : Value} (hb : Below w0.heap.size w0 w) (h : w0.cell? p = some u) : w.cell? p = some u := by
 have hlt : p.block < w0.heap.size := by
  unfold World.cell? at h
  cases e : w0.heap[p.block]? with
  | none => rw [e] at h; cases h
  | some o => exact (Array.getElem?_eq_some_iff.1 e).1
 exact (hb.cell hlt).trans h
theorem wpList_append_row {i : TypeInfo} (hi : Tryz.prog.info? 44 = some i) (hz : i.zero = some (.agg zrat)) (h1 : i.size = 3) (h2 : i.bytes = 56) (w0 w : World) {ops : Array Oper} {rest : List Oper} {o : Oper} {a : Act} {Q : Exit → Act → World → Prop}
    (hg : o.guard = none) (s x : Operand) (hop : o.op = Op.call { callee := Callee.builtin Builtin.append, args := #[s, x], argTypes := #[30, 30] })
    (v : Value) (zs : List Zr) (a2 : Option Addr) (m c : Nat) (qs : List Qr) (hs : a.eval s = v) (hx : a.eval x = .slice a2 m c) (hown : w.ownsRow w0.heap.size 44 3 v zs.length (zcells zs)) (hzs : ∀ z ∈ zs, ZIn w0 z) (hr : VReads w0 (.slice a2 m c) qs) (hb : Below w0.heap.size w0 w) (hl : zs.length + m ≤ 300000)
    (hK : ∀ (v' : Value) (w' : World) (zs' : List Zr), zs'.map (·.1) = zs.map (·.1) ++ qs → zs'.length = zs.length + m → w'.ownsRow w0.heap.size 44 3 v' zs'.length (zcells zs') → (∀ z ∈ zs', ZIn w0 z) → Below w0.heap.size w0 w' → wpList Tryz.prog ops Q rest (a.put o.dst v') w') :
    wpList Tryz.prog ops Q (o :: rest) a w := by
  rcases hr.lies with ⟨rfl, rfl, rfl, rfl⟩ | ⟨ad, zs2, rfl, e1, e2, e3, e4⟩
  · refine wpList_append_own_none hg s x 30 hop w0.heap.size 44 i 3 Tryz.underlying30 hi v zs.length (zcells zs) hs hown hx ?_
    exact hK v w zs (by simp) (by simp) hown hzs hb
  · refine wpList_append_own _ hg s x 30 hop w0.heap.size 44 i (.agg zrat) 3 56 Tryz.underlying30 hi hz h1 h2 rfl (by omega) v zs.length (zcells zs) hs hown ad m c (zcells zs2) hx (by rw [zcells_len, e2]) (fun j u hu => below_cell hb (e3 j u hu)) ?_ (by unfold maxLen; omega) (by omega) hb.size ?_
    · intro u hu
      obtain ⟨z, _, h⟩ := List.mem_flatMap.1 hu
      simp only [zcell, List.mem_cons, List.not_mem_nil, or_false] at h
      rcases h with rfl | rfl | rfl <;> rfl
    · intro v' w' hO hgrow hnil
      refine hK v' w' (zs ++ zs2) (by rw [List.map_append, e1]) (by rw [List.length_append, e2]) ?_ ?_ (hb.grown hgrow hb.size fun j ej => (World.ownsRow.lt hown j ej).1)
      · rw [List.length_append, e2, show zcells (zs ++ zs2) = zcells zs ++ zcells zs2 by simp [zcells]]
        exact hO
      · intro z hz
        rcases List.mem_append.1 hz with hz | hz
        · exact hzs z hz
        · exact e4 z hz
theorem own_form {W : World} {B k n : Nat} {t : TypeId} {v : Value} {xs : List Value} (h : W.ownsRow B t k v n xs) : ∃ a c, v = .slice a n c := by
 rcases h.2 with ⟨rfl, rfl⟩ | ⟨g, cap, cur, rfl, _⟩
 · exact ⟨_, _, rfl⟩
 · exact ⟨_, _, rfl⟩
def tot2 (n1 n2 k : Nat) : Nat := if k = 0 then 0 else if k = 1 then n1 else n1 + n2
def row2 (q1 q2 : List Qr) (k : Nat) : List Qr := if k = 0 then [] else if k = 1 then q1 else q1 ++ q2
theorem g_concat {w : World} {h : Nat} {a1 a2 : Option Addr} {n1 n2 c1 c2 : Nat} {q1 q2 : List Qr} (hB : BoxN w h 30 #[.slice a1 n1 c1, .slice a2 n2 c2]) (h1 : VReads w (.slice a1 n1 c1) q1) (h2 : VReads w (.slice a2 n2 c2) q2) (hn1 : n1 ≤ 100000) (hn2 : n2 ≤ 100000) :
    Calls Tryz.prog 96 #[.slice (some ⟨h, 0, none⟩) 2 2] w fun e w' => ∃ v, e = .returned v ∧ VReads w' v (q1 ++ q2) ∧ Below w.heap.size w w' := by
  obtain ⟨i0, hi, hz0, hz1, hz2⟩ := info_parts info_rat
  have hlt : h < w.heap.size := hB.lt
  have y0 : w.cell? ⟨h, 0, none⟩ = some (.slice a1 n1 c1) := hB.cell 0 _ rfl
  have y1 : w.cell? ⟨h, 1, none⟩ = some (.slice a2 n2 c2) := hB.cell 1 _ rfl
  have Y := Lib.hid (And.intro y0 y1)
  have R1 := Lib.hid h1
  have R2 := Lib.hid h2
  have L1 : n1 = q1.length := h1.addr.1
  have L2 : n2 = q2.length := h2.addr.1
  have KG := Lib.hid (g_grow (w := w) (n := n1 + n2) (by omega))
  have HI := Lib.hid hi
  clear h1 h2 hB hi
  have HL := Lib.hid (And.intro L1 L2)
  clear L1 L2
  have k0 : ((0 : Nat) : Int) = 0 := rfl
  go_enter Tryz.func96, Tryz.ntmps96
  go_wp2
  go_loopg [3, 11] 2 (fun g s t wr => ∃ k : Nat, k + g = 2 ∧ s = .int .i64 (tot2 n1 n2 k : Nat) ∧ t = .int .i64 (k : Int) ∧ w = wr)
  case atStart => exact ⟨0, by omega, rfl, rfl, rfl⟩
  case round =>
    clear k0
    obtain ⟨k, hk, rfl, rfl, rfl⟩ := hrel
    have hk3 : k = 0 ∨ k = 1 ∨ k = 2 := by omega
    rcases hk3 with rfl | rfl | rfl
    · have w1 : IntKind.i64.wrap ((0 : Int) + (n1 : Int)) = (n1 : Int) := by rw [Int.zero_add]; exact IntWalk.i64_in _ (by omega)
      have w2 : ¬ ((n1 : Int) < 0) := by omega
      rw [show tot2 n1 n2 0 = 0 from rfl]
      go_wp2
      go_roundg 1
      case measure => omega
      case rel => exact ⟨1, by omega, by first | rfl | simp [tot2], by first | rfl | simp, rfl⟩
    · have w1 : IntKind.i64.wrap ((n1 : Int) + (n2 : Int)) = ((n1 + n2 : Nat) : Int) := by rw [IntWalk.i64_in _ (by omega)]; omega
      have w2 : ¬ (((n1 + n2 : Nat) : Int) < 0) := by omega
      rw [show tot2 n1 n2 1 = n1 from rfl]
      go_wp2
      go_roundg 0
      case measure => omega
      case rel => exact ⟨2, by omega, by first | rfl | simp [tot2], by first | rfl | simp, rfl⟩
    · rw [show tot2 n1 n2 2 = n1 + n2 from rfl]
      go_wp2_with fail
      refine KG.out.mono ?_
      rintro e w3 ⟨v3, rfl, hO, hB⟩
      obtain ⟨a3, c3, rfl⟩ := own_form hO
      have HO := Lib.hid hO
      have HB := Lib.hid hB
      clear hO hB KG
      go_wp2
      go_loopg [6, 27] 2 (fun g s t wr => ∃ (k : Nat) (zs : List Zr) (av : Option Addr) (cv m : Nat), k + g = 2 ∧ s = .slice av m cv ∧ t = .int .i64 (k : Int) ∧ Hid (zs.map (·.1) = row2 q1 q2 k) ∧ Hid (zs.length = tot2 n1 n2 k) ∧ Hid (wr.ownsRow w.heap.size 44 3 (.slice av m cv) zs.length (zcells zs)) ∧ Hid (∀ z ∈ zs, ZIn w z) ∧ Hid (Below w.heap.size w wr))
      case atStart => exact ⟨0, [], _, _, _, by omega, rfl, rfl, Lib.hid rfl, Lib.hid rfl, HO, Lib.hid (fun z hz => by cases hz), HB⟩
      case round =>
        clear HO HB
        obtain ⟨k, zs, av, cv, mv, hk, rfl, rfl, HM, HN, HO, HZ, HB⟩ := hrel
        have hk3 : k = 0 ∨ k = 1 ∨ k = 2 := by omega
        have y0 := (HB.out.cell (p := ⟨h, 0, none⟩) hlt).trans Y.out.1
        have y1 := (HB.out.cell (p := ⟨h, 1, none⟩) hlt).trans Y.out.2
        rcases hk3 with rfl | rfl | rfl
        · go_wp2_with (at_builtin; go_loud (refine wpList_append_row HI.out hz0 hz1 hz2 w _ rfl _ _ rfl _ zs a1 n1 c1 q1 rfl rfl HO.out HZ.out R1.out HB.out (by have e := HN.out; rw [show tot2 n1 n2 0 = 0 from rfl] at e; omega) ?_); intro v4 w4 zs4 m1 m2 m3 m4 m5; obtain ⟨a5, c5, rfl⟩ := own_form m3)
          have P := Lib.hid (And.intro m1 (And.intro m2 (And.intro m3 (And.intro m4 m5))))
          clear m1 m2 m3 m4 m5
          go_wp2
          go_roundg 1
          case measure => omega
          case rel => exact ⟨1, zs4, _, _, _, by omega, rfl, by first | rfl | simp, Lib.hid (by rw [P.out.1, HM.out]; rfl), Lib.hid (by rw [P.out.2.1, HN.out]; simp [tot2]), Lib.hid (by have e := P.out.2.2.1; rw [P.out.2.1] at e ⊢; exact e), Lib.hid P.out.2.2.2.1, Lib.hid P.out.2.2.2.2⟩
        · go_wp2_with (at_builtin; go_loud (refine wpList_append_row HI.out hz0 hz1 hz2 w _ rfl _ _ rfl _ zs a2 n2 c2 q2 rfl rfl HO.out HZ.out R2.out HB.out (by have e := HN.out; rw [show tot2 n1 n2 1 = n1 from rfl] at e; omega) ?_); intro v4 w4 zs4 m1 m2 m3 m4 m5; obtain ⟨a5, c5, rfl⟩ := own_form m3)
          have P := Lib.hid (And.intro m1 (And.intro m2 (And.intro m3 (And.intro m4 m5))))
          clear m1 m2 m3 m4 m5
          go_wp2
          go_roundg 0
          case measure => omega
          case rel => exact ⟨2, zs4, _, _, _, by omega, rfl, by first | rfl | simp, Lib.hid (by rw [P.out.1, HM.out]; rfl), Lib.hid (by rw [P.out.2.1, HN.out]; simp [tot2]), Lib.hid (by have e := P.out.2.2.1; rw [P.out.2.1] at e ⊢; exact e), Lib.hid P.out.2.2.2.1, Lib.hid P.out.2.2.2.2⟩
        · go_wp2
          go_ret
          have hV : VFresh wr w.heap.size (.slice av mv cv) (row2 q1 q2 2) := ⟨zs, HM.out, HO.out, fun z hz => (HZ.out z hz).below HB.out⟩
          exact ⟨_, rfl, hV.reads, HB.out⟩
end
section
open Go Go.Proofs Go.RowKit Go.Shelf Nu
attribute [local go_sem] Oper.semAt_some
theorem g_minus {w : World} {X : Rat} {p1 o1 : Option Addr} {q1 r1 : Nat} (hw : wt X ≤ 8900)
  (g1 : Reads w (.slice p1 (qr X).2.1.length q1) (qr X).2.1) (g2 : Reads w (.slice o1 (qr X).2.2.length r1) (qr X).2.2) :
  Calls Tryz.prog 136 #[.agg #[.bool (qr X).1, .slice p1 (qr X).2.1.length q1, .slice o1 (qr X).2.2.length r1]] w (RAns w (0 - X)) := by
 have fX := fit_qr (X := X) (by omega)
 have f0 := fit_qr (X := 0) (by decide +kernel)
 have ko := fun (W : World) => r_of (w := W) (s := (qr 0).1) (L := (qr 0).2.1) (D := (qr 0).2.2) 0 (qr_can 0) (by omega) (by omega)
 have ks := fun (W : World) {p1 o1 p2 o2 : Option Addr} {q1 r1 q2 r2 : Nat} (g1 : Reads W (.slice p1 (qr 0).2.1.length q1) (qr 0).2.1) (g2 : Reads W (.slice o1 (qr 0).2.2.length r1) (qr 0).2.2) (g3 : Reads W (.slice p2 (qr X).2.1.length q2) (qr X).2.1) (g4 : Reads W (.slice o2 (qr X).2.2.length r2) (qr X).2.2) =>
  r_sub (qr_can 0).is (qr_can X).is (qr_can (0 - X)) rfl f0.2.1 f0.2.2 fX.2.1 fX.2.2 g1 g2 g3 g4
 have M : Mem w [(w.heap.size + 1, 44, [.bool false, .slice none 0 0, .slice none 0 0]), (w.heap.size, 44, [.bool (qr X).1, .slice p1 (qr X).2.1.length q1, .slice o1 (qr X).2.2.length r1])]
   [(.slice o1 (qr X).2.2.length r1, (qr X).2.2), (.slice p1 (qr X).2.1.length q1, (qr X).2.1)]
   ((w.alloc (.cells #[.bool (qr X).1, .slice p1 (qr X).2.1.length q1, .slice o1 (qr X).2.2.length r1] 44)).alloc (.cells #[.bool false, .slice none 0 0, .slice none 0 0] 44)) := by
  have M := (((((Mem.start w).add g1).add g2).new 44 [.bool (qr X).1, .slice p1 (qr X).2.1.length q1, .slice o1 (qr X).2.2.length r1]).new 44 [.bool false, .slice none 0 0, .slice none 0 0])
  simpa only [World.size_alloc] using M
 clear g1 g2 fX f0 hw
 unfold RAns
 obtain ⟨qZ, hqZ⟩ : ∃ q, q = qr (0 - X) := ⟨_, rfl⟩
 rw [← hqZ] at ks ⊢
 obtain ⟨q0, hq0⟩ : ∃ q, q = qr 0 := ⟨_, rfl⟩
 rw [← hq0] at ko ks
 clear hqZ hq0
 generalize qr X = qX at *
 go_enter Tryz.func136, Tryz.ntmps136
 go_wp2
 refine region_mem (S := (fun W => BoxN W (w.heap.size) 44 #[.bool qX.1, .slice p1 qX.2.1.length q1, .slice o1 qX.2.2.length r1])) M (by kernel_rfl) ?_
 intro V0 M
 have hS0 : (fun W => BoxN W (w.heap.size) 44 #[.bool qX.1, .slice p1 qX.2.1.length q1, .slice o1 qX.2.2.length r1]) V0 := M.box 1 rfl
 refine wtk 1 (.agg #[.bool qX.1, .slice p1 qX.2.1.length q1, .slice o1 qX.2.2.length r1]) rfl (fun _ _ _ h => h) (Or.inl ⟨by rfl, fun W3 hS => by have hS1 := hS; have c0 := hS1.cell 0 _ rfl; have c1 := hS1.cell 1 _ rfl; have c2 := hS1.cell 2 _ rfl; go_simp⟩) hS0 ?_
 clear hS0
 try simp only [Act.put, List.setIfInBounds_toArray, List.set_cons_zero, List.set_cons_succ]
 refine one_op 0 rfl (fun K1 hK => ?_)
 go_simp
 refine (ko _).mono ?_
 rintro e V1 ⟨a1, c1, a1', c1', rfl, g, g', rr⟩
 have M' := ((M.up rr).add g).add g'
 clear M rr g g'
 have M := M'; clear M'
 refine hK _ _ ⟨M.box 1 rfl, ?_⟩
 clear hK K1
 refine one_op 2 rfl (fun K2 hK => ?_)
 go_simp
 refine (ks _ (M.get 1 rfl) (M.get 0 rfl) (M.get 3 rfl) (M.get 2 rfl)).mono ?_
 rintro e V2 ⟨a2, c2, a2', c2', rfl, g, g', rr⟩
 have M' := ((M.up rr).add g).add g'
 clear M rr g g'
 have M := M'; clear M'
 refine hK _ _ ⟨M.box 1 rfl, ?_⟩
 clear hK K2
 have f0_0 := M.fr 0 rfl 0; have f0_1 := M.fr 0 rfl 1; have f0_2 := M.fr 0 rfl 2
 have z0_0 := M.cell 0 rfl 0 rfl; have z0_1 := M.cell 0 rfl 1 rfl; have z0_2 := M.cell 0 rfl 2 rfl
 refine one_op 3 rfl (fun Ks4 hK => ?_)
 go_simp
 have M' := (((M.put 0 rfl rfl 0 (.bool qZ.1)).put 0 rfl rfl 1 (.slice a2 qZ.2.1.length c2)).put 0 rfl rfl 2 (.slice a2' qZ.2.2.length c2'))
 clear M f0_0 z0_0 f0_1 z0_1 f0_2 z0_2
 refine hK _ _ ⟨M'.box 1 rfl, ?_⟩
 clear hK Ks4
 refine wdn ?_
 go_wp2
 refine ret_boxN rfl rfl (M'.box 0 rfl) Tryz.underlying44 size_rat rfl ?_
 exact ⟨a2, c2, a2', c2', rfl, M'.get 1 rfl, M'.get 0 rfl, M'.below⟩
theorem rcan_inv {n : Bool} {l d : List Nat} {Y : Rat} (h : RCan n l d Y) (h0 : Y ≠ 0) : RCan n d l Y⁻¹ := by
 have hn : Y.num ≠ 0 := fun e => h0 (Rat.num_eq_zero.1 e)
 have hd := Y.den_pos
 have key : Y⁻¹.num = (if Y.num < 0 then -(Y.den : Int) else (Y.den : Int)) ∧ Y⁻¹.den = Y.num.natAbs := by
   refine rat_low (by omega) ?_ ?_
   · have hc : Nat.Coprime Y.den Y.num.natAbs := Y.reduced.symm
     split
     · rwa [Int.natAbs_neg, Int.natAbs_natCast]
     · rwa [Int.natAbs_natCast]
   · have hX := rat_den Y
     split
     · rename_i hneg
       have : ((Y.num.natAbs : Nat) : Rat) = -((Y.num : Int) : Rat) := by
        have : ((Y.num.natAbs : Nat) : Int) = -Y.num := by omega
        exact_mod_cast this
       rw [this]; push_cast; grind
     · rename_i hneg
       have : ((Y.num.natAbs : Nat) : Rat) = ((Y.num : Int) : Rat) := by
        have : ((Y.num.natAbs : Nat) : Int) = Y.num := by omega
        exact_mod_cast this
       rw [this]; push_cast; grind
 obtain ⟨⟨h1, h2⟩, h3⟩ := h
 refine ⟨⟨?_, ?_⟩, ?_⟩
 · rw [h1, key.1]
   refine decide_eq_decide.2 ?_
   split <;> constructor <;> intro _ <;> omega
 · rw [h3, key.1]
   split <;> simp
 · rw [h2, key.2]
theorem r_div_ok {w : World} {p1 o1 p2 o2 : Option Addr} {q1 r1 q2 r2 : Nat} {n1 n2 sZ : Bool} {l1 d1 l2 d2 LZ DZ : List Nat} {X Y Z : Rat} (kX : RCan n1 l1 d1 X) (kY : RCan n2 l2 d2 Y) (h0 : Y ≠ 0) (kZ : RCan sZ LZ DZ Z) (eZ : Z = X / Y) (b1 : l1.length ≤ 9999) (b2 : d1.length ≤ 9999) (b3 : l2.length ≤ 9999) (b4 : d2.length ≤ 9999) (g1 : Reads w (.slice p1 l1.length q1) l1) (g2 : Reads w (.slice o1 d1.length r1) d1) (g3 : Reads w (.slice p2 l2.length q2) l2) (g4 : Reads w (.slice o2 d2.length r2) d2) :
  Calls Tryz.prog 99 #[.agg #[.bool n1, .slice p1 l1.length q1, .slice o1 d1.length r1], .agg #[.bool n2, .slice p2 l2.length q2, .slice o2 d2.length r2]] w fun e w' => ∃ a c a' c', e = .returned (.tuple #[.agg #[.bool sZ, .slice a LZ.length c, .slice a' DZ.length c'], .int .i64 0]) ∧ Reads w' (.slice a LZ.length c) LZ ∧ Reads w' (.slice a' DZ.length c') DZ ∧ Below w.heap.size w w' := by
 have kc1 := fun (W : World) (h1 : Reads W (.slice p1 l1.length q1) l1) (h2 : Reads W (.slice o1 d1.length r1) d1) => by have := rcheck_any (n := n1) h1 h2 kX.sm.1 kX.sm.2 (by omega) (by omega); rw [kX.chk] at this; exact this
 have kc2 := fun (W : World) (h1 : Reads W (.slice p2 l2.length q2) l2) (h2 : Reads W (.slice o2 d2.length r2) d2) => by have := rcheck_any (n := n2) h1 h2 kY.sm.1 kY.sm.2 (by omega) (by omega); rw [kY.chk] at this; exact this
 have hl : 0 < l2.length := by rw [kY.1.2]; exact digs_len_pos (fun e => h0 (Rat.num_eq_zero.1 (Int.natAbs_eq_zero.1 e)))
 have hl2 : ((l2.length : Int) == 0) = false := by simp; intro e; rw [e] at hl; simp at hl
 have km := fun (W : World) (g1 : Reads W (.slice p1 l1.length q1) l1) (g2 : Reads W (.slice o1 d1.length r1) d1) (g3 : Reads W (.slice p2 l2.length q2) l2) (g4 : Reads W (.slice o2 d2.length r2) d2) => r_mul kX.is (rcan_inv kY h0).is kZ (by rw [eZ, Rat.div_def]) b1 b2 b4 b3 g1 g2 g4 g3
 have M : Mem w [(w.heap.size + 1 + 1, 44, [.bool false, .slice none 0 0, .slice none 0 0]), (w.heap.size + 1, 44, [.bool n2, .slice p2 l2.length q2, .slice o2 d2.length r2]), (w.heap.size, 44, [.bool n1, .slice p1 l1.length q1, .slice o1 d1.length r1])] [(.slice o2 d2.length r2, d2), (.slice p2 l2.length q2, l2), (.slice o1 d1.length r1, d1), (.slice p1 l1.length q1, l1)] (((w.alloc (.cells #[.bool n1, .slice p1 l1.length q1, .slice o1 d1.length r1] 44)).alloc (.cells #[.bool n2, .slice p2 l2.length q2, .slice o2 d2.length r2] 44)).alloc (.cells #[.bool false, .slice none 0 0, .slice none 0 0] 44)) := by
  have M := ((((((((Mem.start w).add g1).add g2).add g3).add g4).new 44 [.bool n1, .slice p1 l1.length q1, .slice o1 d1.length r1]).new 44 [.bool n2, .slice p2 l2.length q2, .slice o2 d2.length r2]).new 44 [.bool false, .slice none 0 0, .slice none 0 0])
  simpa only [World.size_alloc] using M
 clear g1 g2 g3 g4 b1 b2 b3 b4 kX kY h0 kZ eZ hl
 go_enter Tryz.func99, Tryz.ntmps99
 go_wp2_with (first
  | (go_at_call 24; with_reducible refine (kc1 _ (M.get 3 rfl) (M.get 2 rfl)).mono ?_; clear kc1; rintro e w1 ⟨rfl, rr⟩; have M' := M.up rr; clear M rr ; have M := M'; clear M'; have z1_0 := M.cell 1 rfl 0 rfl; have z1_1 := M.cell 1 rfl 1 rfl; have z1_2 := M.cell 1 rfl 2 rfl)
  | (go_at_call 24; refine (kc2 _ (M.get 1 rfl) (M.get 0 rfl)).mono ?_; clear kc2; rintro e w2 ⟨rfl, rr⟩; have M' := M.up rr; clear M rr z1_0 z1_1 z1_2; have M := M'; clear M'; have z1_0 := M.cell 1 rfl 0 rfl; have z1_1 := M.cell 1 rfl 1 rfl; have z1_2 := M.cell 1 rfl 2 rfl; have z2_0 := M.cell 2 rfl 0 rfl; have z2_1 := M.cell 2 rfl 1 rfl; have z2_2 := M.cell 2 rfl 2 rfl)
  | (go_at_call 59; refine (km _ (M.get 3 rfl) (M.get 2 rfl) (M.get 1 rfl) (M.get 0 rfl)).mono ?_; clear km; rintro e w3 ⟨a, c, a', c', rfl, g, g', rr⟩; have M' := ((M.up rr).add g).add g'; clear M g g' rr z2_0 z2_1 z2_2 z1_0 z1_1 z1_2; have M := M'; clear M'; have z0_0 := M.cell 0 rfl 0 rfl; have z0_1 := M.cell 0 rfl 1 rfl; have z0_2 := M.cell 0 rfl 2 rfl; have f0_0 := M.fr 0 rfl 0; have f0_1 := M.fr 0 rfl 1; have f0_2 := M.fr 0 rfl 2))
 have M' := ((M.put 0 rfl rfl 0 (.bool sZ)).put 0 rfl rfl 1 (.slice a LZ.length c)).put 0 rfl rfl 2 (.slice a' DZ.length c')
 refine ret_boxN_tmp rfl rfl rfl (M'.box 0 rfl) Tryz.underlying44 size_rat rfl ?_
 exact ⟨a, c, a', c', rfl, M'.get 1 rfl, M'.get 0 rfl, M'.below⟩
end
section
open Go Go.Proofs Go.RowKit Go.Shelf Nu
set_option linter.unusedVariables false
set_option linter.unusedSimpArgs false
set_option maxRecDepth 100000
attribute [local go_sem] Oper.semAt_some
theorem rats_from {W0 : World} {a : Option Addr} {n c k : Nat} {qs : List Qr} (h : VReads W0 (.slice a n c) qs) (hk : k < n) :
  ∃ b o, a = some ⟨b, o, none⟩ ∧ (∀ W, (Instr.sliceAt 30 (.slice (some ⟨b, o, none⟩) n c) (some (.int .i64 (k : Int))) none none).run Tryz.prog W = .ok (.slice (some ⟨b, o + k * 3, none⟩) (n - k) (c - k)) W) ∧ VReads W0 (.slice (some ⟨b, o + k * 3, none⟩) (n - k) (c - k)) (qs.drop k) ∧ b < W0.heap.size ∧ n ≤ c ∧ ∀ j q, qs[j]? = some q → QrAt W0 b (o + j * 3) q := by
 obtain ⟨hn, hc, b, o, hA, hel⟩ := h.addr
 obtain ⟨rfl, hb⟩ := hA (by omega)
 refine ⟨b, o, rfl, fun W => ?_, h.drop k _ _ _ rfl rfl rfl (by omega) (by omega), hb, hc, hel⟩
 rw [run_sliceAt_slice W _ _ _ _ _ Tryz.underlying30, run_slice_l W _ _ n c Tryz.underlying30 .i64 (k : Int) (by omega) (by omega)]
 obtain ⟨i0, hi0, _, hz1, _⟩ := info_parts info_rat
 have he : Tryz.prog.elem 30 = 44 := by kernel_rfl
 have hck : ¬ c = k := by omega
 simp [he, sizeOf, typeInfo, hi0, hz1, sliced, Addr.add, Result.andThen, hck]
def tms (c : Nat) (st r : List Rat) : Rat := 0 - r.getD c 0 / st.getD c 0
def elim (c : Nat) (st r : List Rat) : List Rat := if r.getD c 0 = 0 then r else r.take c ++ axpy (tms c st r) (r.drop c) (st.drop c)
def swp (R : List (List Rat)) (m q : Nat) : List (List Rat) := (R.set q (R.getD m [])).set m (R.getD q [])
def upto (R : List (List Rat)) (m c k : Nat) : List (List Rat) := R.mapIdx fun i r => if m < i ∧ i < k then elim c (R.getD m []) r else r
def turnR (R : List (List Rat)) (m q c : Nat) : List (List Rat) := upto (swp R m q) m c R.length
def small (R : List (List Rat)) (m c : Nat) : Prop := ∀ r ∈ R, (∀ x ∈ r, wt x ≤ 3000) ∧ wt (r.getD c 0 / (R.getD m []).getD c 0) ≤ 2990
theorem upto_at' {R : List (List Rat)} {m c k : Nat} {j : Nat} (hj : ¬ (m < j ∧ j < k)) : (upto R m c k)[j]? = R[j]? := by
 unfold upto
 rw [List.getElem?_mapIdx]
 cases R[j]? with
 | none => rfl
 | some r => simp only [Option.map_some, if_neg hj]
theorem at_qr {r : List Rat} {c : Nat} (h : c < r.length) : (r.map qr)[c]? = some (qr (r.getD c 0)) := by
 rw [List.getElem?_map, List.getD_eq_getElem?_getD, List.getElem?_eq_getElem h]; rfl
theorem at_drop {r : List Rat} {c : Nat} (h : c < r.length) : ((r.drop c).map qr)[0]? = some (qr (r.getD c 0)) := by
 rw [List.getElem?_map, List.getElem?_drop, List.getD_eq_getElem?_getD, Nat.add_zero, List.getElem?_eq_getElem h]; rfl
theorem upto_none {R : List (List Rat)} {m c k : Nat} (hk : k ≤ m + 1) : upto R m c k = R := by
 apply List.ext_getElem?
 intro j
 unfold upto
 rw [List.getElem?_mapIdx]
 cases h : R[j]? with
 | none => rfl
 | some r => simp only [Option.map_some, if_neg (show ¬ (m < j ∧ j < k) by omega)]
theorem upto_len (R : List (List Rat)) (m c k : Nat) : (upto R m c k).length = R.length := by unfold upto; simp
theorem upto_next {R : List (List Rat)} {m c k : Nat} {r : List Rat} (h : R[k]? = some r) (hk : m < k) : upto R m c (k + 1) = (upto R m c k).set k (elim c (R.getD m []) r) := by
 apply List.ext_getElem?
 intro j
 unfold upto
 rw [List.getElem?_mapIdx, List.getElem?_set, List.getElem?_mapIdx]
 have hlt := (List.getElem?_eq_some_iff.1 h).1
 by_cases e : k = j
 · subst e
   rw [h, if_pos rfl]
   simp [hk, hlt]
 · rw [if_neg e]
   cases h2 : R[j]? with
   | none => rfl
   | some y =>
    simp only [Option.map_some]
    congr 1
    by_cases e2 : m < j ∧ j < k
    · rw [if_pos e2, if_pos (by omega)]
    · rw [if_neg e2, if_neg (by omega)]
theorem upto_same {R : List (List Rat)} {m c k : Nat} {r : List Rat} (h : R[k]? = some r) (h0 : r.getD c 0 = 0) : upto R m c (k + 1) = upto R m c k := by
 apply List.ext_getElem?
 intro j
 unfold upto
 rw [List.getElem?_mapIdx, List.getElem?_mapIdx]
 cases h2 : R[j]? with
 | none => rfl
 | some y =>
  simp only [Option.map_some]
  congr 1
  by_cases e : j = k
  · subst e
    rw [h] at h2; cases h2
    have e3 : elim c (R.getD m []) r = r := by unfold elim; rw [if_pos h0]
    rw [e3]; simp
  · by_cases e2 : m < j ∧ j < k
    · rw [if_pos e2, if_pos (by omega)]
    · rw [if_neg e2, if_neg (by omega)]
theorem BoxN.rowQ {W : World} {B : Nat} {t : TypeId} {a1 a2 : Option Addr} {n1 c1 n2 c2 : Nat} (h : BoxN W B t #[.slice a1 n1 c1, .slice a2 n2 c2]) : RowQ W (.slice (some ⟨B, 0, none⟩) 0 0) := by
 intro g e
 obtain rfl : B = g := by simpa [Value.ownBlock] using e
 refine ⟨_, _, h, fun u hu => ?_⟩
 simp only [List.mem_cons, List.not_mem_nil, or_false] at hu
 rcases hu with rfl | rfl <;> rfl
theorem GR.box {W : World} {base g n cap B j : Nat} {vs : List Value} {R : List (List Rat)} {t : TypeId} {a1 a2 : Option Addr} {n1 c1 n2 c2 : Nat} {x : Value} (h : GR W base g n cap vs R) (hB : BoxN W B t #[.slice a1 n1 c1, .slice a2 n2 c2]) (ht : 30 ≠ t) : GR (W.setCell ⟨B, j, none⟩ x) base g n cap vs R :=
 have hf := Off.put hB j x
 ⟨own_off h.own hf ht, h.q.off h.own hf ht, h.len, fun k v r e1 e2 => (h.rd k v r e1 e2).grownQ (put_grown W B j 0 0 x) hB.rowQ⟩
theorem axpy_len {t : Rat} {a b : List Rat} (h : a.length = b.length) : (axpy t a b).length = a.length := by unfold axpy; rw [List.length_zipWith, h]; omega
theorem swp_at {R : List (List Rat)} {m q : Nat} (h : m < R.length) : (swp R m q).getD m [] = R.getD q [] := by
 unfold swp
 rw [List.getD_eq_getElem?_getD, List.getElem?_set_self (by rw [List.length_set]; exact h)]
 rfl
theorem swp_all {P : List Rat → Prop} {R : List (List Rat)} {m q : Nat} (h : ∀ r ∈ R, P r) (hm : m < R.length) (hq : q < R.length) : ∀ r ∈ swp R m q, P r := by
 have hat : ∀ k, k < R.length → P (R.getD k []) := fun k hk => by rw [List.getD_eq_getElem?_getD, List.getElem?_eq_getElem hk]; exact h _ (List.getElem_mem hk)
 intro r hr
 unfold swp at hr
 rcases List.mem_or_eq_of_mem_set hr with hr | rfl
 · rcases List.mem_or_eq_of_mem_set hr with hr | rfl
   · exact h r hr
   · exact hat m hm
 · exact hat q hq
theorem rsg_z {X : Rat} : rsg X 0 = 0 ↔ X = 0 := by
 unfold rsg
 constructor
 · intro h
   by_cases h1 : X < 0
   · rw [if_pos h1] at h; cases h
   · rw [if_neg h1] at h
     by_cases h2 : 0 < X
     · rw [if_pos h2] at h; cases h
     · grind
 · rintro rfl
   rfl
theorem then_at {w0 w w' : World} {base : Nat} (h : Below base w0 w) (hs : base ≤ w.heap.size) (r : Below w.heap.size w w') : Below base w0 w' := h.trans (r.mono hs)
theorem g_turnS {w : World} {base B g n cap q c N : Nat} {lv : Value} {vs : List Value} {R : List (List Rat)} {ld : List Nat}
  (hB : BoxN w B 74 #[.slice (some ⟨g, 0, none⟩) n cap, lv]) (hbB : base ≤ B) (G : GR w base g n cap vs R) (L : LD w base lv ld) (hbase : base ≤ w.heap.size)
  (h1 : ld.length ≤ q) (h2 : q < n) (hn : n ≤ 1000) (hc : ∀ r ∈ R, r.length = N) (hcN : c < N) (hN : N ≤ 1000) (nz : (R.getD q []).getD c 0 ≠ 0) (hw : small (swp R ld.length q) ld.length c) :
  Calls Tryz.prog 95 #[.pointer (some ⟨B, 0, none⟩), .int .i64 (q : Int), .int .i64 (c : Int)] w fun e w' => e = .returned (.tuple #[]) ∧ ∃ lv' vs', BoxN w' B 74 #[.slice (some ⟨g, 0, none⟩) n cap, lv'] ∧ GR w' base g n cap vs' (turnR R ld.length q c) ∧ LD w' base lv' (ld ++ [c]) ∧ Below base w w' := by
 obtain ⟨la, lc, rfl⟩ := own_form L.own
 obtain ⟨m, hm⟩ : ∃ m, m = ld.length := ⟨_, rfl⟩
 rw [← hm] at h1 hw L hB ⊢
 have z0 : w.cell? ⟨B, 0, none⟩ = some (.slice (some ⟨g, 0, none⟩) n cap) := hB.cell 0 _ rfl
 have z1 : w.cell? ⟨B, 1, none⟩ = some (.slice la m lc) := hB.cell 1 _ rfl
 obtain ⟨aq, cq, rq, eq1, eq2, eq3, eq4, eq5⟩ := G.at h2
 obtain ⟨am, cm, rm, em1, em2, em3, em4, em5⟩ := G.at (k := m) (by omega)
 obtain ⟨a6, c6, r6, -, -, -, em6, em7⟩ := (G.put (k := q) em3).at (k := m) (by omega)
 have hcapn : n ≤ cap := by
  rcases G.own.2 with ⟨e, _⟩ | ⟨g', cap', cur, e, _, _, hx, _⟩
  · cases e
  · cases e; exact hx
 have HQM := Lib.hid (show R.getD q [] = rq ∧ R.getD m [] = rm from ⟨by rw [List.getD_eq_getElem?_getD, eq1]; rfl, by rw [List.getD_eq_getElem?_getD, em1]; rfl⟩)
 have HE := Lib.hid em3
 have G2 := (G.put (k := q) em3).put (k := m) (eq3.grownQ (put_grown w g q n cap _) G.q)
 have i0 : (0 : Int) ≤ (q : Int) := by omega
 have i1 : (q : Int) < (n : Int) := by omega
 have i2 : (0 : Int) ≤ (m : Int) := by omega
 have i3 : (m : Int) < (n : Int) := by omega
 have HX := Lib.hid (And.intro hB (And.intro G (And.intro L (And.intro hc (And.intro nz hw)))))
 have HM := Lib.hid hm
 clear hB G L hc nz hw hm
 have HG2 := Lib.hid G2
 clear G2 eq1 eq2 eq3 em1 em2 em3
 go_enter Tryz.func95, Tryz.ntmps95
 go_wp2
 go_region
 obtain ⟨W1, hW1⟩ : ∃ W1, W1 = ((w.setCell ⟨g, q, none⟩ (.slice am rm.length cm)).setCell ⟨g, m, none⟩ (.slice aq rq.length cq)).drew := ⟨_, rfl⟩
 have G1 : GR W1 base g n cap ((vs.set q (.slice am rm.length cm)).set m (.slice aq rq.length cq)) (swp R m q) := by
  rw [hW1]
  have := HG2.out.below ((Below.refl _ _).drew)
  unfold swp
  rwa [show R.getD m [] = rm from HQM.out.2, show R.getD q [] = rq from HQM.out.1]
 have hO1 : Off 30 w W1 := by
  rw [hW1]
  exact ((HX.out.2.1.off q _).trans ((HX.out.2.1.put (k := q) HE.out).off m _)).trans (Off.of_below ((Below.refl _ _).drew))
 have hb1 : Below base w W1 := by
  rw [hW1]
  exact (((Below.refl base w).setCell (p := ⟨g, q, none⟩) HX.out.2.1.lt.1 _).setCell (p := ⟨g, m, none⟩) HX.out.2.1.lt.1 _).drew
 have hB1 : BoxN W1 B 74 #[.slice (some ⟨g, 0, none⟩) n cap, .slice la m lc] := HX.out.1.off hO1 (by decide)
 have hL1 : LD W1 base (.slice la m lc) ld := HX.out.2.2.1.off hO1 (by decide)
 have hs1 : base ≤ W1.heap.size := Nat.le_trans hbase hO1.1
 rw [← hW1]
 as_aux_lemma =>
  have hR1 : ∀ r ∈ swp R m q, r.length = N := swp_all HX.out.2.2.2.1 (by rw [HX.out.2.1.len]; omega) (by rw [HX.out.2.1.len]; omega)
  have HN1 := Lib.hid (show ((swp R m q).getD m []).getD c 0 ≠ 0 by rw [swp_at (by rw [HX.out.2.1.len]; omega)]; exact HX.out.2.2.2.2.1)
  have HS1 := Lib.hid HX.out.2.2.2.2.2
  have HT := Lib.hid (show turnR R m q c = upto (swp R m q) m c n by unfold turnR; rw [HX.out.2.1.len])
  obtain ⟨R1, eR1⟩ : ∃ R1, R1 = swp R m q := ⟨_, rfl⟩
  rw [← eR1] at G1 hR1 HN1 HS1 HT
  clear hW1 z0 z1 eq4 eq5 em4 em5 em6 em7 HX HG2 HQM HE hO1 eR1 i0 i1
  obtain ⟨ya, cs, st, es1, es2, es3, es4, es5⟩ := G1.at (k := m) (by omega)
  obtain ⟨bs, os, rfl, hsl, hsv, hsb, hsc, -⟩ := rats_from es3 (show c < st.length by rw [hR1 st (List.mem_of_getElem? es1)]; exact hcN)
  have z0 : W1.cell? ⟨B, 0, none⟩ = some (.slice (some ⟨g, 0, none⟩) n cap) := hB1.cell 0 _ rfl
  have hst := hR1 st (List.mem_of_getElem? es1)
  rw [hst] at es4 hsl hsv hsc
  rw [← List.map_drop] at hsv
  have hstm : R1.getD m [] = st := by rw [List.getD_eq_getElem?_getD, es1]; rfl
  have j0 : (0 : Int) ≤ (c : Int) := by omega
  have j1 : (c : Int) ≤ (N : Int) := by omega
  have w1 : IntKind.i64.wrap ((m : Int) + 1) = ((m + 1 : Nat) : Int) := IntWalk.i64_in _ (by omega)
  have HST := Lib.hid (And.intro hstm hst)
  have HR1 := Lib.hid hR1
  have HB1 := Lib.hid hB1
  have HL1 := Lib.hid hL1
  have HW1 := Lib.hid hb1
  have HV1 := Lib.hid hsv
  obtain ⟨vs1, hvs1⟩ : ∃ v, v = (vs.set q (.slice am rm.length cm)).set m (.slice aq rq.length cq) := ⟨_, rfl⟩
  rw [← hvs1] at G1
  have HG1 := Lib.hid G1
  clear hB1 hL1 G1 hb1 hsv hR1 hstm es1 es2 es3 hst hvs1
  go_wp2
  obtain ⟨o1, ho1⟩ : ∃ o1, o1 = os + c * 3 := ⟨_, rfl⟩
  obtain ⟨s1, hs11⟩ : ∃ s1, s1 = N - c := ⟨_, rfl⟩
  obtain ⟨d1, hd1⟩ : ∃ d1, d1 = cs - c := ⟨_, rfl⟩
  rw [← ho1, ← hs11, ← hd1] at HV1 ⊢
  have hs0 : 0 < s1 := by omega
  have HS11 := Lib.hid hs11
  clear hsl es4 es5 z0 ho1 hd1 hs11 w1 hsb hsc hs1
  go_loopg [8] (n - (m + 1)) (fun x s wr => ∃ (k : Nat) (vs' : List Value), k + x = n ∧ m < k ∧ s = .int .i64 (k : Int) ∧ Hid (BoxN wr B 74 #[.slice (some ⟨g, 0, none⟩) n cap, .slice la m lc]) ∧ Hid (GR wr base g n cap vs' (upto R1 m c k)) ∧ Hid (LD wr base (.slice la m lc) ld) ∧ Hid (VReads wr (.slice (some ⟨bs, o1, none⟩) s1 d1) ((st.drop c).map qr)) ∧ Hid (Below base w wr))
  case atStart => exact ⟨m + 1, vs1, by omega, by omega, by first | rfl | simp, HB1, Lib.hid (by rw [upto_none (by omega)]; exact HG1.out), HL1, HV1, HW1⟩
  case round => as_aux_lemma =>
    clear HB1 HG1 HL1 HV1 HW1
    obtain ⟨k, vs', hk, hmk, rfl, HB, HG, HL, HV, HW⟩ := hrel
    have hsr : base ≤ wr.heap.size := by have := HG.out.lt; omega
    have z0 : wr.cell? ⟨B, 0, none⟩ = some (.slice (some ⟨g, 0, none⟩) n cap) := HB.out.cell 0 _ rfl
    by_cases hlt : k < n
    · have n0 : (0 : Int) ≤ (k : Int) := by omega
      have l0 : (k : Int) < (n : Int) := by omega
      have w0 : IntKind.i64.wrap ((k : Int) + 1) = ((k + 1 : Nat) : Int) := IntWalk.i64_in _ (by omega)
      have j2 : (c : Int) < (N : Int) := by omega
      have s2 : (0 : Int) < (s1 : Int) := by omega
      obtain ⟨ya2, c2, r, e1, -, e3, e4, e5⟩ := HG.out.at hlt
      rw [upto_at' (by omega)] at e1
      have hrl := HR1.out r (List.mem_of_getElem? e1)
      obtain ⟨b2, o2, rfl, hsl2, hv2, hb2, hc2, hel2⟩ := rats_from e3 (show c < r.length by omega)
      rw [hrl] at e3 e4 hsl2 hv2 hc2
      rw [← List.map_drop] at hv2
      rw [← HS11.out] at hsl2 hv2
      have hqa := hel2 c (qr (r.getD c 0)) (at_qr (by omega))
      obtain ⟨-, -, bs', os', hA3, hel3⟩ := HV.out.addr
      obtain ⟨ebs, hbs⟩ := hA3 hs0
      cases ebs
      have hqb := hel3 0 (qr (st.getD c 0)) (at_drop (by have := HST.out.2; omega))
      rw [Nat.zero_mul, Nat.add_zero] at hqb
      obtain ⟨p, e1', p', e2', h0, h1', h2', g1, g2⟩ := hqa
      obtain ⟨u, f1, u', f2, y0, y1, y2, gu1, gu2⟩ := hqb
      have hsm := HS1.out r (List.mem_of_getElem? e1)
      rw [HST.out.1] at hsm
      have hY0 : st.getD c 0 ≠ 0 := by have := HN1.out; rwa [HST.out.1] at this
      have hE : r.getD c 0 ≠ 0 → elim c st r = r.take c ++ axpy (0 - r.getD c 0 / st.getD c 0) (r.drop c) (st.drop c) := fun h => by unfold elim; rw [if_neg h]; rfl
      have hsmst := HS1.out st (by have := HG.out.len; rw [upto_len] at this; rw [← HST.out.1, List.getD_eq_getElem?_getD, List.getElem?_eq_getElem (by omega)]; exact List.getElem_mem _)
      obtain ⟨X, hX⟩ : ∃ X, X = r.getD c 0 := ⟨_, rfl⟩
      obtain ⟨Y, hY⟩ : ∃ Y, Y = st.getD c 0 := ⟨_, rfl⟩
      have hXm : wt X ≤ 3000 := hsm.1 X (by rw [hX]; exact at_mem (by omega))
      have hYm : wt Y ≤ 3000 := hsmst.1 Y (by rw [hY]; exact at_mem (by have := HST.out.2; omega))
      have hTm := hsm.2
      rw [← hX, ← hY] at hE hTm
      rw [← hX] at h0 h1' h2' g1 g2
      rw [← hY] at y0 y1 y2 gu1 gu2 hY0
      have fX := fit_qr (X := X) (by omega)
      have fY := fit_qr (X := Y) (by omega)
      have KS := Lib.hid (r_sign (w := wr) (rsg X 0) (qr_can X).is rfl (by have := fX.2.1; omega) (by have := fX.2.2; omega) g1 g2)
      have KD := Lib.hid (fun (W : World) {p1 o1 p2 o2 : Option Addr} {q1 r1 q2 r2 : Nat} (g1 : Reads W (.slice p1 (qr X).2.1.length q1) (qr X).2.1) (g2 : Reads W (.slice o1 (qr X).2.2.length r1) (qr X).2.2) (g3 : Reads W (.slice p2 (qr Y).2.1.length q2) (qr Y).2.1) (g4 : Reads W (.slice o2 (qr Y).2.2.length r2) (qr Y).2.2) => r_div_ok (qr_can X) (qr_can Y) hY0 (qr_can (X / Y)) rfl fX.2.1 fX.2.2 fY.2.1 fY.2.2 g1 g2 g3 g4)
      have KM := Lib.hid (fun (W : World) {p1 o1 : Option Addr} {q1 r1 : Nat} (g1 : Reads W (.slice p1 (qr (X / Y)).2.1.length q1) (qr (X / Y)).2.1) (g2 : Reads W (.slice o1 (qr (X / Y)).2.2.length r1) (qr (X / Y)).2.2) => g_minus (X := X / Y) (by omega) g1 g2)
      have hU : wt (0 - X / Y) ≤ 3000 := by have := wt_sub 0 (X / Y); rw [wt_zero] at this; omega
      have KA := Lib.hid (fun (W : World) (r0 : Below wr.heap.size wr W) {pb ob : Option Addr} {qb rb : Nat} (g5 : Reads W (.slice pb (qr (0 - X / Y)).2.1.length qb) (qr (0 - X / Y)).2.1) (g6 : Reads W (.slice ob (qr (0 - X / Y)).2.2.length rb) (qr (0 - X / Y)).2.2) => v_addm (hv2.below r0) (HV.out.below r0) g5 g6 (fun x hx => hsm.1 x (List.mem_of_mem_drop hx)) (fun x hx => hsmst.1 x (List.mem_of_mem_drop hx)) hU (by have := HS11.out; omega))
      obtain ⟨ax, hax⟩ : ∃ ax, ax = axpy (0 - X / Y) (r.drop c) (st.drop c) := ⟨_, rfl⟩
      rw [← hax] at KA hE
      have hxl : ax.length = s1 := by rw [hax, axpy_len (by rw [List.length_drop, List.length_drop, hrl, HST.out.2]), List.length_drop, hrl, HS11.out]
      have HAX := Lib.hid (show (ax.map qr).length = s1 by rw [List.length_map, hxl])
      have HEL := Lib.hid (show (r.take c ++ ax).length = N by rw [List.length_append, hxl, List.length_take, hrl, HS11.out]; omega)
      have HV3 := Lib.hid (show VReads wr (.slice (some ⟨b2, o2, none⟩) c c2) ((r.take c).map qr) by rw [List.map_take]; exact e3.take c (by omega))
      have HZ0 := Lib.hid (show rsg X 0 = 0 → upto R1 m c (k + 1) = upto R1 m c k from fun h => upto_same e1 (by rw [← hX]; exact rsg_z.1 h))
      have HZ1 := Lib.hid (show ¬ rsg X 0 = 0 → upto R1 m c (k + 1) = (upto R1 m c k).set k (r.take c ++ ax) from fun h => by rw [upto_next e1 hmk, HST.out.1, hE (fun h2 => h (rsg_z.2 h2))])
      obtain ⟨qU, hqU⟩ : ∃ q, q = qr (0 - X / Y) := ⟨_, rfl⟩
      obtain ⟨qT, hqT⟩ : ∃ q, q = qr (X / Y) := ⟨_, rfl⟩
      unfold RAns at KM
      rw [← hqU] at KA KM
      rw [← hqT] at KD KM
      obtain ⟨qX, hqX⟩ : ∃ q, q = qr X := ⟨_, rfl⟩
      obtain ⟨qY, hqY⟩ : ∃ q, q = qr Y := ⟨_, rfl⟩
      obtain ⟨zz, hzz⟩ : ∃ z, z = rsg X 0 := ⟨_, rfl⟩
      rw [← hqX] at KD KS h0 h1' h2' g1 g2
      rw [← hqY] at KD y0 y1 y2 gu1 gu2
      rw [← hzz] at KS HZ0 HZ1
      have HGX := Lib.hid (And.intro g1 (And.intro g2 (And.intro gu1 gu2)))
      have HCW := Lib.hid (show ∀ W, Below wr.heap.size wr W → W.cell? ⟨b2, o2 + c * 3, none⟩ = some (.bool qX.1) ∧ W.cell? ⟨b2, o2 + c * 3 + 1, none⟩ = some (.slice p qX.2.1.length e1') ∧ W.cell? ⟨b2, o2 + c * 3 + 2, none⟩ = some (.slice p' qX.2.2.length e2') ∧ W.cell? ⟨bs, o1, none⟩ = some (.bool qY.1) ∧ W.cell? ⟨bs, o1 + 1, none⟩ = some (.slice u qY.2.1.length f1) ∧ W.cell? ⟨bs, o1 + 2, none⟩ = some (.slice u' qY.2.2.length f2) from fun W r0 => ⟨(r0.cell (p := ⟨b2, o2 + c * 3, none⟩) hb2).trans h0, (r0.cell (p := ⟨b2, o2 + c * 3 + 1, none⟩) hb2).trans h1', (r0.cell (p := ⟨b2, o2 + c * 3 + 2, none⟩) hb2).trans h2', (r0.cell (p := ⟨bs, o1, none⟩) hbs).trans y0, (r0.cell (p := ⟨bs, o1 + 1, none⟩) hbs).trans y1, (r0.cell (p := ⟨bs, o1 + 2, none⟩) hbs).trans y2⟩)
      obtain ⟨rt, hrt⟩ : ∃ rt, rt = r.take c := ⟨_, rfl⟩
      rw [← hrt] at HZ1 HEL HV3
      clear hE hTm hXm hYm hsm hsmst fX fY hel2 hel3 hv2 e3 e1 hX hY hY0 hU y0 y1 y2 g1 g2 gu1 gu2 hrl hax hxl hqU hqT hqX hqY hzz hrt hbs
      by_cases hz : zz = 0
      · as_aux_lemma =>
        have HU := Lib.hid (HZ0.out hz)
        subst hz
        clear HZ0 HZ1 KD KM KA HAX HEL HV3 HGX HCW e5 j2 s2 hs0 hc2 hb2
        go_wp2_with fail
        refine KS.out.mono ?_
        rintro e w5 ⟨rfl, rr⟩
        go_wp2_with fail
        go_roundg (n - (k + 1))
        case measure => omega
        case rel => exact ⟨k + 1, vs', by omega, by omega, by first | rfl | simp, Lib.hid (HB.out.under rr), Lib.hid (by rw [HU.out]; exact HG.out.below rr), Lib.hid (HL.out.below rr), Lib.hid (HV.out.below rr), Lib.hid (then_at HW.out hsr rr)⟩
      · as_aux_lemma =>
        have HU := Lib.hid (HZ1.out hz)
        have jz : (zz == 0) = false := beq_eq_false_iff_ne.2 hz
        clear HZ0 HZ1 hz
        go_wp2_with fail
        refine KS.out.mono ?_
        rintro e w5 ⟨rfl, rr⟩
        have HB5 := Lib.hid rr
        have HC := Lib.hid (fun (W : World) (r0 : Below w5.heap.size w5 W) => HCW.out W (then_below HB5.out r0))
        have gX1 := HGX.out.1.below rr
        have gX2 := HGX.out.2.1.below rr
        have gY1 := HGX.out.2.2.1.below rr
        have gY2 := HGX.out.2.2.2.below rr
        clear rr KS HCW h0 h1' h2' e4 e5 z0 HGX hb2
        go_wp2_with fail
        clear jz
        go_cut [10, 11] (fun x y wc => ∃ (wx : World) (b5 : Nat) (a : Option Addr) (e3 : Nat) (a' : Option Addr) (e4 : Nat), wx = wc ∧ x = .pointer (some ⟨b5, 0, none⟩) ∧ Hid (BoxN wx b5 44 #[.bool qT.1, .slice a qT.2.1.length e3, .slice a' qT.2.2.length e4]) ∧ Hid (Reads wx (.slice a qT.2.1.length e3) qT.2.1) ∧ Hid (Reads wx (.slice a' qT.2.2.length e4) qT.2.2) ∧ Hid (Below w5.heap.size w5 wx))
        case first => as_aux_lemma =>
         have M : Mem w5 [] [(.slice u' qY.2.2.length f2, qY.2.2), (.slice u qY.2.1.length f1, qY.2.1), (.slice p' qX.2.2.length e2', qX.2.2), (.slice p qX.2.1.length e1', qX.2.1)] w5 := by
           have M := (((((Mem.start w5).add gX1).add gX2).add gY1).add gY2)
           exact M
         refine region_mem (S := (fun (W : World) => W.cell? ⟨b2, o2 + c * 3, none⟩ = some (.bool qX.1) ∧ W.cell? ⟨b2, o2 + c * 3 + 1, none⟩ = some (.slice p qX.2.1.length e1') ∧ W.cell? ⟨b2, o2 + c * 3 + 2, none⟩ = some (.slice p' qX.2.2.length e2') ∧ W.cell? ⟨bs, o1, none⟩ = some (.bool qY.1) ∧ W.cell? ⟨bs, o1 + 1, none⟩ = some (.slice u qY.2.1.length f1) ∧ W.cell? ⟨bs, o1 + 2, none⟩ = some (.slice u' qY.2.2.length f2))) M (by kernel_rfl) ?_
         intro V0 M
         have hS0 : (fun (W : World) => W.cell? ⟨b2, o2 + c * 3, none⟩ = some (.bool qX.1) ∧ W.cell? ⟨b2, o2 + c * 3 + 1, none⟩ = some (.slice p qX.2.1.length e1') ∧ W.cell? ⟨b2, o2 + c * 3 + 2, none⟩ = some (.slice p' qX.2.2.length e2') ∧ W.cell? ⟨bs, o1, none⟩ = some (.bool qY.1) ∧ W.cell? ⟨bs, o1 + 1, none⟩ = some (.slice u qY.2.1.length f1) ∧ W.cell? ⟨bs, o1 + 2, none⟩ = some (.slice u' qY.2.2.length f2)) V0 := HC.out _ M.below
         refine wtk 0 (.slice (some ⟨b2, o2, none⟩) N c2) rfl (fun _ _ _ h => h) (Or.inl ⟨by rfl, fun W3 hS => by go_simp⟩) hS0 ?_
         try simp only [Act.put, List.setIfInBounds_toArray, List.set_cons_zero, List.set_cons_succ]
         refine wtk 1 (.int .i64 (c : Int)) rfl (fun _ _ _ h => h) (Or.inl ⟨by rfl, fun W3 hS => by go_simp⟩) hS0 ?_
         try simp only [Act.put, List.setIfInBounds_toArray, List.set_cons_zero, List.set_cons_succ]
         refine wtk 2 (.pointer (some ⟨b2, o2 + c * 3, none⟩)) rfl (fun _ _ _ h => h) (Or.inl ⟨by rfl, fun W3 hS => by go_simp⟩) hS0 ?_
         try simp only [Act.put, List.setIfInBounds_toArray, List.set_cons_zero, List.set_cons_succ]
         refine wtk 3 (.agg #[.bool qX.1, .slice p qX.2.1.length e1', .slice p' qX.2.2.length e2']) rfl (fun _ _ _ h => h) (Or.inl ⟨by rfl, fun W3 hS => by obtain ⟨hS0, hS1, hS2, hS3, hS4, hS5⟩ := hS; go_simp⟩) hS0 ?_
         try simp only [Act.put, List.setIfInBounds_toArray, List.set_cons_zero, List.set_cons_succ]
         refine wtk 4 (.slice (some ⟨bs, o1, none⟩) s1 d1) rfl (fun _ _ _ h => h) (Or.inl ⟨by rfl, fun W3 hS => by go_simp⟩) hS0 ?_
         try simp only [Act.put, List.setIfInBounds_toArray, List.set_cons_zero, List.set_cons_succ]
         refine wtk 5 (.pointer (some ⟨bs, o1, none⟩)) rfl (fun _ _ _ h => h) (Or.inl ⟨by rfl, fun W3 hS => by go_simp⟩) hS0 ?_
         try simp only [Act.put, List.setIfInBounds_toArray, List.set_cons_zero, List.set_cons_succ]
         refine wtk 6 (.agg #[.bool qY.1, .slice u qY.2.1.length f1, .slice u' qY.2.2.length f2]) rfl (fun _ _ _ h => h) (Or.inl ⟨by rfl, fun W3 hS => by obtain ⟨hS0, hS1, hS2, hS3, hS4, hS5⟩ := hS; go_simp⟩) hS0 ?_
         try simp only [Act.put, List.setIfInBounds_toArray, List.set_cons_zero, List.set_cons_succ]
         clear hS0
         refine two_op 7 11 ?_ ?_
         · refine wpOp_intro rfl (fun K1 hK => ?_)
           go_simp
           refine (KD.out _ (M.get 3 rfl) (M.get 2 rfl) (M.get 1 rfl) (M.get 0 rfl)).mono ?_
           rintro e V1_7 ⟨a, e3, a', e4, rfl, g1, g2, rr⟩
           have M' := ((M.up rr).add g1).add g2
           clear M rr g1 g2
           have M := M'; clear M'
           refine hK _ _ ⟨HC.out _ M.below, ?_⟩
           clear hK K1
           have hS0 : (fun (W : World) => W.cell? ⟨b2, o2 + c * 3, none⟩ = some (.bool qX.1) ∧ W.cell? ⟨b2, o2 + c * 3 + 1, none⟩ = some (.slice p qX.2.1.length e1') ∧ W.cell? ⟨b2, o2 + c * 3 + 2, none⟩ = some (.slice p' qX.2.2.length e2') ∧ W.cell? ⟨bs, o1, none⟩ = some (.bool qY.1) ∧ W.cell? ⟨bs, o1 + 1, none⟩ = some (.slice u qY.2.1.length f1) ∧ W.cell? ⟨bs, o1 + 2, none⟩ = some (.slice u' qY.2.2.length f2)) _ := HC.out _ M.below
           refine wtk 8 (.tuple #[.agg #[.bool qT.1, .slice a qT.2.1.length e3, .slice a' qT.2.2.length e4], .int .i64 0]) rfl (fun _ _ _ h => h) (Or.inl ⟨by rfl, fun W3 hS => by go_simp⟩) hS0 ?_
           try simp only [Act.put, List.setIfInBounds_toArray, List.set_cons_zero, List.set_cons_succ]
           refine wtk 9 (.agg #[.bool qT.1, .slice a qT.2.1.length e3, .slice a' qT.2.2.length e4]) rfl (fun _ _ _ h => h) (Or.inl ⟨by rfl, fun W3 hS => by go_simp⟩) hS0 ?_
           try simp only [Act.put, List.setIfInBounds_toArray, List.set_cons_zero, List.set_cons_succ]
           refine wtk 10 (.int .i64 0) rfl (fun _ _ _ h => h) (Or.inl ⟨by rfl, fun W3 hS => by go_simp⟩) hS0 ?_
           try simp only [Act.put, List.setIfInBounds_toArray, List.set_cons_zero, List.set_cons_succ]
           clear hS0
           refine one_op 11 rfl (fun K2 hK => ?_)
           go_simp
           obtain ⟨b5, V2_11, hV, hb, M'⟩ := M.fresh 44 [.bool false, .slice none 0 0, .slice none 0 0]
           rw [← hV, ← hb]
           clear M hV hb; have M := M'; clear M'
           refine hK _ _ ⟨HC.out _ M.below, ?_⟩
           clear hK K2
           have f0_0 := M.fr 0 rfl 0; have f0_1 := M.fr 0 rfl 1; have f0_2 := M.fr 0 rfl 2
           have z0_0 := M.cell 0 rfl 0 rfl; have z0_1 := M.cell 0 rfl 1 rfl; have z0_2 := M.cell 0 rfl 2 rfl
           refine one_op 12 rfl (fun Ks3 hK => ?_)
           go_simp
           have M' := (((M.put 0 rfl rfl 0 (.bool qT.1)).put 0 rfl rfl 1 (.slice a qT.2.1.length e3)).put 0 rfl rfl 2 (.slice a' qT.2.2.length e4))
           clear M f0_0 z0_0 f0_1 z0_1 f0_2 z0_2
           have M : Mem w5 [(b5, 44, [.bool qT.1, .slice a qT.2.1.length e3, .slice a' qT.2.2.length e4])] [(.slice a' qT.2.2.length e4, qT.2.2), (.slice a qT.2.1.length e3, qT.2.1), (.slice u' qY.2.2.length f2, qY.2.2), (.slice u qY.2.1.length f1, qY.2.1), (.slice p' qX.2.2.length e2', qX.2.2), (.slice p qX.2.1.length e1', qX.2.1)] _ := M'
           clear M'
           refine hK _ _ ⟨HC.out _ M.below, ?_⟩
           clear hK Ks3
           have hS0 : (fun (W : World) => W.cell? ⟨b2, o2 + c * 3, none⟩ = some (.bool qX.1) ∧ W.cell? ⟨b2, o2 + c * 3 + 1, none⟩ = some (.slice p qX.2.1.length e1') ∧ W.cell? ⟨b2, o2 + c * 3 + 2, none⟩ = some (.slice p' qX.2.2.length e2') ∧ W.cell? ⟨bs, o1, none⟩ = some (.bool qY.1) ∧ W.cell? ⟨bs, o1 + 1, none⟩ = some (.slice u qY.2.1.length f1) ∧ W.cell? ⟨bs, o1 + 2, none⟩ = some (.slice u' qY.2.2.length f2)) _ := HC.out _ M.below
           refine wtk 13 (.int .i64 0) rfl (fun _ _ _ h => h) (Or.inl ⟨by rfl, fun W3 hS => by go_simp⟩) hS0 ?_
           try simp only [Act.put, List.setIfInBounds_toArray, List.set_cons_zero, List.set_cons_succ]
           clear hS0
           refine wdn ?_
           go_wp2_with fail; go_meet; exact ⟨_, _, _, _, _, _, rfl, rfl, Lib.hid (M.box 0 rfl), Lib.hid (M.get 1 rfl), Lib.hid (M.get 0 rfl), Lib.hid M.below⟩
         · refine wpOp_intro rfl (fun K1 hK => ?_)
           go_simp
           obtain ⟨b5, V1_11, hV, hb, M'⟩ := M.fresh 44 [.bool false, .slice none 0 0, .slice none 0 0]
           rw [← hV, ← hb]
           clear M hV hb; have M := M'; clear M'
           refine hK _ _ ⟨HC.out _ M.below, ?_⟩
           clear hK K1
           refine one_op 7 rfl (fun K4 hK => ?_)
           go_simp
           refine (KD.out _ (M.get 3 rfl) (M.get 2 rfl) (M.get 1 rfl) (M.get 0 rfl)).mono ?_
           rintro e V4_7 ⟨a, e3, a', e4, rfl, g1, g2, rr⟩
           have M' := ((M.up rr).add g1).add g2
           clear M rr g1 g2
           have M := M'; clear M'
           refine hK _ _ ⟨HC.out _ M.below, ?_⟩
           clear hK K4
           have hS0 : (fun (W : World) => W.cell? ⟨b2, o2 + c * 3, none⟩ = some (.bool qX.1) ∧ W.cell? ⟨b2, o2 + c * 3 + 1, none⟩ = some (.slice p qX.2.1.length e1') ∧ W.cell? ⟨b2, o2 + c * 3 + 2, none⟩ = some (.slice p' qX.2.2.length e2') ∧ W.cell? ⟨bs, o1, none⟩ = some (.bool qY.1) ∧ W.cell? ⟨bs, o1 + 1, none⟩ = some (.slice u qY.2.1.length f1) ∧ W.cell? ⟨bs, o1 + 2, none⟩ = some (.slice u' qY.2.2.length f2)) _ := HC.out _ M.below
           refine wtk 8 (.tuple #[.agg #[.bool qT.1, .slice a qT.2.1.length e3, .slice a' qT.2.2.length e4], .int .i64 0]) rfl (fun _ _ _ h => h) (Or.inl ⟨by rfl, fun W3 hS => by go_simp⟩) hS0 ?_
           try simp only [Act.put, List.setIfInBounds_toArray, List.set_cons_zero, List.set_cons_succ]
           refine wtk 9 (.agg #[.bool qT.1, .slice a qT.2.1.length e3, .slice a' qT.2.2.length e4]) rfl (fun _ _ _ h => h) (Or.inl ⟨by rfl, fun W3 hS => by go_simp⟩) hS0 ?_
           try simp only [Act.put, List.setIfInBounds_toArray, List.set_cons_zero, List.set_cons_succ]
           refine wtk 10 (.int .i64 0) rfl (fun _ _ _ h => h) (Or.inl ⟨by rfl, fun W3 hS => by go_simp⟩) hS0 ?_
           try simp only [Act.put, List.setIfInBounds_toArray, List.set_cons_zero, List.set_cons_succ]
           clear hS0
           have f0_0 := M.fr 0 rfl 0; have f0_1 := M.fr 0 rfl 1; have f0_2 := M.fr 0 rfl 2
           have z0_0 := M.cell 0 rfl 0 rfl; have z0_1 := M.cell 0 rfl 1 rfl; have z0_2 := M.cell 0 rfl 2 rfl
           refine one_op 12 rfl (fun Ks5 hK => ?_)
           go_simp
           have M' := (((M.put 0 rfl rfl 0 (.bool qT.1)).put 0 rfl rfl 1 (.slice a qT.2.1.length e3)).put 0 rfl rfl 2 (.slice a' qT.2.2.length e4))
           clear M f0_0 z0_0 f0_1 z0_1 f0_2 z0_2
           have M : Mem w5 [(b5, 44, [.bool qT.1, .slice a qT.2.1.length e3, .slice a' qT.2.2.length e4])] [(.slice a' qT.2.2.length e4, qT.2.2), (.slice a qT.2.1.length e3, qT.2.1), (.slice u' qY.2.2.length f2, qY.2.2), (.slice u qY.2.1.length f1, qY.2.1), (.slice p' qX.2.2.length e2', qX.2.2), (.slice p qX.2.1.length e1', qX.2.1)] _ := M'
           clear M'
           refine hK _ _ ⟨HC.out _ M.below, ?_⟩
           clear hK Ks5
           have hS0 : (fun (W : World) => W.cell? ⟨b2, o2 + c * 3, none⟩ = some (.bool qX.1) ∧ W.cell? ⟨b2, o2 + c * 3 + 1, none⟩ = some (.slice p qX.2.1.length e1') ∧ W.cell? ⟨b2, o2 + c * 3 + 2, none⟩ = some (.slice p' qX.2.2.length e2') ∧ W.cell? ⟨bs, o1, none⟩ = some (.bool qY.1) ∧ W.cell? ⟨bs, o1 + 1, none⟩ = some (.slice u qY.2.1.length f1) ∧ W.cell? ⟨bs, o1 + 2, none⟩ = some (.slice u' qY.2.2.length f2)) _ := HC.out _ M.below
           refine wtk 13 (.int .i64 0) rfl (fun _ _ _ h => h) (Or.inl ⟨by rfl, fun W3 hS => by go_simp⟩) hS0 ?_
           try simp only [Act.put, List.setIfInBounds_toArray, List.set_cons_zero, List.set_cons_succ]
           clear hS0
           refine wdn ?_
           go_wp2_with fail; go_meet; exact ⟨_, _, _, _, _, _, rfl, rfl, Lib.hid (M.box 0 rfl), Lib.hid (M.get 1 rfl), Lib.hid (M.get 0 rfl), Lib.hid M.below⟩
        case rest =>
         as_aux_lemma =>
           obtain ⟨wx, b5, a, e3, a', e4, rfl, rfl, BX, RX1, RX2, BB⟩ := hcut
           have HB6 := Lib.hid (then_below HB5.out BB.out)
           have gT1 := RX1.out
           have gT2 := RX2.out
           have hBX := BX.out
           have KA2 := Lib.hid (show ∀ (W : World) (r0 : Below wr.heap.size wr W) {pb ob : Option Addr} {qb rb : Nat}, Reads W (.slice pb qU.2.1.length qb) qU.2.1 → Reads W (.slice ob qU.2.2.length rb) qU.2.2 → Calls Tryz.prog 23 #[.slice (some ⟨b2, o2 + c * 3, none⟩) s1 (c2 - c), .slice (some ⟨bs, o1, none⟩) s1 d1, .agg #[.bool qU.1, .slice pb qU.2.1.length qb, .slice ob qU.2.2.length rb]] W fun e w' => ∃ va vc, e = .returned (.tuple #[.slice va s1 vc, .int .i64 0]) ∧ VReads w' (.slice va s1 vc) (ax.map qr) ∧ Below W.heap.size W w' from fun W r0 {pb ob qb rb} g5 g6 => (KA.out W r0 g5 g6).mono (by
            rintro e w' ⟨v, rfl, hv, rr⟩
            obtain ⟨va, vc, ev⟩ := hv.form
            rw [HAX.out] at ev
            subst ev
            exact ⟨va, vc, rfl, hv.reads, rr⟩))
           clear KD HC gX1 gX2 gY1 gY2 HB5 BB BX RX1 RX2 KA
           go_wp2_with fail
           have M : Mem wx [] [(.slice a' qT.2.2.length e4, qT.2.2), (.slice a qT.2.1.length e3, qT.2.1)] wx := by
            have M := (((Mem.start wx).add gT1).add gT2)
            exact M
           refine region_mem (S := (fun (W : World) => BoxN W b5 44 #[.bool qT.1, .slice a qT.2.1.length e3, .slice a' qT.2.2.length e4])) M (by kernel_rfl) ?_
           intro V0 M
           have hS0 : (fun (W : World) => BoxN W b5 44 #[.bool qT.1, .slice a qT.2.1.length e3, .slice a' qT.2.2.length e4]) V0 := M.old hBX
           refine wtk 0 (.slice (some ⟨b2, o2, none⟩) N c2) rfl (fun _ _ _ h => h) (Or.inl ⟨by rfl, fun W3 hS => by go_simp⟩) hS0 ?_
           try simp only [Act.put, List.setIfInBounds_toArray, List.set_cons_zero, List.set_cons_succ]
           refine wtk 1 (.int .i64 (c : Int)) rfl (fun _ _ _ h => h) (Or.inl ⟨by rfl, fun W3 hS => by go_simp⟩) hS0 ?_
           try simp only [Act.put, List.setIfInBounds_toArray, List.set_cons_zero, List.set_cons_succ]
           refine wtk 2 (.slice (some ⟨b2, o2 + c * 3, none⟩) s1 (c2 - c)) rfl (fun _ _ _ h => h) (Or.inl ⟨by rfl, fun W3 hS => by go_simp⟩) hS0 ?_
           try simp only [Act.put, List.setIfInBounds_toArray, List.set_cons_zero, List.set_cons_succ]
           refine wtk 3 (.slice (some ⟨bs, o1, none⟩) s1 d1) rfl (fun _ _ _ h => h) (Or.inl ⟨by rfl, fun W3 hS => by go_simp⟩) hS0 ?_
           try simp only [Act.put, List.setIfInBounds_toArray, List.set_cons_zero, List.set_cons_succ]
           refine wtk 4 (.agg #[.bool qT.1, .slice a qT.2.1.length e3, .slice a' qT.2.2.length e4]) rfl (fun _ _ _ h => h) (Or.inl ⟨by rfl, fun W3 hS => by have hS0 := hS; have d0_0 := hS0.cell 0 _ rfl; have d0_1 := hS0.cell 1 _ rfl; have d0_2 := hS0.cell 2 _ rfl; go_simp⟩) hS0 ?_
           try simp only [Act.put, List.setIfInBounds_toArray, List.set_cons_zero, List.set_cons_succ]
           clear hS0
           refine one_op 5 rfl (fun K1 hK => ?_)
           go_simp
           refine (KM.out _ (M.get 1 rfl) (M.get 0 rfl)).mono ?_
           rintro e V1_5 ⟨x1, x3, x2, x4, rfl, g1, g2, rr⟩
           have M' := ((M.up rr).add g1).add g2
           clear M rr g1 g2
           have M := M'; clear M'
           refine hK _ _ ⟨M.old hBX, ?_⟩
           clear hK K1
           refine one_op 6 rfl (fun K2 hK => ?_)
           go_simp
           refine (KA2.out _ (then_below HB6.out M.below) (M.get 1 rfl) (M.get 0 rfl)).mono ?_
           rintro e V2_6 ⟨va, vc, rfl, hvx, rr⟩
           have M' := M.up rr
           clear M rr 
           have M := M'; clear M'
           refine hK _ _ ⟨M.old hBX, ?_⟩
           clear hK K2
           have hS0 : (fun (W : World) => BoxN W b5 44 #[.bool qT.1, .slice a qT.2.1.length e3, .slice a' qT.2.2.length e4]) _ := M.old hBX
           refine wtk 7 (.tuple #[.slice va s1 vc, .int .i64 0]) rfl (fun _ _ _ h => h) (Or.inl ⟨by rfl, fun W3 hS => by go_simp⟩) hS0 ?_
           try simp only [Act.put, List.setIfInBounds_toArray, List.set_cons_zero, List.set_cons_succ]
           refine wtk 8 (.slice va s1 vc) rfl (fun _ _ _ h => h) (Or.inl ⟨by rfl, fun W3 hS => by go_simp⟩) hS0 ?_
           try simp only [Act.put, List.setIfInBounds_toArray, List.set_cons_zero, List.set_cons_succ]
           refine wtk 9 (.int .i64 0) rfl (fun _ _ _ h => h) (Or.inl ⟨by rfl, fun W3 hS => by go_simp⟩) hS0 ?_
           try simp only [Act.put, List.setIfInBounds_toArray, List.set_cons_zero, List.set_cons_succ]
           clear hS0
           have hS0 : (fun (W : World) => BoxN W b5 44 #[.bool qT.1, .slice a qT.2.1.length e3, .slice a' qT.2.2.length e4]) _ := M.old hBX
           refine wtk 10 (.slice va s1 vc) rfl (fun _ _ _ h => h) (Or.inl ⟨by rfl, fun W3 hS => by go_simp⟩) hS0 ?_
           try simp only [Act.put, List.setIfInBounds_toArray, List.set_cons_zero, List.set_cons_succ]
           refine wtk 11 (.int .i64 0) rfl (fun _ _ _ h => h) (Or.inl ⟨by rfl, fun W3 hS => by go_simp⟩) hS0 ?_
           try simp only [Act.put, List.setIfInBounds_toArray, List.set_cons_zero, List.set_cons_succ]
           clear hS0
           refine wdn ?_
           go_wp2_with fail
           have HB7 := Lib.hid (then_below HB6.out M.below)
           have G7 := Lib.hid (HG.out.below HB7.out)
           have B7 := Lib.hid (HB.out.under HB7.out)
           have L7 := Lib.hid (HL.out.below HB7.out)
           have T7 := Lib.hid (HV.out.below HB7.out)
           have R7 := Lib.hid (HV3.out.below HB7.out)
           have HVX := Lib.hid hvx
           have HC7 := Lib.hid (fun (W : World) (r0 : Below V2_6.heap.size V2_6 W) => (B7.out.under r0).cell 0 _ rfl)
           have KC := Lib.hid (fun (W : World) (r0 : Below V2_6.heap.size V2_6 W) {h : Nat} (hB : BoxN W h 30 #[.slice (some ⟨b2, o2, none⟩) c c2, .slice va s1 vc]) => (g_concat hB (R7.out.below r0) (HVX.out.below r0) (by omega) (by have := HS11.out; omega)).mono (R' := fun e w' => ∃ vb vd, e = .returned (.slice vb N vd) ∧ VReads w' (.slice vb N vd) ((rt ++ ax).map qr) ∧ Below W.heap.size W w') (by
            rintro e w' ⟨v, rfl, hv, rr⟩
            rw [← List.map_append] at hv
            obtain ⟨vb, vd, ev⟩ := hv.form
            rw [List.length_map, HEL.out] at ev
            subst ev
            exact ⟨vb, vd, rfl, hv, rr⟩))
           have hcc : (c : Int) ≤ (c2 : Int) := by omega
           clear M hvx hBX HAX KA2 KM HB6 hsl2 HV3
           have M : Mem V2_6 [] [] V2_6 := Mem.start V2_6
           refine region_mem (S := (fun (W : World) => W.cell? ⟨B, 0, none⟩ = some (.slice (some ⟨g, 0, none⟩) n cap))) M (by kernel_rfl) ?_
           intro V0 M
           have hS0 : (fun (W : World) => W.cell? ⟨B, 0, none⟩ = some (.slice (some ⟨g, 0, none⟩) n cap)) V0 := (HC7.out _ M.below)
           refine wtk 0 (.pointer (some ⟨B, 0, none⟩)) rfl (fun _ _ _ h => h) (Or.inl ⟨by rfl, fun W3 hS => by go_simp⟩) hS0 ?_
           try simp only [Act.put, List.setIfInBounds_toArray, List.set_cons_zero, List.set_cons_succ]
           refine wtk 1 (.pointer (some ⟨B, 0, none⟩)) rfl (fun _ _ _ h => h) (Or.inl ⟨by rfl, fun W3 hS => by go_simp⟩) hS0 ?_
           try simp only [Act.put, List.setIfInBounds_toArray, List.set_cons_zero, List.set_cons_succ]
           refine wtk 2 (.pointer (some ⟨B, 0, none⟩)) rfl (fun _ _ _ h => h) (Or.inl ⟨by rfl, fun W3 hS => by go_simp⟩) hS0 ?_
           try simp only [Act.put, List.setIfInBounds_toArray, List.set_cons_zero, List.set_cons_succ]
           refine wtk 3 (.slice (some ⟨g, 0, none⟩) n cap) rfl (fun _ _ _ h => h) (Or.inl ⟨by rfl, fun W3 hS => by have hS0 := hS; go_simp⟩) hS0 ?_
           try simp only [Act.put, List.setIfInBounds_toArray, List.set_cons_zero, List.set_cons_succ]
           refine wtk 4 (.int .i64 (k : Int)) rfl (fun _ _ _ h => h) (Or.inl ⟨by rfl, fun W3 hS => by go_simp⟩) hS0 ?_
           try simp only [Act.put, List.setIfInBounds_toArray, List.set_cons_zero, List.set_cons_succ]
           refine wtk 5 (.slice (some ⟨b2, o2, none⟩) N c2) rfl (fun _ _ _ h => h) (Or.inl ⟨by rfl, fun W3 hS => by go_simp⟩) hS0 ?_
           try simp only [Act.put, List.setIfInBounds_toArray, List.set_cons_zero, List.set_cons_succ]
           refine wtk 6 (.int .i64 (c : Int)) rfl (fun _ _ _ h => h) (Or.inl ⟨by rfl, fun W3 hS => by go_simp⟩) hS0 ?_
           try simp only [Act.put, List.setIfInBounds_toArray, List.set_cons_zero, List.set_cons_succ]
           refine wtk 7 (.slice (some ⟨b2, o2, none⟩) c c2) rfl (fun _ _ _ h => h) (Or.inl ⟨by rfl, fun W3 hS => by go_simp⟩) hS0 ?_
           try simp only [Act.put, List.setIfInBounds_toArray, List.set_cons_zero, List.set_cons_succ]
           refine wtk 8 (.slice va s1 vc) rfl (fun _ _ _ h => h) (Or.inl ⟨by rfl, fun W3 hS => by go_simp⟩) hS0 ?_
           try simp only [Act.put, List.setIfInBounds_toArray, List.set_cons_zero, List.set_cons_succ]
           clear hS0
           refine one_op 9 rfl (fun K1 hK => ?_)
           go_simp
           obtain ⟨b6, V1_9, hV, hb, M'⟩ := M.fresh 30 [.slice (some ⟨b2, o2, none⟩) c c2, .slice va s1 vc]
           rw [← hV, ← hb]
           clear M hV hb; have M := M'; clear M'
           refine hK _ _ ⟨(HC7.out _ M.below), ?_⟩
           clear hK K1
           refine one_op 10 rfl (fun K2 hK => ?_)
           go_simp
           refine (KC.out _ M.below (M.box 0 rfl)).mono ?_
           rintro e V2_10 ⟨vb, vd, rfl, hvb, rr⟩
           have M' := M.up rr
           clear M rr 
           have M := M'; clear M'
           refine hK _ _ ⟨(HC7.out _ M.below), ?_⟩
           clear hK K2
           have hS0 : (fun (W : World) => W.cell? ⟨B, 0, none⟩ = some (.slice (some ⟨g, 0, none⟩) n cap)) _ := (HC7.out _ M.below)
           refine wtk 11 (.pointer (some ⟨g, k, none⟩)) rfl (fun _ _ _ h => h) (Or.inl ⟨by rfl, fun W3 hS => by go_simp⟩) hS0 ?_
           try simp only [Act.put, List.setIfInBounds_toArray, List.set_cons_zero, List.set_cons_succ]
           clear hS0
           obtain ⟨_, _, _, -, -, -, q4, q5⟩ := (G7.out.below M.below).at hlt
           refine one_op 12 rfl (fun Ks hK => ?_)
           go_simp
           have hof := (G7.out.below M.below).off k (.slice vb N vd)
           refine hK _ _ ⟨((B7.out.under M.below).off hof (by decide)).cell 0 _ rfl, ?_⟩
           clear hK Ks q4 q5
           refine wdn ?_
           have R1x := Lib.hid ((B7.out.under M.below).off hof (by decide))
           have R2x := Lib.hid (by have := (G7.out.below M.below).put (k := k) hvb; rw [← HU.out] at this; exact this)
           have R3x := Lib.hid ((L7.out.below M.below).off hof (by decide))
           have R4x := Lib.hid ((T7.out.below M.below).grownQ (put_grown _ g k n cap (.slice vb N vd)) (G7.out.below M.below).q)
           have R5x := Lib.hid ((then_at HW.out hsr (then_below HB7.out M.below)).setCell (p := ⟨g, k, none⟩) G7.out.lt.1 (.slice vb N vd))
           clear M hvb hof KC HC7
           go_wp2_with fail
           go_roundg (n - (k + 1))
           case measure => omega
           case rel => exact ⟨k + 1, vs'.set k (.slice vb N vd), by omega, by omega, by first | rfl | simp, R1x, R2x, R3x, R4x, R5x⟩
    · as_aux_lemma =>
      obtain rfl : k = n := by omega
      have l0 : ¬ (k : Int) < (k : Int) := by omega
      obtain ⟨i0, hi, hz0, hz1, hz2⟩ := info_parts info_int
      have z1 : wr.cell? ⟨B, 1, none⟩ = some (.slice la m lc) := HB.out.cell 1 _ rfl
      have HI := Lib.hid hi
      have hld : ld.length ≤ 100000 := by have := HM.out; omega
      clear HN1 HST HR1 HS1 HV j1 j0 hi hn hcN hN h1 hmk hk hcapn
      go_wp2_with (at_builtin; go_loud (refine wpList_append_lead HI.out hz0 hz1 hz2 wr rfl _ _ rfl base c (.slice la m lc) ld rfl rfl HL.out hsr hld ?_); intro v' w3 hL3 hg3; have hAl := Lib.hid (show Below wr.heap.size wr (wr.alloc (.cells #[.int .i64 (c : Int)] 3)) from (Below.refl _ _).alloc (Nat.le_refl _) _); have hL0 := Lib.hid (HL.out.below hAl.out); have hoff := Lib.hid (Off.of_grown hL0.out.own hg3); have hB3 := Lib.hid ((HB.out.under hAl.out).off hoff.out (by decide)); have hG3 := Lib.hid ((HG.out.below hAl.out).lead hL0.out hg3); have y1 := hB3.out.cell 1 _ rfl; have y2 := hB3.out.fr 1; obtain ⟨va, vc, rfl⟩ := own_form hL3.own; have hL3 := Lib.hid hL3; have hg3 := Lib.hid hg3)
      go_end0
      rw [show ld.length + 1 = (ld ++ [c]).length by simp]
      refine ⟨rfl, .slice va (ld ++ [c]).length vc, hB3.out.set 1 _, ⟨vs', ?_⟩, hL3.out.off (Off.put hB3.out 1 _) (by decide), ?_⟩
      · rw [HT.out]
        exact hG3.out.box hB3.out (by decide)
      · have h3 : Below base w w3 := (HW.out.alloc hsr (.cells #[.int .i64 (c : Int)] 3)).grown hg3.out (by simp; omega) (fun j ej => (hL0.out.lt ej).1)
        exact h3.setCell (p := ⟨B, 1, none⟩) hbB _
end
end Go.Proofs.YtgmbaamfobhceaaGreat
