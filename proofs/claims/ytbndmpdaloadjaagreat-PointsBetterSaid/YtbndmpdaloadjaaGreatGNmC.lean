/- Models: lists of vars and of rows copied. -/
import Derived.Test.YtbndmpdaloadjaaGreatGNmE
import Derived.Test.YtbndmpdaloadjaaGreatGNtT
import Derived.Deep.AppendLies
set_option linter.unusedSimpArgs false
set_option linter.unusedVariables false
namespace Go.Proofs.YtbndmpdaloadjaaGreat
open Go Go.Proofs Go.RowKit Go.Shelf Nu
set_option linter.unusedVariables false
set_option linter.unusedSimpArgs false
set_option maxRecDepth 100000

attribute [local go_sem] Oper.semAt_some

theorem tel_snoc {α : Type} {P : List Value → α → Prop} {l : List α} {css : List (List Value)} {k : Nat} {x : α} {cs : List Value} (hlen : css.length = k) (h : ∀ (j : Nat) (x : α) (cs : List Value), l[j]? = some x → css[j]? = some cs → P cs x) (hx : l[k]? = some x) (hp : P cs x) (j : Nat) (y : α) (ds : List Value) (h1 : l[j]? = some y) (h2 : (css ++ [cs])[j]? = some ds) : P ds y := by
  by_cases hj : j < css.length
  · rw [List.getElem?_append_left hj] at h2
    exact h j y ds h1 h2
  · rw [List.getElem?_append_right (by omega)] at h2
    have hj0 : j - css.length = 0 := by
      have := (List.getElem?_eq_some_iff.1 h2).1
      simp at this; omega
    rw [hj0] at h2
    simp at h2
    obtain rfl : j = k := by omega
    rw [hx] at h1
    cases h1; cases h2
    exact hp

def markVar : List Value := [.string ⟨#[115, 112, 97, 114, 101]⟩, .bool false, .bool false, .bool false, .slice none 0 0, .slice none 0 0, .bool false, .bool false, .slice none 0 0, .slice none 0 0]
theorem info_Var : (Tryz.prog.info? 77).map (fun i => (i.zero, i.size, i.bytes)) = some (some (.agg #[.string ⟨#[]⟩, .bool false, .bool false, .bool false, .slice none 0 0, .slice none 0 0, .bool false, .bool false, .slice none 0 0, .slice none 0 0]), 10, 144) := by kernel_rfl
abbrev TwVars (W : World) (B g c : Nat) (l : List Vr) : Prop := TwL 10 77 TVar markVar W B g c l
set_option maxHeartbeats 16000000 in
theorem twinVars_any {w : World} {v : Value} {l : List Vr} (h : VarsR w v l) (hl : l.length ≤ 1000) (hb : ∀ x ∈ l, Vr.Mod x) :
    Calls Tryz.prog 25 #[v] w fun e w' => ∃ g c, e = .returned (.slice (some ⟨g, 0, none⟩) l.length c) ∧ TwVars w' w.heap.size g c l ∧ Below w.heap.size w w' := by
  obtain ⟨i0, hi, hz0, hz1, hz2⟩ := info_parts info_Var
  obtain ⟨a, cap, rfl, hcap⟩ := h.form
  obtain ⟨-, -, hA⟩ := h.addr
  obtain ⟨n, hn⟩ : ∃ n, n = l.length := ⟨_, rfl⟩
  obtain ⟨N, hN⟩ : ∃ N, N = n + 1 := ⟨_, rfl⟩
  have w1 : IntKind.i64.wrap ((n : Int) + 1) = (N : Int) := by rw [hN]; exact IntWalk.i64_in _ (by omega)
  rw [← hn]
  rw [← hn] at hA
  have HN := Lib.hid (show n = l.length ∧ N = n + 1 ∧ n ≤ 1000 from ⟨hn, hN, by omega⟩)
  have HA := Lib.hid hA
  have HS := Lib.hid hb
  have HI := Lib.hid hi
  have HZ := Lib.hid hz0
  have HZ1 := Lib.hid hz1
  have HZ2 := Lib.hid hz2
  have hn1 : n ≤ 1000 := by omega
  have hN1 : N ≤ 1001 := by omega
  clear h hn hN hA hcap hb hl hi hz0 hz1 hz2
  go_enter Tryz.func25, Tryz.ntmps25
  go_wp2_with (at_make; go_loud (refine wpList_make_own _ rfl _ _ 22 rfl w.heap.size 77 i0 (.agg #[.string ⟨#[]⟩, .bool false, .bool false, .bool false, .slice none 0 0, .slice none 0 0, .bool false, .bool false, .slice none 0 0, .slice none 0 0]) 10 Tryz.underlying22 HI.out HZ.out HZ1.out .i64 .i64 _ N rfl rfl (by omega) (by rw [HZ2.out]; omega) (by unfold maxLen; omega) (Nat.le_refl _) ?_); intro w1 qo qg; have O1 := Lib.hid qo; have G1 := Lib.hid qg; clear qo qg)
  have HB0 := Lib.hid (show Below w.heap.size w w1 from (Below.refl _ _).grown G1.out (Nat.le_refl _) (fun k e => by cases e))
  obtain ⟨g0, hg0⟩ : ∃ g, g = w.heap.size := ⟨_, rfl⟩
  have HO := Lib.hid (show w1.ownsRow w.heap.size 77 10 (.slice (some ⟨g0, 0, none⟩) 0 N) 0 (([] : List (List Value)).flatten) by rw [hg0]; exact O1.out)
  simp only [← hg0]
  clear hg0 O1 G1
  have k0 : ((0 : Nat) : Int) = 0 := rfl
  go_loopg [3, 4] n (fun g t x wr => ∃ (k : Nat) (css : List (List Value)) (av : Option Addr) (cv : Nat), k + g = n ∧ t = .slice av k cv ∧ x = .int .i64 (k : Int) ∧ Hid (css.length = k ∧ ∀ cs ∈ css, cs.length = 10) ∧ Hid (wr.ownsRow w.heap.size 77 10 (.slice av k cv) k css.flatten) ∧ Hid (∀ (j : Nat) (x : Vr) (cs : List Value), l[j]? = some x → css[j]? = some cs → TVar wr w.heap.size cs x) ∧ Hid (Below w.heap.size w wr))
  case atStart => exact ⟨0, [], _, N, by omega, rfl, rfl, Lib.hid ⟨rfl, fun cs hc => by cases hc⟩, HO, Lib.hid (fun j x cs _ hc => by simp at hc), HB0⟩
  case round =>
    clear HO HB0 k0
    obtain ⟨k, css, av, cv, hk, rfl, rfl, HM, HO, HZZ, HB⟩ := hrel
    have hwb : w.heap.size ≤ wr.heap.size := HB.out.size
    obtain ⟨xs, hxs⟩ : ∃ xs, xs = css.flatten := ⟨_, rfl⟩
    have HXS := Lib.hid hxs
    rw [← hxs] at HO
    clear hxs
    by_cases hlt : k < n
    · have n0 : (0 : Int) ≤ (k : Int) := by omega
      have l0 : (k : Int) < (n : Int) := by omega
      have w0 : IntKind.i64.wrap ((k : Int) + 1) = ((k + 1 : Nat) : Int) := IntWalk.i64_in _ (by omega)
      obtain ⟨bb, off, rfl, hbl, hc⟩ := HA.out (by omega)
      obtain ⟨x, hx⟩ : ∃ x, l[k]? = some x := ⟨_, List.getElem?_eq_getElem (by have := HN.out; omega)⟩
      obtain ⟨v0, v1, v2, ⟨p1, e1, p2, e2, v3, v4, v5, r1, r2⟩, v6, p3, e3, p4, e4, v7, v8, v9, r3, r4⟩ := (hc k x hx).below hbl HB.out
      have u0 : wr.cell? ⟨bb, off + k * 10, none⟩ = some (.string x.name) := v0
      have u1 : wr.cell? ⟨bb, off + k * 10 + 1, none⟩ = some (.bool x.whole) := v1
      have u2 : wr.cell? ⟨bb, off + k * 10 + 2, none⟩ = some (.bool x.hasLow) := v2
      have u3 : wr.cell? ⟨bb, off + k * 10 + 3, none⟩ = some (.bool x.low.1) := v3
      have u4 : wr.cell? ⟨bb, off + k * 10 + 4, none⟩ = some (.slice p1 x.low.2.1.length e1) := v4
      have u5 : wr.cell? ⟨bb, off + k * 10 + 5, none⟩ = some (.slice p2 x.low.2.2.length e2) := v5
      have u6 : wr.cell? ⟨bb, off + k * 10 + 6, none⟩ = some (.bool x.hasHigh) := v6
      have u7 : wr.cell? ⟨bb, off + k * 10 + 7, none⟩ = some (.bool x.high.1) := v7
      have u8 : wr.cell? ⟨bb, off + k * 10 + 8, none⟩ = some (.slice p3 x.high.2.1.length e3) := v8
      have u9 : wr.cell? ⟨bb, off + k * 10 + 9, none⟩ = some (.slice p4 x.high.2.2.length e4) := v9
      clear v0 v1 v2 v3 v4 v5 v6 v7 v8 v9
      have hsz := HS.out x (List.mem_of_getElem? hx)
      have kc := Lib.hid (fun (W : World) (r : Below wr.heap.size wr W) => twinVar_any (r1.below r) (r2.below r) (r3.below r) (r4.below r) hsz)
      have HX := Lib.hid hx
      clear hc hx hsz HA HS r1 r2 r3 r4
      go_wp2_with fail
      refine (kc.out _ (Below.refl _ _)).mono ?_
      rintro e w2 ⟨cs, rfl, T, rb⟩
      have HB2 := Lib.hid (then_below HB.out rb)
      have HO2 := Lib.hid (own_below HO.out rb)
      have HZ2' := Lib.hid (show ∀ (j : Nat) (x : Vr) (cs : List Value), l[j]? = some x → css[j]? = some cs → TVar w2 w.heap.size cs x from fun j y ds h1 h2 => (HZZ.out j y ds h1 h2).below rb)
      have HT2 := Lib.hid (T.mono hwb)
      clear rb kc HB HO HZZ u0 u1 u2 u3 u4 u5 u6 u7 u8 u9
      obtain ⟨g1, c1, g2, c2, g3, c3, g4, c4, rfl, t1, t2, t3, t4⟩ := T
      clear t1 t2 t3 t4
      have hs2 : w.heap.size ≤ w2.heap.size := HB2.out.size
      go_wp2_with (at_builtin; go_loud (refine wpList_append_own _ rfl _ _ 22 rfl w.heap.size 77 i0 (.agg #[.string ⟨#[]⟩, .bool false, .bool false, .bool false, .slice none 0 0, .slice none 0 0, .bool false, .bool false, .slice none 0 0, .slice none 0 0]) 10 144 Tryz.underlying22 HI.out HZ.out HZ1.out HZ2.out rfl (by decide) _ k xs rfl (World.ownsRow.alloc HO2.out _) ⟨w2.heap.size, 0, none⟩ 1 1 [.string x.name, .bool x.whole, .bool x.hasLow, .bool x.low.1, .slice (some ⟨g1, 0, none⟩) x.low.2.1.length c1, .slice (some ⟨g2, 0, none⟩) x.low.2.2.length c2, .bool x.hasHigh, .bool x.high.1, .slice (some ⟨g3, 0, none⟩) x.high.2.1.length c3, .slice (some ⟨g4, 0, none⟩) x.high.2.2.length c4] rfl rfl (World.news_of_block (cs := #[.string x.name, .bool x.whole, .bool x.hasLow, .bool x.low.1, .slice (some ⟨g1, 0, none⟩) x.low.2.1.length c1, .slice (some ⟨g2, 0, none⟩) x.low.2.2.length c2, .bool x.hasHigh, .bool x.high.1, .slice (some ⟨g3, 0, none⟩) x.high.2.1.length c3, .slice (some ⟨g4, 0, none⟩) x.high.2.2.length c4]) (t := 77) (fr := (0, 0)) (heap_alloc_new w2 _)) (by simp [Value.oneCell']) (small_max (by omega)) (by omega) (by simp; omega) ?_); intro v' w6 hown6 hg6 hnn; clear hnn; obtain ⟨g6, c6, rfl, hk6, hk7⟩ := own_slice hown6 rfl; have hof : Off 77 w2 w6 := (Off.alloc w2 _).trans (Off.of_grown (World.ownsRow.alloc HO2.out _) hg6); have HV3 := Lib.hid hown6; have HB3 := Lib.hid ((HB2.out.alloc hs2 _).grown hg6 (Nat.le_trans hs2 (by simp)) (fun g e => (World.ownsRow.lt HO2.out g e).1)); have HZ3 := Lib.hid (tel_snoc (P := fun cs x => TVar w6 w.heap.size cs x) HM.out.1 (fun j y ds h1 h2 => (HZ2'.out j y ds h1 h2).off hof (by decide)) HX.out (HT2.out.off hof (by decide))); clear hown6 hg6 hof)
      go_roundg (n - (k + 1))
      case measure => omega
      case rel => exact ⟨k + 1, css ++ [[.string x.name, .bool x.whole, .bool x.hasLow, .bool x.low.1, .slice (some ⟨g1, 0, none⟩) x.low.2.1.length c1, .slice (some ⟨g2, 0, none⟩) x.low.2.2.length c2, .bool x.hasHigh, .bool x.high.1, .slice (some ⟨g3, 0, none⟩) x.high.2.1.length c3, .slice (some ⟨g4, 0, none⟩) x.high.2.2.length c4]], some ⟨g6, 0, none⟩, c6, by omega, by first | rfl | simp, by first | rfl | simp, Lib.hid ⟨by rw [List.length_append, HM.out.1]; rfl, fun ds hd => by (rcases List.mem_append.1 hd with hd | hd; exact HM.out.2 ds hd; obtain rfl := List.mem_singleton.1 hd; rfl)⟩, Lib.hid (by rw [List.flatten_append, List.flatten_singleton, ← HXS.out]; exact HV3.out), HZ3, HB3⟩
    · obtain rfl : k = n := by omega
      have l0 : ¬ (k : Int) < (k : Int) := by omega
      have n0 : (0 : Int) ≤ (k : Int) := by omega
      clear HA HS
      go_wp2_with (at_builtin; go_loud (refine wpList_append_own _ rfl _ _ 22 rfl w.heap.size 77 i0 (.agg #[.string ⟨#[]⟩, .bool false, .bool false, .bool false, .slice none 0 0, .slice none 0 0, .bool false, .bool false, .slice none 0 0, .slice none 0 0]) 10 144 Tryz.underlying22 HI.out HZ.out HZ1.out HZ2.out rfl (by decide) _ k xs rfl (World.ownsRow.alloc HO.out _) ⟨wr.heap.size, 0, none⟩ 1 1 [.string ⟨#[115, 112, 97, 114, 101]⟩, .bool false, .bool false, .bool false, .slice none 0 0, .slice none 0 0, .bool false, .bool false, .slice none 0 0, .slice none 0 0] rfl rfl (World.news_of_block (cs := #[.string ⟨#[115, 112, 97, 114, 101]⟩, .bool false, .bool false, .bool false, .slice none 0 0, .slice none 0 0, .bool false, .bool false, .slice none 0 0, .slice none 0 0]) (t := 77) (fr := (0, 0)) (heap_alloc_new wr _)) (by simp [Value.oneCell']) (small_max (by omega)) (by omega) (by simp; omega) ?_); intro v' w6 hown6 hg6 hnn; clear hnn; obtain ⟨g6, c6, rfl, hk6, hk7⟩ := own_slice hown6 rfl; have HV3 := Lib.hid hown6; have HG6 := Lib.hid hg6; clear hown6 hg6)
      go_ret
      have hof : Off 77 wr w6 := (Off.alloc wr _).trans (Off.of_grown (World.ownsRow.alloc HO.out _) HG6.out)
      refine ⟨g6, c6, rfl, ⟨css, by rw [HM.out.1, HN.out.1], HM.out.2, ?_, fun j y ds h1 h2 => (HZZ.out j y ds h1 h2).off hof (by decide)⟩, (HB.out.alloc hwb _).grown HG6.out (Nat.le_trans hwb (by simp)) (fun g e => (World.ownsRow.lt HO.out g e).1)⟩
      rw [List.flatten_append, List.flatten_singleton, ← HXS.out, ← HN.out.1]
      exact HV3.out

def markRow : List Value := [.slice none 0 0, .int .u8 77, .bool false, .slice none 0 0, .slice none 0 0]
theorem info_Row : (Tryz.prog.info? 81).map (fun i => (i.zero, i.size, i.bytes)) = some (some (.agg #[.slice none 0 0, .int .u8 0, .bool false, .slice none 0 0, .slice none 0 0]), 5, 88) := by kernel_rfl
abbrev TwRows (W : World) (B g c : Nat) (l : List Rw) : Prop := TwL 5 81 TRow markRow W B g c l
set_option maxHeartbeats 16000000 in
theorem twinRows_any {w : World} {v : Value} {l : List Rw} (h : RowsR w v l) (hl : l.length ≤ 1000) (hb : ∀ x ∈ l, Rw.Mod x) :
    Calls Tryz.prog 26 #[v] w fun e w' => ∃ g c, e = .returned (.slice (some ⟨g, 0, none⟩) l.length c) ∧ TwRows w' w.heap.size g c l ∧ Below w.heap.size w w' := by
  obtain ⟨i0, hi, hz0, hz1, hz2⟩ := info_parts info_Row
  obtain ⟨a, cap, rfl, hcap⟩ := h.form
  obtain ⟨-, -, hA⟩ := h.addr
  obtain ⟨n, hn⟩ : ∃ n, n = l.length := ⟨_, rfl⟩
  obtain ⟨N, hN⟩ : ∃ N, N = n + 1 := ⟨_, rfl⟩
  have w1 : IntKind.i64.wrap ((n : Int) + 1) = (N : Int) := by rw [hN]; exact IntWalk.i64_in _ (by omega)
  rw [← hn]
  rw [← hn] at hA
  have HN := Lib.hid (show n = l.length ∧ N = n + 1 ∧ n ≤ 1000 from ⟨hn, hN, by omega⟩)
  have HA := Lib.hid hA
  have HS := Lib.hid hb
  have HI := Lib.hid hi
  have HZ := Lib.hid hz0
  have HZ1 := Lib.hid hz1
  have HZ2 := Lib.hid hz2
  have hn1 : n ≤ 1000 := by omega
  have hN1 : N ≤ 1001 := by omega
  clear h hn hN hA hcap hb hl hi hz0 hz1 hz2
  go_enter Tryz.func26, Tryz.ntmps26
  go_wp2_with (at_make; go_loud (refine wpList_make_own _ rfl _ _ 24 rfl w.heap.size 81 i0 (.agg #[.slice none 0 0, .int .u8 0, .bool false, .slice none 0 0, .slice none 0 0]) 5 Tryz.underlying24 HI.out HZ.out HZ1.out .i64 .i64 _ N rfl rfl (by omega) (by rw [HZ2.out]; omega) (by unfold maxLen; omega) (Nat.le_refl _) ?_); intro w1 qo qg; have O1 := Lib.hid qo; have G1 := Lib.hid qg; clear qo qg)
  have HB0 := Lib.hid (show Below w.heap.size w w1 from (Below.refl _ _).grown G1.out (Nat.le_refl _) (fun k e => by cases e))
  obtain ⟨g0, hg0⟩ : ∃ g, g = w.heap.size := ⟨_, rfl⟩
  have HO := Lib.hid (show w1.ownsRow w.heap.size 81 5 (.slice (some ⟨g0, 0, none⟩) 0 N) 0 (([] : List (List Value)).flatten) by rw [hg0]; exact O1.out)
  simp only [← hg0]
  clear hg0 O1 G1
  have k0 : ((0 : Nat) : Int) = 0 := rfl
  go_loopg [3, 4] n (fun g t x wr => ∃ (k : Nat) (css : List (List Value)) (av : Option Addr) (cv : Nat), k + g = n ∧ t = .slice av k cv ∧ x = .int .i64 (k : Int) ∧ Hid (css.length = k ∧ ∀ cs ∈ css, cs.length = 5) ∧ Hid (wr.ownsRow w.heap.size 81 5 (.slice av k cv) k css.flatten) ∧ Hid (∀ (j : Nat) (x : Rw) (cs : List Value), l[j]? = some x → css[j]? = some cs → TRow wr w.heap.size cs x) ∧ Hid (Below w.heap.size w wr))
  case atStart => exact ⟨0, [], _, N, by omega, rfl, rfl, Lib.hid ⟨rfl, fun cs hc => by cases hc⟩, HO, Lib.hid (fun j x cs _ hc => by simp at hc), HB0⟩
  case round =>
    clear HO HB0 k0
    obtain ⟨k, css, av, cv, hk, rfl, rfl, HM, HO, HZZ, HB⟩ := hrel
    have hwb : w.heap.size ≤ wr.heap.size := HB.out.size
    obtain ⟨xs, hxs⟩ : ∃ xs, xs = css.flatten := ⟨_, rfl⟩
    have HXS := Lib.hid hxs
    rw [← hxs] at HO
    clear hxs
    by_cases hlt : k < n
    · have n0 : (0 : Int) ≤ (k : Int) := by omega
      have l0 : (k : Int) < (n : Int) := by omega
      have w0 : IntKind.i64.wrap ((k : Int) + 1) = ((k + 1 : Nat) : Int) := IntWalk.i64_in _ (by omega)
      obtain ⟨bb, off, rfl, hbl, hc⟩ := HA.out (by omega)
      obtain ⟨x, hx⟩ : ∃ x, l[k]? = some x := ⟨_, List.getElem?_eq_getElem (by have := HN.out; omega)⟩
      obtain ⟨⟨cv, v0, r0⟩, v1, p1, e1, p2, e2, v2, v3, v4, r1, r2⟩ := (hc k x hx).below hbl HB.out
      obtain ⟨p0, e0, rfl⟩ := r0.form
      have u0 : wr.cell? ⟨bb, off + k * 5, none⟩ = some (.slice p0 x.coef.length e0) := v0
      have u1 : wr.cell? ⟨bb, off + k * 5 + 1, none⟩ = some (.int .u8 x.kind) := v1
      have u2 : wr.cell? ⟨bb, off + k * 5 + 2, none⟩ = some (.bool x.right.1) := v2
      have u3 : wr.cell? ⟨bb, off + k * 5 + 3, none⟩ = some (.slice p1 x.right.2.1.length e1) := v3
      have u4 : wr.cell? ⟨bb, off + k * 5 + 4, none⟩ = some (.slice p2 x.right.2.2.length e2) := v4
      clear v0 v1 v2 v3 v4
      have hsz := HS.out x (List.mem_of_getElem? hx)
      have kc := Lib.hid (fun (W : World) (r : Below wr.heap.size wr W) => twinRow_any (r0.below r) (r1.below r) (r2.below r) hsz)
      have HX := Lib.hid hx
      clear hc hx hsz HA HS r0 r1 r2
      go_wp2_with fail
      refine (kc.out _ (Below.refl _ _)).mono ?_
      rintro e w2 ⟨cs, rfl, T, rb⟩
      have HB2 := Lib.hid (then_below HB.out rb)
      have HO2 := Lib.hid (own_below HO.out rb)
      have HZ2' := Lib.hid (show ∀ (j : Nat) (x : Rw) (cs : List Value), l[j]? = some x → css[j]? = some cs → TRow w2 w.heap.size cs x from fun j y ds h1 h2 => (HZZ.out j y ds h1 h2).below rb)
      have HT2 := Lib.hid (T.mono hwb)
      clear rb kc HB HO HZZ u0 u1 u2 u3 u4
      obtain ⟨g0, c0, g1, c1, g2, c2, rfl, t0, t1, t2⟩ := T
      clear t0 t1 t2
      have hs2 : w.heap.size ≤ w2.heap.size := HB2.out.size
      go_wp2_with (at_builtin; go_loud (refine wpList_append_own _ rfl _ _ 24 rfl w.heap.size 81 i0 (.agg #[.slice none 0 0, .int .u8 0, .bool false, .slice none 0 0, .slice none 0 0]) 5 88 Tryz.underlying24 HI.out HZ.out HZ1.out HZ2.out rfl (by decide) _ k xs rfl (World.ownsRow.alloc HO2.out _) ⟨w2.heap.size, 0, none⟩ 1 1 [.slice (some ⟨g0, 0, none⟩) x.coef.length c0, .int .u8 x.kind, .bool x.right.1, .slice (some ⟨g1, 0, none⟩) x.right.2.1.length c1, .slice (some ⟨g2, 0, none⟩) x.right.2.2.length c2] rfl rfl (World.news_of_block (cs := #[.slice (some ⟨g0, 0, none⟩) x.coef.length c0, .int .u8 x.kind, .bool x.right.1, .slice (some ⟨g1, 0, none⟩) x.right.2.1.length c1, .slice (some ⟨g2, 0, none⟩) x.right.2.2.length c2]) (t := 81) (fr := (0, 0)) (heap_alloc_new w2 _)) (by simp [Value.oneCell']) (small_max (by omega)) (by omega) (by simp; omega) ?_); intro v' w6 hown6 hg6 hnn; clear hnn; obtain ⟨g6, c6, rfl, hk6, hk7⟩ := own_slice hown6 rfl; have hof : Off 81 w2 w6 := (Off.alloc w2 _).trans (Off.of_grown (World.ownsRow.alloc HO2.out _) hg6); have HV3 := Lib.hid hown6; have HB3 := Lib.hid ((HB2.out.alloc hs2 _).grown hg6 (Nat.le_trans hs2 (by simp)) (fun g e => (World.ownsRow.lt HO2.out g e).1)); have HZ3 := Lib.hid (tel_snoc (P := fun cs x => TRow w6 w.heap.size cs x) HM.out.1 (fun j y ds h1 h2 => (HZ2'.out j y ds h1 h2).off hof (by decide)) HX.out (HT2.out.off hof (by decide))); clear hown6 hg6 hof)
      go_roundg (n - (k + 1))
      case measure => omega
      case rel => exact ⟨k + 1, css ++ [[.slice (some ⟨g0, 0, none⟩) x.coef.length c0, .int .u8 x.kind, .bool x.right.1, .slice (some ⟨g1, 0, none⟩) x.right.2.1.length c1, .slice (some ⟨g2, 0, none⟩) x.right.2.2.length c2]], some ⟨g6, 0, none⟩, c6, by omega, by first | rfl | simp, by first | rfl | simp, Lib.hid ⟨by rw [List.length_append, HM.out.1]; rfl, fun ds hd => by (rcases List.mem_append.1 hd with hd | hd; exact HM.out.2 ds hd; obtain rfl := List.mem_singleton.1 hd; rfl)⟩, Lib.hid (by rw [List.flatten_append, List.flatten_singleton, ← HXS.out]; exact HV3.out), HZ3, HB3⟩
    · obtain rfl : k = n := by omega
      have l0 : ¬ (k : Int) < (k : Int) := by omega
      have n0 : (0 : Int) ≤ (k : Int) := by omega
      clear HA HS
      go_wp2_with (at_builtin; go_loud (refine wpList_append_own _ rfl _ _ 24 rfl w.heap.size 81 i0 (.agg #[.slice none 0 0, .int .u8 0, .bool false, .slice none 0 0, .slice none 0 0]) 5 88 Tryz.underlying24 HI.out HZ.out HZ1.out HZ2.out rfl (by decide) _ k xs rfl (World.ownsRow.alloc HO.out _) ⟨wr.heap.size, 0, none⟩ 1 1 [.slice none 0 0, .int .u8 77, .bool false, .slice none 0 0, .slice none 0 0] rfl rfl (World.news_of_block (cs := #[.slice none 0 0, .int .u8 77, .bool false, .slice none 0 0, .slice none 0 0]) (t := 81) (fr := (0, 0)) (heap_alloc_new wr _)) (by simp [Value.oneCell']) (small_max (by omega)) (by omega) (by simp; omega) ?_); intro v' w6 hown6 hg6 hnn; clear hnn; obtain ⟨g6, c6, rfl, hk6, hk7⟩ := own_slice hown6 rfl; have HV3 := Lib.hid hown6; have HG6 := Lib.hid hg6; clear hown6 hg6)
      go_ret
      have hof : Off 81 wr w6 := (Off.alloc wr _).trans (Off.of_grown (World.ownsRow.alloc HO.out _) HG6.out)
      refine ⟨g6, c6, rfl, ⟨css, by rw [HM.out.1, HN.out.1], HM.out.2, ?_, fun j y ds h1 h2 => (HZZ.out j y ds h1 h2).off hof (by decide)⟩, (HB.out.alloc hwb _).grown HG6.out (Nat.le_trans hwb (by simp)) (fun g e => (World.ownsRow.lt HO.out g e).1)⟩
      rw [List.flatten_append, List.flatten_singleton, ← HXS.out, ← HN.out.1]
      exact HV3.out
end Go.Proofs.YtbndmpdaloadjaaGreat
