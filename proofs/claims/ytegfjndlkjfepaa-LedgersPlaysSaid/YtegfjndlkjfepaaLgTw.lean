/- Ledgers: the law package's twin of tenants, and whether it is left. -/
import Derived.Test.YtegfjndlkjfepaaLgRt
import Derived.Laws.AppendOwn
import Derived.Deep.AppendLies
import Derived.MakeChecks
import Derived.Laws.MakeOwn
import Derived.OwnWalk
namespace Go.Proofs.Ytegfjndlkjfepaa
open Go Go.Proofs Go.RowKit Go.Shelf
set_option linter.unusedVariables false
set_option linter.unusedSimpArgs false
set_option maxRecDepth 100000

attribute [local go_sem] Oper.semAt_some
def spareT : Ten := ⟨⟨#[115, 112, 97, 114, 101]⟩, ⟨#[]⟩, 0⟩
theorem tflat_append (a b : List Ten) : tflat (a ++ b) = tflat a ++ tflat b := by unfold tflat; rw [List.flatMap_append]
theorem tflat_one (t : Ten) : tflat [t] = tcells t := by unfold tflat; simp
theorem lform3 {W : World} {base e size n : Nat} {v : Value} {xs : List Value} (h : W.ownsRow base e size v n xs) : ∃ a c, v = .slice a n c := by
  obtain ⟨a, c, e, _, _⟩ := own_rdc h
  exact ⟨a, c, e⟩
theorem lrow3 {W : World} {base e size n : Nat} {v : Value} {xs : List Value} (h : W.ownsRow base e size v (n + 1) xs) : ∃ g c, v = .slice (some ⟨g, 0, none⟩) (n + 1) c ∧ (n : Int) ≤ (c : Int) ∧ n + 1 ≤ c := by
  obtain ⟨a, c, rfl⟩ := lform3 h
  rcases own_form h with ⟨_, h0, _⟩ | ⟨g, rfl, h1, h2, h3⟩
  · omega
  · exact ⟨g, c, rfl, by omega, h3⟩
/-- a list's twin: its tenants, and a spare one behind -/
def TwinT (W : World) (B g c : Nat) (ts : List Ten) : Prop := W.ownsRow B 32 3 (.slice (some ⟨g, 0, none⟩) (ts.length + 1) c) (ts.length + 1) (tflat (ts ++ [spareT]))
section
variable {W W' : World} {B g c : Nat} {ts : List Ten}
theorem TwinT.at (h : TwinT W B g c ts) {j : Nat} {t : Ten} (ht : (ts ++ [spareT])[j]? = some t) : TenAt W g (j * 3) t := by
  have hj := (List.getElem?_eq_some_iff.1 ht).1
  simp only [List.length_append, List.length_cons, List.length_nil] at hj
  have key : ∀ i, i < 3 → W.cell? ⟨g, j * 3 + i, none⟩ = (tcells t)[i]? := fun i hi => by
    rw [World.ownsRow.cellAt h (j * 3 + i) (by omega), tflat_get _ j t ht i hi]
  exact ⟨key 0 (by omega), key 1 (by omega), key 2 (by omega)⟩
theorem TwinT.cap (h : TwinT W B g c ts) : ts.length + 1 ≤ c ∧ B ≤ g ∧ g < W.heap.size := by
  rcases own_form h with ⟨e, _⟩ | ⟨g', e, h1, h2, h3⟩
  · cases e
  · cases e
    exact ⟨h3, h1, h2⟩
theorem TwinT.tens (h : TwinT W B g c ts) (hok : ∀ t ∈ ts, t.ok) : Tens W (.slice (some ⟨g, 0, none⟩) ts.length c) ts :=
  ⟨_, c, rfl, by have := h.cap; omega, fun _ => ⟨g, 0, rfl, h.cap.2.2, fun j t ht => by
    have h1 := (List.getElem?_eq_some_iff.1 ht).1
    rw [Nat.zero_add]
    exact ⟨h.at (by rw [List.getElem?_append_left h1]; exact ht), hok t (List.mem_of_getElem? ht)⟩⟩⟩
theorem TwinT.below (h : TwinT W B g c ts) (hb : Below W.heap.size W W') : TwinT W' B g c ts := by
  obtain ⟨h1, h2⟩ := h
  refine ⟨h1, ?_⟩
  rcases h2 with h2 | ⟨g', cap, cur, e, hB, hg, hr⟩
  · exact .inl h2
  · exact .inr ⟨g', cap, cur, e, hB, (hb.block g' (Array.getElem?_eq_some_iff.1 hg).1).trans hg, hr⟩
theorem TwinT.row (h : TwinT W B g c ts) : ∃ cur : Array Value, W.heap[g]? = some (.cells cur 32 (0, 0)) ∧ (ts.length + 1) * 3 ≤ cur.size := by
  rcases h.2 with ⟨e, _⟩ | ⟨g', cap, cur, e, hB, hg, hn, hm, hs, _⟩
  · cases e
  · cases e
    exact ⟨cur, hg, by rw [hs]; exact Nat.mul_le_mul_right 3 hn⟩
end
set_option maxHeartbeats 8000000 in
theorem twinT_any (ts : List Ten) (v : Value) (w : World) (hl : ts.length ≤ 1000) (hT : Tens w v ts) :
    Calls Try.prog 19 #[v] w fun e w' => ∃ g c, e = .returned (.slice (some ⟨g, 0, none⟩) ts.length c) ∧ TwinT w' w.heap.size g c ts ∧ Below w.heap.size w w' := by
  obtain ⟨i0, hi0, hz0, hz1, hz2⟩ := q_info info_ten
  obtain ⟨a, cap, rfl, hcap⟩ : ∃ a c, v = .slice a ts.length c ∧ True := by obtain ⟨a, c, e, _⟩ := hT; exact ⟨a, c, e, trivial⟩
  obtain ⟨n, hn⟩ : ∃ n, n = ts.length := ⟨_, rfl⟩
  obtain ⟨q, hq⟩ : ∃ q, q = n + 1 := ⟨_, rfl⟩
  have w1 : IntKind.i64.wrap ((n : Int) + 1) = (q : Int) := by rw [hq]; exact IntWalk.i64_in _ (by omega)
  have HR := Lib.hid (show Tens w (.slice a n cap) ts by rw [hn]; exact hT)
  have HN := Lib.hid (show n = ts.length ∧ q = n + 1 ∧ n ≤ 1000 from ⟨hn, hq, by omega⟩)
  have HI := Lib.hid hi0
  have HZ := Lib.hid hz0
  have HZ1 := Lib.hid hz1
  have HZ2 := Lib.hid hz2
  have q0 : (0 : Int) ≤ (q : Int) := by omega
  rw [← hn]
  clear hi0 hz0 hz1 hz2 hT hcap hl hn hq
  go_enter Try.func19, Try.ntmps19
  go_wp2_with (at_make; go_loud (refine wpList_make_own _ rfl _ _ 22 rfl w.heap.size 32 i0 (.agg #[.string ⟨#[]⟩, .string ⟨#[]⟩, .int .i64 0]) 3 Try.underlying22 HI.out HZ.out HZ1.out .i64 .i64 _ q rfl rfl (by have := HN.out; omega) (by rw [HZ2.out]; have := HN.out; omega) (by unfold maxLen; have := HN.out; omega) (Nat.le_refl _) ?_); intro w1 qo qg; have O1 := Lib.hid qo; have G1 := Lib.hid qg; clear qo qg)
  have HB := Lib.hid (show Below w.heap.size w w1 from (Below.refl _ _).grown G1.out (Nat.le_refl _) (fun k e => by cases e))
  obtain ⟨g0, hg0⟩ : ∃ g, g = w.heap.size := ⟨_, rfl⟩
  have HO := Lib.hid (show w1.ownsRow w.heap.size 32 3 (.slice (some ⟨g0, 0, none⟩) 0 q) 0 (tflat (ts.take 0)) by rw [hg0]; exact O1.out)
  simp only [← hg0]
  clear hg0 O1 G1 q0
  have k0 : ((0 : Nat) : Int) = 0 := rfl
  go_loopg [3, 4] n (fun g t x wr => ∃ (k : Nat) (av : Option Addr) (cv : Nat), k + g = n ∧ t = .slice av k cv ∧ x = .int .i64 (k : Int) ∧ Hid (wr.ownsRow w.heap.size 32 3 (.slice av k cv) k (tflat (ts.take k))) ∧ Hid (Below w.heap.size w wr))
  case atStart => exact ⟨0, _, q, by omega, rfl, rfl, HO, HB⟩
  case round =>
    clear HO HB k0
    obtain ⟨k, av, cv, hk, rfl, rfl, HO, HW⟩ := hrel
    have hwb : w.heap.size ≤ wr.heap.size := HW.out.size
    have hn1000 : n ≤ 1000 := HN.out.2.2
    by_cases hlt : k < n
    · have n0 : (0 : Int) ≤ (k : Int) := by omega
      have l0 : (k : Int) < (n : Int) := by omega
      have w0 : IntKind.i64.wrap ((k : Int) + 1) = ((k + 1 : Nat) : Int) := IntWalk.i64_in _ (by omega)
      obtain ⟨b, off, rfl, hbs, hcell⟩ := HR.out.cells.2.2 (by omega)
      obtain ⟨x, hx⟩ : ∃ x, ts[k]? = some x := ⟨_, List.getElem?_eq_getElem (by have := HN.out; omega)⟩
      obtain ⟨c0, c1, c2⟩ := (hcell k x hx).1.below hbs HW.out
      have HX := Lib.hid hx
      clear hcell hx
      obtain ⟨xs, hxs⟩ : ∃ xs, xs = tflat (ts.take k) := ⟨_, rfl⟩
      have HXS := Lib.hid hxs
      rw [← hxs] at HO
      clear hxs
      go_wp2_with (at_builtin; go_loud (refine wpList_append_own _ rfl _ _ 22 rfl w.heap.size 32 i0 (.agg #[.string ⟨#[]⟩, .string ⟨#[]⟩, .int .i64 0]) 3 40 Try.underlying22 HI.out HZ.out HZ1.out HZ2.out rfl (by decide) _ k xs rfl (World.ownsRow.alloc HO.out _) ⟨wr.heap.size, 0, none⟩ 1 1 (tcells x) rfl rfl (World.news_of_block (cs := #[.string x.n, .string x.k, .int .i64 x.r]) (t := 32) (fr := (0, 0)) (heap_alloc_new wr _)) (by simp [Value.oneCell', tcells]) (by unfold maxLen; omega) (by omega) (by simp; omega) ?_; intro v' w6 hown6 hg6 hnn; clear hnn))
      obtain ⟨a3, c3, rfl⟩ := lform3 hown6
      have HO2 := Lib.hid (show w6.ownsRow w.heap.size 32 3 (.slice a3 (k + 1) c3) (k + 1) (tflat (ts.take (k + 1))) by
        rw [HXS.out] at hown6
        rw [List.take_add_one, HX.out, Option.toList_some, tflat_append, tflat_one]
        exact hown6)
      have hg6 : (wr.alloc (.cells #[.string x.n, .string x.k, .int .i64 x.r] 32)).grownBy w6 (Value.slice av k cv).ownBlock := hg6
      have HB2 := Lib.hid (show Below w.heap.size w w6 from (HW.out.alloc hwb _).grown hg6 (Nat.le_trans hwb (by simp)) (fun g e => (World.ownsRow.lt HO.out g e).1))
      clear hown6 hg6 c0 c1 c2
      go_roundg (n - (k + 1))
      case measure => omega
      case rel => exact ⟨k + 1, a3, c3, by omega, by first | rfl | simp, by first | rfl | simp, HO2, HB2⟩
    · obtain rfl : k = n := by omega
      have l0 : ¬ (k : Int) < (k : Int) := by omega
      have htl : ts.take k = ts := List.take_of_length_le (by have := HN.out; omega)
      rw [htl] at HO
      obtain ⟨xs, hxs⟩ : ∃ xs, xs = tflat ts := ⟨_, rfl⟩
      have HXS := Lib.hid hxs
      rw [← hxs] at HO
      clear hxs htl
      have n0 : (0 : Int) ≤ (k : Int) := by omega
      go_wp2_with (at_builtin; go_loud (refine wpList_append_own _ rfl _ _ 22 rfl w.heap.size 32 i0 (.agg #[.string ⟨#[]⟩, .string ⟨#[]⟩, .int .i64 0]) 3 40 Try.underlying22 HI.out HZ.out HZ1.out HZ2.out rfl (by decide) _ k xs rfl (World.ownsRow.alloc HO.out _) ⟨wr.heap.size, 0, none⟩ 1 1 (tcells spareT) rfl rfl (World.news_of_block (cs := #[.string spareT.n, .string spareT.k, .int .i64 spareT.r]) (t := 32) (fr := (0, 0)) (heap_alloc_new wr _)) (by simp [Value.oneCell', tcells]) (by unfold maxLen; omega) (by omega) (by simp; omega) ?_; intro v' w6 hown6 hg6 hnn; clear hnn; obtain ⟨g3, c3, rfl, hk3, hcp⟩ := lrow3 hown6))
      have hg6 : (wr.alloc (.cells #[.string spareT.n, .string spareT.k, .int .i64 spareT.r] 32)).grownBy w6 (Value.slice av k cv).ownBlock := hg6
      have HB2 := Lib.hid (show Below w.heap.size w w6 from (HW.out.alloc hwb _).grown hg6 (Nat.le_trans hwb (by simp)) (fun g e => (World.ownsRow.lt HO.out g e).1))
      have HT := Lib.hid (show TwinT w6 w.heap.size g3 c3 ts by
        unfold TwinT
        rw [HXS.out] at hown6
        rw [tflat_append, tflat_one, ← HN.out.1]
        exact hown6)
      clear hg6 hown6
      go_ret
      exact ⟨g3, c3, rfl, HT.out, HB2.out⟩
set_option maxHeartbeats 8000000 in
theorem leftT_any (ts : List Ten) (v : Value) (W : World) {B g c : Nat} (hl : ts.length ≤ 1000) (hT : TwinT W B g c ts) (hR : Tens W v ts) :
    Calls Try.prog 21 #[.slice (some ⟨g, 0, none⟩) ts.length c, v] W fun e w' => e = .returned (.bool true) ∧ Below W.heap.size W w' := by
  obtain ⟨a, cap, rfl, hcap⟩ : ∃ a c, v = .slice a ts.length c ∧ True := by obtain ⟨a, c, e, _⟩ := hR; exact ⟨a, c, e, trivial⟩
  obtain ⟨n, hn⟩ : ∃ n, n = ts.length := ⟨_, rfl⟩
  obtain ⟨q, hq⟩ : ∃ q, q = n + 1 := ⟨_, rfl⟩
  have w1 : IntKind.i64.wrap ((n : Int) + 1) = (q : Int) := by rw [hq]; exact IntWalk.i64_in _ (by omega)
  have HR := Lib.hid (show Tens W (.slice a n cap) ts by rw [hn]; exact hR)
  have HN := Lib.hid (show n = ts.length ∧ q = n + 1 ∧ n ≤ 1000 from ⟨hn, hq, by omega⟩)
  have HT := Lib.hid hT
  have hc1 := hT.cap
  have hgs := hc1.2.2
  have e0 : ¬ (c : Int) ≤ (n : Int) := by omega
  have e1 : (q : Int) ≤ (c : Int) := by omega
  have e2 : (n : Int) < (q : Int) := by omega
  have e3 : (0 : Int) ≤ (q : Int) := by omega
  have e4 : (0 : Int) ≤ (n : Int) := by omega
  have enn : ((n : Int) != (n : Int)) = false := by simp
  rw [← hn]
  clear hT hR hcap hl hn hq hc1
  have k0 : ((0 : Nat) : Int) = 0 := rfl
  go_enter Try.func21, Try.ntmps21
  go_wp2
  go_loopg [5] n (fun gg s5 wr => ∃ k : Nat, k + gg = n ∧ s5 = .int .i64 (k : Int) ∧ Hid (Below W.heap.size W wr))
  case atStart => exact ⟨0, by omega, rfl, Lib.hid (Below.refl _ _)⟩
  case round =>
    clear k0
    obtain ⟨k, hk, rfl, HW⟩ := hrel
    have HTW := Lib.hid (HT.out.below HW.out)
    by_cases hlt : k < n
    · have n0 : (0 : Int) ≤ (k : Int) := by omega
      have l0 : (k : Int) < (n : Int) := by omega
      have w0 : IntKind.i64.wrap ((k : Int) + 1) = ((k + 1 : Nat) : Int) := IntWalk.i64_in _ (by have := HN.out; omega)
      obtain ⟨b, off, rfl, hbs, hcell⟩ := HR.out.cells.2.2 (by omega)
      obtain ⟨x, hx⟩ : ∃ x, ts[k]? = some x := ⟨_, List.getElem?_eq_getElem (by have := HN.out; omega)⟩
      obtain ⟨c0, c1, c2⟩ := (hcell k x hx).1.below hbs HW.out
      obtain ⟨d0, d1, d2⟩ := HTW.out.at (j := k) (t := x) (by rw [List.getElem?_append_left (by have := HN.out; omega)]; exact hx)
      have hne := ten_neq x
      clear hcell hx
      go_wp2
      go_quiet (fail)
      go_wp2
      go_roundg (n - (k + 1))
      case measure => omega
      case rel => exact ⟨k + 1, by omega, by first | rfl | simp, Lib.hid (below_drewN HW.out _)⟩
    · obtain rfl : k = n := by omega
      have l0 : ¬ (k : Int) < (k : Int) := by omega
      obtain ⟨d0, d1, d2⟩ := HTW.out.at (j := k) (t := spareT) (by rw [List.getElem?_append_right (by have := HN.out; omega), HN.out.1]; simp)
      have hsp := str_eq spareT.n spareT.n
      go_wp2
      go_ret
      exact ⟨by first | rfl | exact ret_bool (by decide +kernel), HW.out.alloc HW.out.size _⟩
end Go.Proofs.Ytegfjndlkjfepaa
