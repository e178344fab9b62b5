/- Rows of 0, of both sides. -/
import Derived.Test.YtkkahghhheameaaDoorZrB
namespace Go.Proofs.YtkkahghhheameaaDoor
open Go Go.Proofs Go.RowKit Go.Shelf

attribute [local go_sem] Oper.semAt_some
set_option maxRecDepth 100000
theorem info_ratZ : (Tryd.prog.info? 47).map (fun i => (i.zero, i.size, i.bytes)) = some (some (.agg #[.bool false, .slice none 0 0, .slice none 0 0]), 3, 56) := by kernel_rfl
def zmark (d : Nat) : List Value := [.bool false, .slice none 0 0, .slice (some ⟨d, 0, none⟩) 1 2]
def dmark (e : Nat × Nat × Nat) : List Value := [.bool false, .slice (some ⟨e.2.1, 0, none⟩) 0 e.2.2, .slice (some ⟨e.1, 0, none⟩) 1 1]
theorem one_grown {W W' : World} {row : Option Nat} {d : Nat} {cs : Array Value} {T : TypeId} (h : W.heap[d]? = some (.cells cs T (0, 0))) (hg : W.grownBy W' row) (hne : some d ≠ row) : W'.heap[d]? = some (.cells cs T (0, 0)) :=
  (hg.block d (Array.getElem?_eq_some_iff.1 h).1 hne).trans h
set_option maxHeartbeats 4000000 in
theorem v_zero (n : Nat) (hn : n ≤ 300) (W : World) : Calls Tryd.prog 4 #[.int .i64 (n : Int)] W fun e w' => ∃ (a : Option Addr) (c : Nat) (ds : List (Nat)), e = .returned (.slice a n c) ∧ ds.length = n ∧ w'.ownsRow W.heap.size 47 3 (.slice a n c) n (ds.flatMap zmark) ∧
    (∀ d ∈ ds, W.heap.size ≤ d ∧ One2 w' d ∧ (Value.slice a n c).ownBlock ≠ some d) ∧ (ds.map (fun d => d)).Nodup ∧ Below W.heap.size W w' := by
  obtain ⟨i0, hi0, hz0, hz1, hz2⟩ := q_info info_ratZ
  have HI := Lib.hid hi0
  have HZ := Lib.hid hz0
  have HZ1 := Lib.hid hz1
  have HZ2 := Lib.hid hz2
  clear hi0 hz0 hz1 hz2
  have k0 := Lib.hid (fun W => r_zero W)
  go_enter Tryd.func4, Tryd.ntmps4
  go_wp2_with (at_make; go_loud (refine wpList_make_own _ rfl _ _ 22 rfl W.heap.size 47 i0 (.agg #[.bool false, .slice none 0 0, .slice none 0 0]) 3 Tryd.underlying22 HI.out HZ.out HZ1.out .i64 .i64 _ n rfl rfl (by omega) (by rw [HZ2.out]; omega) (by unfold maxLen; omega) (Nat.le_refl _) ?_); intro w1 qo qg; have HO := Lib.hid qo; have HB0 := Lib.hid (show Below W.heap.size W w1 from (Below.refl _ _).grown qg (Nat.le_refl _) (fun _ e => by cases e)); clear qo qg)
  go_loopg [3, 13] n (fun g t x wr => ∃ (k : Nat) (ds : List (Nat)) (av : Option Addr) (cv : Nat), k + g = n ∧ t = .slice av k cv ∧ x = .int .i64 (k : Int) ∧ Hid (ds.length = k) ∧ Hid (wr.ownsRow W.heap.size 47 3 (.slice av k cv) k (ds.flatMap zmark)) ∧
    Hid (∀ d ∈ ds, W.heap.size ≤ d ∧ One2 wr d ∧ (Value.slice av k cv).ownBlock ≠ some d) ∧ Hid ((ds.map (fun d => d)).Nodup) ∧ Hid (Below W.heap.size W wr))
  case atStart => exact ⟨0, [], _, _, by omega, rfl, rfl, Lib.hid rfl, HO, Lib.hid (fun d h => by cases h), Lib.hid List.nodup_nil, HB0⟩
  case round =>
    clear HO HB0
    obtain ⟨k, ds, av, cv, hk, rfl, rfl, HM, HO, HD, HN, HB⟩ := hrel
    by_cases hlt : k < n
    · go_wp2_with fail
      refine (k0.out _).mono ?_
      rintro e w2 ⟨d0, rfl, hd, b2, o2⟩
      have HB2 := Lib.hid (below_tr HB.out (b2.mono HB.out.size))
      have HO2 := Lib.hid (World.ownsRow.kept HO.out (q_bg b2) own_none)
      have HD2 := Lib.hid (show ∀ d ∈ ds, W.heap.size ≤ d ∧ One2 w2 d ∧ (Value.slice av k cv).ownBlock ≠ some d ∧ d < wr.heap.size from fun d h => by
        have x := HD.out d h
        exact ⟨x.1, one_grown x.2.1 (q_bg b2) (by simp), x.2.2, (Array.getElem?_eq_some_iff.1 x.2.1).1⟩)
      have HL := Lib.hid (show ∀ g, (Value.slice av k cv).ownBlock = some g → g < wr.heap.size from fun g e => (World.ownsRow.lt HO.out g e).2)
      have HN1 := Lib.hid (And.intro hd o2)
      have hs2 : W.heap.size ≤ w2.heap.size := HB2.out.size
      have hs3 : W.heap.size ≤ wr.heap.size := HB.out.size
      clear hd b2 o2 HB HO HD
      go_wp2_with (at_builtin; go_loud (refine qwpList_append_or _ rfl _ _ 22 rfl W.heap.size 47 i0 (.agg #[.bool false, .slice none 0 0, .slice none 0 0]) 3 56 Tryd.underlying22 HI.out HZ.out HZ1.out HZ2.out rfl (by decide) _ k (ds.flatMap zmark) rfl (World.ownsRow.alloc HO2.out _) ⟨w2.heap.size, 0, none⟩ 1 1 [.bool false, .slice none 0 0, .slice (some ⟨d0, 0, none⟩) 1 2] rfl rfl (World.news_of_block (cs := #[.bool false, .slice none 0 0, .slice (some ⟨d0, 0, none⟩) 1 2]) (t := 47) (fr := (0, 0)) (q_new w2 _)) (by simp [Value.oneCell']) (by unfold maxLen; omega) (by omega) (by simp; omega) ?_); intro v' w3 qown qor; have hown' := Lib.hid qown; have hor := Lib.hid qor; clear qown qor; refine Hid.out ?_)
      refine Lib.hid ?_
      obtain ⟨a3, c3, e3⟩ : ∃ a3 c3, v' = .slice a3 (k + 1) c3 := by
        obtain ⟨a, c, hf, _⟩ := own_rdc hown'.out
        exact ⟨a, c, hf⟩
      subst e3
      have hor := Lib.hid (show ((Value.slice a3 (k + 1) c3).ownBlock = (Value.slice av k cv).ownBlock ∧ (w2.alloc (.cells #[.bool false, .slice none 0 0, .slice (some ⟨d0, 0, none⟩) 1 2] 47)).grownBy w3 (Value.slice av k cv).ownBlock) ∨ ((Value.slice a3 (k + 1) c3).ownBlock = some (w2.alloc (.cells #[.bool false, .slice none 0 0, .slice (some ⟨d0, 0, none⟩) 1 2] 47)).heap.size ∧ (w2.alloc (.cells #[.bool false, .slice none 0 0, .slice (some ⟨d0, 0, none⟩) 1 2] 47)).grownBy w3 none) from hor.out)
      have HB3 := Lib.hid (show Below W.heap.size W w3 from by
        have h := HB2.out.alloc hs2 (.cells #[.bool false, .slice none 0 0, .slice (some ⟨d0, 0, none⟩) 1 2] 47)
        rcases hor.out with ⟨_, hg⟩ | ⟨_, hg⟩
        · exact h.grown hg (by simp; omega) (fun g e => (World.ownsRow.lt HO2.out g e).1)
        · exact h.grown hg (by simp; omega) (fun g e => by cases e))
      have HD3 := Lib.hid (show ∀ d ∈ ds ++ [d0], W.heap.size ≤ d ∧ One2 w3 d ∧ (Value.slice a3 (k + 1) c3).ownBlock ≠ some d from fun d h => by
        have hx : W.heap.size ≤ d ∧ One2 w2 d ∧ (Value.slice av k cv).ownBlock ≠ some d := by
          rcases List.mem_append.1 h with h | h
          · exact ⟨(HD2.out d h).1, (HD2.out d h).2.1, (HD2.out d h).2.2.1⟩
          · obtain rfl := List.mem_singleton.1 h
            refine ⟨Nat.le_trans hs3 HN1.out.1, HN1.out.2, fun e => ?_⟩
            have := HL.out _ e
            have := HN1.out.1
            try dsimp only at *
            omega
        have hl := (Array.getElem?_eq_some_iff.1 hx.2.1).1
        have h1 : (w2.alloc (.cells #[.bool false, .slice none 0 0, .slice (some ⟨d0, 0, none⟩) 1 2] 47)).heap[d]? = _ := (Below.heap_alloc w2 _ _ hl).trans hx.2.1
        rcases hor.out with ⟨e, hg⟩ | ⟨e, hg⟩
        · exact ⟨hx.1, one_grown h1 hg (fun e2 => hx.2.2 e2.symm), by rw [e]; exact hx.2.2⟩
        · exact ⟨hx.1, one_grown h1 hg (by simp), by rw [e]; simp; omega⟩)
      have HN3 := Lib.hid (show ((ds ++ [d0]).map (fun d => d)).Nodup from by
        rw [List.map_append, List.nodup_append]
        refine ⟨HN.out, by simp, fun x hx y hy e => ?_⟩
        obtain ⟨d, hd, rfl⟩ := List.mem_map.1 hx
        have := (HD2.out d hd).2.2.2
        have h2 := HN1.out.1
        simp at hy
        subst hy
        omega)
      have HO3 := Lib.hid (show w3.ownsRow W.heap.size 47 3 (.slice a3 (k + 1) c3) (k + 1) ((ds ++ [d0]).flatMap zmark) from by
        rw [List.flatMap_append]; simpa [zmark] using hown'.out)
      have hm := HM.out
      clear hown' hor HD2 HO2 HB2 HL HN1 HN
      go_wp2
      go_roundg (n - (k + 1))
      case measure => omega
      case rel => exact ⟨k + 1, ds ++ [d0], a3, c3, by omega, rfl, by simp, Lib.hid (by rw [List.length_append, hm]; rfl), HO3, HD3, HN3, HB3⟩
    · obtain rfl : k = n := by omega
      go_wp2
      go_ret
      exact ⟨_, _, ds, rfl, HM.out, HO.out, HD.out, HN.out, HB.out⟩
set_option maxHeartbeats 4000000 in
theorem d_zero (n : Nat) (hn : n ≤ 300) (W : World) : Calls Tryd.prog 6 #[.int .i64 (n : Int)] W fun e w' => ∃ (a : Option Addr) (c : Nat) (ds : List (Nat × Nat × Nat)), e = .returned (.slice a n c) ∧ ds.length = n ∧ w'.ownsRow W.heap.size 47 3 (.slice a n c) n (ds.flatMap dmark) ∧
    (∀ d ∈ ds, W.heap.size ≤ d.1 ∧ One1 w' (d.1) ∧ (Value.slice a n c).ownBlock ≠ some (d.1)) ∧ (ds.map (fun d => d.1)).Nodup ∧ Below W.heap.size W w' := by
  obtain ⟨i0, hi0, hz0, hz1, hz2⟩ := q_info info_ratZ
  have HI := Lib.hid hi0
  have HZ := Lib.hid hz0
  have HZ1 := Lib.hid hz1
  have HZ2 := Lib.hid hz2
  clear hi0 hz0 hz1 hz2
  have k0 := Lib.hid (fun W => dr_zero W)
  go_enter Tryd.func6, Tryd.ntmps6
  have HO := Lib.hid (World.ownsRow_nil W W.heap.size 47 3)
  have HB0 := Lib.hid (Below.refl W.heap.size W)
  go_wp2
  go_loopg [3, 4] n (fun g t x wr => ∃ (k : Nat) (ds : List (Nat × Nat × Nat)) (av : Option Addr) (cv : Nat), k + g = n ∧ t = .slice av k cv ∧ x = .int .i64 (k : Int) ∧ Hid (ds.length = k) ∧ Hid (wr.ownsRow W.heap.size 47 3 (.slice av k cv) k (ds.flatMap dmark)) ∧
    Hid (∀ d ∈ ds, W.heap.size ≤ d.1 ∧ One1 wr (d.1) ∧ (Value.slice av k cv).ownBlock ≠ some (d.1)) ∧ Hid ((ds.map (fun d => d.1)).Nodup) ∧ Hid (Below W.heap.size W wr))
  case atStart => exact ⟨0, [], _, _, by omega, rfl, rfl, Lib.hid rfl, HO, Lib.hid (fun d h => by cases h), Lib.hid List.nodup_nil, HB0⟩
  case round =>
    clear HO HB0
    obtain ⟨k, ds, av, cv, hk, rfl, rfl, HM, HO, HD, HN, HB⟩ := hrel
    by_cases hlt : k < n
    · go_wp2_with fail
      refine (k0.out _).mono ?_
      rintro e w2 ⟨d0, x, cx, rfl, hd, b2, o2⟩
      have HB2 := Lib.hid (below_tr HB.out (b2.mono HB.out.size))
      have HO2 := Lib.hid (World.ownsRow.kept HO.out (q_bg b2) own_none)
      have HD2 := Lib.hid (show ∀ d ∈ ds, W.heap.size ≤ d.1 ∧ One1 w2 (d.1) ∧ (Value.slice av k cv).ownBlock ≠ some (d.1) ∧ d.1 < wr.heap.size from fun d h => by
        have x := HD.out d h
        exact ⟨x.1, one_grown x.2.1 (q_bg b2) (by simp), x.2.2, (Array.getElem?_eq_some_iff.1 x.2.1).1⟩)
      have HL := Lib.hid (show ∀ g, (Value.slice av k cv).ownBlock = some g → g < wr.heap.size from fun g e => (World.ownsRow.lt HO.out g e).2)
      have HN1 := Lib.hid (And.intro hd o2)
      have hs2 : W.heap.size ≤ w2.heap.size := HB2.out.size
      have hs3 : W.heap.size ≤ wr.heap.size := HB.out.size
      clear hd b2 o2 HB HO HD
      go_wp2_with (at_builtin; go_loud (refine qwpList_append_or _ rfl _ _ 22 rfl W.heap.size 47 i0 (.agg #[.bool false, .slice none 0 0, .slice none 0 0]) 3 56 Tryd.underlying22 HI.out HZ.out HZ1.out HZ2.out rfl (by decide) _ k (ds.flatMap dmark) rfl (World.ownsRow.alloc HO2.out _) ⟨w2.heap.size, 0, none⟩ 1 1 [.bool false, .slice (some ⟨x, 0, none⟩) 0 cx, .slice (some ⟨d0, 0, none⟩) 1 1] rfl rfl (World.news_of_block (cs := #[.bool false, .slice (some ⟨x, 0, none⟩) 0 cx, .slice (some ⟨d0, 0, none⟩) 1 1]) (t := 47) (fr := (0, 0)) (q_new w2 _)) (by simp [Value.oneCell']) (by unfold maxLen; omega) (by omega) (by simp; omega) ?_); intro v' w3 qown qor; have hown' := Lib.hid qown; have hor := Lib.hid qor; clear qown qor; refine Hid.out ?_)
      refine Lib.hid ?_
      obtain ⟨a3, c3, e3⟩ : ∃ a3 c3, v' = .slice a3 (k + 1) c3 := by
        obtain ⟨a, c, hf, _⟩ := own_rdc hown'.out
        exact ⟨a, c, hf⟩
      subst e3
      have hor := Lib.hid (show ((Value.slice a3 (k + 1) c3).ownBlock = (Value.slice av k cv).ownBlock ∧ (w2.alloc (.cells #[.bool false, .slice (some ⟨x, 0, none⟩) 0 cx, .slice (some ⟨d0, 0, none⟩) 1 1] 47)).grownBy w3 (Value.slice av k cv).ownBlock) ∨ ((Value.slice a3 (k + 1) c3).ownBlock = some (w2.alloc (.cells #[.bool false, .slice (some ⟨x, 0, none⟩) 0 cx, .slice (some ⟨d0, 0, none⟩) 1 1] 47)).heap.size ∧ (w2.alloc (.cells #[.bool false, .slice (some ⟨x, 0, none⟩) 0 cx, .slice (some ⟨d0, 0, none⟩) 1 1] 47)).grownBy w3 none) from hor.out)
      have HB3 := Lib.hid (show Below W.heap.size W w3 from by
        have h := HB2.out.alloc hs2 (.cells #[.bool false, .slice (some ⟨x, 0, none⟩) 0 cx, .slice (some ⟨d0, 0, none⟩) 1 1] 47)
        rcases hor.out with ⟨_, hg⟩ | ⟨_, hg⟩
        · exact h.grown hg (by simp; omega) (fun g e => (World.ownsRow.lt HO2.out g e).1)
        · exact h.grown hg (by simp; omega) (fun g e => by cases e))
      have HD3 := Lib.hid (show ∀ d ∈ ds ++ [(d0, x, cx)], W.heap.size ≤ d.1 ∧ One1 w3 (d.1) ∧ (Value.slice a3 (k + 1) c3).ownBlock ≠ some (d.1) from fun d h => by
        have hx : W.heap.size ≤ d.1 ∧ One1 w2 (d.1) ∧ (Value.slice av k cv).ownBlock ≠ some (d.1) := by
          rcases List.mem_append.1 h with h | h
          · exact ⟨(HD2.out d h).1, (HD2.out d h).2.1, (HD2.out d h).2.2.1⟩
          · obtain rfl := List.mem_singleton.1 h
            refine ⟨Nat.le_trans hs3 HN1.out.1, HN1.out.2, fun e => ?_⟩
            have := HL.out _ e
            have := HN1.out.1
            try dsimp only at *
            omega
        have hl := (Array.getElem?_eq_some_iff.1 hx.2.1).1
        have h1 : (w2.alloc (.cells #[.bool false, .slice (some ⟨x, 0, none⟩) 0 cx, .slice (some ⟨d0, 0, none⟩) 1 1] 47)).heap[d.1]? = _ := (Below.heap_alloc w2 _ _ hl).trans hx.2.1
        rcases hor.out with ⟨e, hg⟩ | ⟨e, hg⟩
        · exact ⟨hx.1, one_grown h1 hg (fun e2 => hx.2.2 e2.symm), by rw [e]; exact hx.2.2⟩
        · exact ⟨hx.1, one_grown h1 hg (by simp), by rw [e]; simp; omega⟩)
      have HN3 := Lib.hid (show ((ds ++ [(d0, x, cx)]).map (fun d => d.1)).Nodup from by
        rw [List.map_append, List.nodup_append]
        refine ⟨HN.out, by simp, fun x hx y hy e => ?_⟩
        obtain ⟨d, hd, rfl⟩ := List.mem_map.1 hx
        have := (HD2.out d hd).2.2.2
        have h2 := HN1.out.1
        simp at hy
        subst hy
        omega)
      have HO3 := Lib.hid (show w3.ownsRow W.heap.size 47 3 (.slice a3 (k + 1) c3) (k + 1) ((ds ++ [(d0, x, cx)]).flatMap dmark) from by
        rw [List.flatMap_append]; simpa [dmark] using hown'.out)
      have hm := HM.out
      clear hown' hor HD2 HO2 HB2 HL HN1 HN
      go_wp2
      go_roundg (n - (k + 1))
      case measure => omega
      case rel => exact ⟨k + 1, ds ++ [(d0, x, cx)], a3, c3, by omega, rfl, by simp, Lib.hid (by rw [List.length_append, hm]; rfl), HO3, HD3, HN3, HB3⟩
    · obtain rfl : k = n := by omega
      go_wp2
      go_ret
      exact ⟨_, _, ds, rfl, HM.out, HO.out, HD.out, HN.out, HB.out⟩
end Go.Proofs.YtkkahghhheameaaDoor
