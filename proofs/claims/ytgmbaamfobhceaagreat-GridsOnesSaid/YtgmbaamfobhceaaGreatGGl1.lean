/- A grid of ones from corner to corner: its stairs, what it makes, what it is made of. Grids without a row. GridsOnes: a grid of ones from corner to .. -/
import Derived.Test.YtgmbaamfobhceaaGreatGGlU
import Derived.Test.YtgmbaamfobhceaaGreatGGlY
set_option linter.unusedSimpArgs false
set_option linter.unusedSectionVars false
set_option linter.unusedVariables false
set_option maxHeartbeats 8000000
namespace Go.Proofs.YtgmbaamfobhceaaGreat
open Go Go.Proofs Go.RowKit Go.Shelf Nu
set_option linter.unusedVariables false
set_option linter.unusedSimpArgs false
set_option linter.unusedSectionVars false
def unit (n i : Nat) : List Rat := (zeros n).set i 1
def ones (n : Nat) : List (List Rat) := (List.range n).map (unit n)
theorem unit_len (n i : Nat) : (unit n i).length = n := by unfold unit; rw [List.length_set, zeros_length]
theorem ones_len (n : Nat) : (ones n).length = n := by simp [ones]
theorem ones_at {n k : Nat} (h : k < n) : (ones n)[k]? = some (unit n k) := by
 unfold ones
 rw [List.getElem?_map, List.getElem?_range h]; rfl
theorem ones_all (n : Nat) : ∀ r ∈ ones n, r.length = n := by
 intro r hr
 obtain ⟨k, _, rfl⟩ := List.mem_map.1 hr
 exact unit_len n k
theorem zeros_getD (n k : Nat) : (zeros n).getD k 0 = 0 := by
 unfold zeros
 rw [List.getD_eq_getElem?_getD, List.getElem?_replicate]
 split <;> rfl
theorem unit_same {n i : Nat} (h : i < n) : (unit n i).getD i 0 = 1 := by
 unfold unit
 rw [List.getD_eq_getElem?_getD, List.getElem?_set, if_pos rfl, if_pos (by rw [zeros_length]; exact h)]; rfl
theorem unit_other {n i k : Nat} (h : i ≠ k) : (unit n i).getD k 0 = 0 := by
 unfold unit
 rw [List.getD_eq_getElem?_getD, List.getElem?_set, if_neg h, ← List.getD_eq_getElem?_getD, zeros_getD]
theorem wt_one : wt 1 = 1 := by have := wt_int 1 (by omega); simpa using this
theorem wts_unit (n i : Nat) : wts (unit n i) ≤ n := by
 have h := wts_all (l := unit n i) (k := 1) (fun x hx => by
  unfold unit at hx
  rcases List.mem_or_eq_of_mem_set hx with h | h
  · rw [List.eq_of_mem_replicate h, wt_zero]; exact Nat.le_refl _
  · rw [h, wt_one]; exact Nat.le_refl _)
 rw [unit_len] at h; omega
theorem zeros_succ (n : Nat) : zeros (n + 1) = 0 :: zeros n := rfl
theorem dot_unit : ∀ (n i : Nat) (x : List Rat), i < n → x.length = n → dot (unit n i) x = x.getD i 0
 | 0, _, _, h, _ => by omega
 | n + 1, i, [], _, h => by simp at h
 | n + 1, 0, y :: x, _, h => by
  show dot ((zeros (n + 1)).set 0 1) (y :: x) = y
  rw [zeros_succ, List.set_cons_zero, dot_cons, dot_comm, show n = x.length by simpa using h.symm, dot_zeros]
  grind
 | n + 1, i + 1, y :: x, hi, h => by
  show dot ((zeros (n + 1)).set (i + 1) 1) (y :: x) = x.getD i 0
  rw [zeros_succ, List.set_cons_succ, dot_cons]
  have := dot_unit n i x (by omega) (by simpa using h)
  unfold unit at this
  rw [this]; grind
theorem times_ones {n : Nat} {x : List Rat} (h : x.length = n) : times (ones n) x = x := by
 apply List.ext_getElem
 · rw [times_len, ones_len, h]
 · intro k h1 h2
   have hk : k < n := by omega
   simp only [times, List.getElem_map]
   have e : (ones n)[k]'(by rw [ones_len]; exact hk) = unit n k := by
    have := ones_at hk
    rw [List.getElem?_eq_getElem (by rw [ones_len]; exact hk)] at this
    exact Option.some.inj this
   rw [e, dot_unit n k x hk h, List.getD_eq_getElem?_getD, List.getElem?_eq_getElem h2]; rfl
theorem drop_cons_getD {l : List Rat} {j : Nat} (h : j < l.length) : l.drop j = l.getD j 0 :: l.drop (j + 1) := by
 rw [List.drop_eq_getElem_cons h, List.getD_eq_getElem?_getD, List.getElem?_eq_getElem h]; rfl
section
variable {n : Nat} {x : List Rat} (hx : x.length = n)
include hx
theorem bo_len : (besd (ones n) x).length = n := by rw [besd_len (by rw [ones_len, hx]), ones_len]
theorem bo_at {k : Nat} (h : k < n) : (besd (ones n) x)[k]? = some (unit n k ++ [x.getD k 0]) := by
 unfold besd
 rw [List.getElem?_zipWith, ones_at h, List.getElem?_eq_getElem (show k < x.length by omega)]
 rw [List.getD_eq_getElem?_getD, List.getElem?_eq_getElem (show k < x.length by omega)]; rfl
theorem bo_getD {k : Nat} (h : k < n) : (besd (ones n) x).getD k [] = unit n k ++ [x.getD k 0] := by rw [List.getD_eq_getElem?_getD, bo_at hx h]; rfl
theorem bo_mem {r : List Rat} (h : r ∈ besd (ones n) x) : ∃ k, k < n ∧ r = unit n k ++ [x.getD k 0] := by
 obtain ⟨k, hk, rfl⟩ := List.getElem_of_mem h
 have hk' : k < n := by rw [bo_len hx] at hk; exact hk
 have e := bo_at hx hk'
 rw [List.getElem?_eq_getElem hk] at e
 exact ⟨k, hk', Option.some.inj e⟩
theorem bo_cell {i k : Nat} (hi : i < n) (hk : k < n) : (unit n i ++ [x.getD i 0]).getD k 0 = if i = k then 1 else 0 := by
 rw [List.getD_eq_getElem?_getD, List.getElem?_append_left (by rw [unit_len]; exact hk), ← List.getD_eq_getElem?_getD]
 split
 · rename_i e; subst e; exact unit_same hi
 · rename_i e; exact unit_other e
theorem bo_hit {k : Nat} (hk : k < n) : hit (besd (ones n) x) k k = some k := by
 refine hit_at (by rw [bo_len hx]; exact hk) (Nat.le_refl _) ?_ (fun j h1 h2 => by omega)
 rw [bo_getD hx hk, bo_cell hx hk hk, if_pos rfl]; decide
theorem bo_swp {k : Nat} (hk : k < n) : swp (besd (ones n) x) k k = besd (ones n) x := by
 unfold swp
 rw [List.set_set, List.getD_eq_getElem?_getD, bo_at hx hk]
 apply List.ext_getElem?
 intro j
 rw [List.getElem?_set]
 split
 · rename_i e; subst e
   rw [if_pos (by rw [bo_len hx]; exact hk), bo_at hx hk]; rfl
 · rfl
theorem bo_turn {k : Nat} (hk : k < n) : turnR (besd (ones n) x) k k k = besd (ones n) x := by
 unfold turnR
 rw [bo_swp hx hk]
 unfold upto
 apply List.ext_getElem?
 intro j
 rw [List.getElem?_mapIdx]
 cases hj : (besd (ones n) x)[j]? with
 | none => rfl
 | some r =>
  have hj' : j < n := by have := (List.getElem?_eq_some_iff.1 hj).1; rw [bo_len hx] at this; exact this
  rw [bo_at hx hj'] at hj
  cases hj
  simp only [Option.map_some]
  split
  · rename_i h
    unfold elim
    rw [if_pos (by rw [bo_cell hx hj' hk, if_neg (by omega)])]
  · rfl
theorem bo_stp : ∀ k, k ≤ n → stp (besd (ones n) x) k = (besd (ones n) x, List.range k)
 | 0, _ => rfl
 | k + 1, h => by
  rw [stp_next, bo_stp k (by omega)]
  unfold step
  rw [List.length_range, bo_hit hx (by omega)]
  show (turnR (besd (ones n) x) k k k, List.range k ++ [k]) = _
  rw [bo_turn hx (by omega), List.range_succ]
theorem bo_end : stp (besd (ones n) x) (n + 1) = (besd (ones n) x, List.range n) := by
 rw [stp_next, bo_stp hx n (Nat.le_refl _)]
 unfold step
 rw [List.length_range, hit_no (fun j h1 h2 => by rw [bo_len hx] at h2; omega)]
theorem bo_wts {r : List Rat} (h : r ∈ besd (ones n) x) : wts r ≤ n + wts x := by
 obtain ⟨k, hk, rfl⟩ := bo_mem hx h
 rw [wts_append]
 have h1 := wts_unit n k
 have h2 := wt_mem (l := x) (x := x.getD k 0) (by rw [List.getD_eq_getElem?_getD, List.getElem?_eq_getElem (by omega)]; exact List.getElem_mem _)
 show wts (unit n k) + (wt (x.getD k 0) + 0) ≤ _
 omega
theorem bo_fine (h1 : n ≤ 100) (h2 : wts x ≤ 2000) : fine (besd (ones n) x) (n + 1) := by
 intro k hk
 rw [bo_stp hx k (by omega)]
 refine ⟨fun r hr y hy => by have := bo_wts hx hr; have := wt_mem hy; omega, fun q hq => ?_⟩
 rw [List.length_range] at hq ⊢
 by_cases hkn : k < n
 · rw [bo_hit hx hkn] at hq
   cases hq
   rw [bo_swp hx hkn]
   intro r hr
   refine ⟨fun y hy => by have := bo_wts hx hr; have := wt_mem hy; omega, ?_⟩
   obtain ⟨i, hi, rfl⟩ := bo_mem hx hr
   rw [bo_getD hx hkn, bo_cell hx hkn hkn, if_pos rfl, bo_cell hx hi hkn]
   split
   · rw [show (1 : Rat) / 1 = 1 by decide +kernel, wt_one]; omega
   · rw [show (0 : Rat) / 1 = 0 by decide +kernel, wt_zero]; omega
 · obtain rfl : k = n := by omega
   rw [hit_no (fun j h1 h2 => by rw [bo_len hx] at h2; omega)] at hq
   cases hq
theorem bo_sol : ∀ k, k ≤ n → sol (besd (ones n) x) n k = x.drop (n - k)
 | 0, _ => by rw [List.drop_of_length_le (by omega)]; rfl
 | k + 1, h => by
  have ih := bo_sol k (by omega)
  show ((((besd (ones n) x).getD (n - (k + 1)) []).getD n 0 - dot (mid ((besd (ones n) x).getD (n - (k + 1)) []) n (n - k)) (sol (besd (ones n) x) n k)) / ((besd (ones n) x).getD (n - (k + 1)) []).getD (n - (k + 1)) 0) :: sol (besd (ones n) x) n k = _
  obtain ⟨j, hj⟩ : ∃ j, j = n - (k + 1) := ⟨_, rfl⟩
  have hjn : j < n := by omega
  rw [← hj, show n - k = j + 1 by omega, ih, bo_getD hx hjn, bo_cell hx hjn hjn, if_pos rfl, show x.drop j = x.getD j 0 :: x.drop (j + 1) from drop_cons_getD (by omega)]
  have e1 : (unit n j ++ [x.getD j 0]).getD n 0 = x.getD j 0 := by
   rw [List.getD_eq_getElem?_getD, List.getElem?_append_right (by rw [unit_len]; exact Nat.le_refl _), unit_len, Nat.sub_self]; rfl
  have e2 : mid (unit n j ++ [x.getD j 0]) n (j + 1) = zeros (n - (j + 1)) := by
   unfold mid
   rw [List.take_append_of_le_length (by rw [unit_len]; exact Nat.le_refl _), List.take_of_length_le (by rw [unit_len]; exact Nat.le_refl _)]
   unfold unit
   rw [List.drop_set_of_lt (by omega)]
   unfold zeros
   rw [List.drop_replicate]
  have e3 : dot (zeros (n - (j + 1))) (x.drop (j + 1)) = 0 := by
   rw [dot_comm, show n - (j + 1) = (x.drop (j + 1)).length by rw [List.length_drop, hx], dot_zeros]
  rw [show n - k = j + 1 by omega, e1, e2, e3]
  congr 1
  rw [Rat.sub_eq_add_neg, Rat.neg_zero, Rat.add_zero, Rat.div_def]
  rw [show (1 : Rat)⁻¹ = 1 by decide +kernel, Rat.mul_one]
theorem bo_steep (h1 : n ≤ 100) (h2 : wts x ≤ 1000) : steep (besd (ones n) x) n := by
 intro j hj
 rw [bo_getD hx hj, bo_cell hx hj hj, if_pos rfl]
 refine ⟨by rw [List.length_append, unit_len]; rfl, by decide, ?_⟩
 rw [bo_sol hx _ (by omega)]
 have h3 := bo_wts hx (List.mem_of_getElem? (bo_at hx hj))
 have h4 := wts_take_drop x (n - (n - 1 - j))
 omega
end
theorem on_getD {n k : Nat} (hk : k < n) : (ones n).getD k [] = unit n k := by rw [List.getD_eq_getElem?_getD, ones_at hk]; rfl
theorem on_hit {n k : Nat} (hk : k < n) : hit (ones n) k k = some k := by
 refine hit_at (by rw [ones_len]; exact hk) (Nat.le_refl _) ?_ (fun j h1 h2 => by omega)
 rw [on_getD hk, unit_same hk]; decide
theorem on_swp {n k : Nat} (hk : k < n) : swp (ones n) k k = ones n := by
 unfold swp
 rw [List.set_set, List.getD_eq_getElem?_getD, ones_at hk]
 apply List.ext_getElem?
 intro j
 rw [List.getElem?_set]
 split
 · rename_i e; subst e
   rw [if_pos (by rw [ones_len]; exact hk), ones_at hk]; rfl
 · rfl
theorem on_turn {n k : Nat} (hk : k < n) : turnR (ones n) k k k = ones n := by
 unfold turnR
 rw [on_swp hk]
 unfold upto
 apply List.ext_getElem?
 intro j
 rw [List.getElem?_mapIdx]
 cases hj : (ones n)[j]? with
 | none => rfl
 | some r =>
  have hj' : j < n := by have := (List.getElem?_eq_some_iff.1 hj).1; rw [ones_len] at this; exact this
  rw [ones_at hj'] at hj
  cases hj
  simp only [Option.map_some]
  split
  · rename_i h
    unfold elim
    rw [if_pos (unit_other (by omega))]
  · rfl
theorem on_stp {n : Nat} : ∀ k, k ≤ n → stp (ones n) k = (ones n, List.range k)
 | 0, _ => rfl
 | k + 1, h => by
  rw [stp_next, on_stp k (by omega)]
  unfold step
  rw [List.length_range, on_hit (by omega)]
  show (turnR (ones n) k k k, List.range k ++ [k]) = _
  rw [on_turn (by omega), List.range_succ]
theorem on_fine {n : Nat} (h1 : n ≤ 100) : fine (ones n) n := by
 intro k hk
 rw [on_stp k (by omega)]
 have hw : ∀ r ∈ ones n, ∀ y ∈ r, wt y ≤ 3000 := fun r hr y hy => by
   obtain ⟨i, _, rfl⟩ := List.mem_map.1 hr
   have := wts_unit n i; have := wt_mem hy; omega
 refine ⟨hw, fun q hq => ?_⟩
 rw [List.length_range] at hq ⊢
 rw [on_hit hk] at hq
 cases hq
 rw [on_swp hk]
 intro r hr
 refine ⟨hw r hr, ?_⟩
 obtain ⟨i, hi, rfl⟩ := List.mem_map.1 hr
 rw [on_getD hk, unit_same hk]
 by_cases e : i = k
 · subst e; rw [unit_same hk, show (1 : Rat) / 1 = 1 by decide +kernel, wt_one]; omega
 · rw [unit_other e, show (0 : Rat) / 1 = 0 by decide +kernel, wt_zero]; omega
end Go.Proofs.YtgmbaamfobhceaaGreat
namespace Go.Proofs.YtgmbaamfobhceaaGreat
open Go Go.Proofs Go.RowKit Go.Shelf Nu
set_option linter.unusedVariables false
set_option linter.unusedSimpArgs false
set_option linter.unusedSectionVars false
set_option maxRecDepth 100000
attribute [local go_sem] Oper.semAt_some
theorem GridR.none0 (W : World) (a : Option Addr) (c : Nat) : GridR W (.slice a 0 c) [] := ⟨a, c, rfl, Nat.zero_le _, fun h => absurd h (by simp)⟩
theorem GR.empty {W : World} {base g cap : Nat} {cur : Array Value} (hb : base ≤ g) (h : W.heap[g]? = some (.cells cur 30 (0, 0))) (hc : cur.size = cap) (hm : cap ≤ maxLen) (hq : ∀ u ∈ cur.toList, noQ u = true) : GR W base g 0 cap [] [] := by
 refine ⟨⟨rfl, .inr ⟨g, cap, cur, rfl, hb, h, Nat.zero_le _, hm, by omega, by simp⟩⟩, fun g' e => ?_, rfl, fun k v r e => by simp at e⟩
 obtain rfl : g = g' := by simpa [Value.ownBlock] using e
 exact ⟨cur, _, h, hq⟩
section
variable {i : TypeInfo} (hi : Tryz.prog.info? 30 = some i) (h1 : i.size = 1)
include hi h1
theorem run_append_zero (w0 : World) (ty : TypeId) (x : Addr) (c : Nat) :
  ∃ w', (Builtin.append_ #[70, 70] ty #[.slice (some ⟨w0.heap.size, 0, none⟩) 0 0, .slice (some x) 0 c]).run Tryz.prog (w0.alloc (.cells #[] 30)) = .ok (.slice (some ⟨w0.heap.size, 0, none⟩) 0 0) w' ∧ GR w' w0.heap.size w0.heap.size 0 0 [] [] ∧ Below w0.heap.size w0 w' := by
 obtain ⟨w, hw⟩ : ∃ w, w = w0.alloc (.cells #[] 30) := ⟨_, rfl⟩
 have hblk : w.heap[w0.heap.size]? = some (.cells #[] 30 (0, 0)) := by rw [hw]; exact heap_alloc_new w0 _
 have hA : Below w0.heap.size w0 w := hw ▸ (Below.refl _ _).alloc (Nat.le_refl _) _
 rw [← hw]
 have hr := run_append_room_cells (P := Tryz.prog) (w := w) 70 ty 30 i Tryz.underlying70 hi w0.heap.size 0 0 0 x 0 c [] (by simp) (fun j u hu => by simp at hu) (by simp) (by omega) (by simp) (by simp)
 have e : w.setCells w0.heap.size (0 + 0 * i.size) [] = w := rfl
 rw [e] at hr
 exact ⟨_, hr, GR.empty (cur := #[]) (Nat.le_refl _) hblk rfl (Nat.zero_le _) (by simp), hA⟩
end
theorem wpList_append_zero {i : TypeInfo} (hi : Tryz.prog.info? 30 = some i) (h1 : i.size = 1) (w0 : World) {ops : Array Oper} {rest : List Oper} {o : Oper} {a : Act} {Q : Exit → Act → World → Prop}
  (hg : o.guard = none) (s x : Operand) (hop : o.op = Op.call { callee := Callee.builtin Builtin.append, args := #[s, x], argTypes := #[70, 70] })
  (y : Addr) (c : Nat) (hs : a.eval s = .slice (some ⟨w0.heap.size, 0, none⟩) 0 0) (hx : a.eval x = .slice (some y) 0 c)
  (hK : ∀ w', GR w' w0.heap.size w0.heap.size 0 0 [] [] → Below w0.heap.size w0 w' → wpList Tryz.prog ops Q rest (a.put o.dst (.slice (some ⟨w0.heap.size, 0, none⟩) 0 0)) w') :
  wpList Tryz.prog ops Q (o :: rest) a (w0.alloc (.cells #[] 30)) := by
 refine wpList_plain hg fun K hK' => ?_
 obtain ⟨w', hrun, r1, r2⟩ := run_append_zero hi h1 w0 o.type y c
 unfold Oper.wp
 simp only [execOp, hop, resolve, invoke, builtin, Sem.run_bind, Sem.run_pure, Result.andThen_ok, List.map_toArray, List.map_cons, List.map_nil, hs, hx, hrun]
 exact hK' _ _ (hK w' r1 r2)
theorem g_clone_nil (w : World) : Calls Tryz.prog 94 #[.slice none 0 0] w fun e w' => e = .returned (.slice none 0 0) ∧ w' = w := by
 have hq := fun (W : World) => Lib.run_eql_slice_nil (P := Tryz.prog) W 70 30 none 0 0 0 0 Tryz.underlying70
 go_enter Tryz.func94, Tryz.ntmps94
 go_wp2_with fail
 go_ret
 exact ⟨rfl, rfl⟩
theorem g_clone_emp (w : World) (x : Addr) (c : Nat) : Calls Tryz.prog 94 #[.slice (some x) 0 c] w fun e w' => ∃ g c', e = .returned (.slice (some ⟨g, 0, none⟩) 0 c') ∧ GR w' w.heap.size g 0 c' [] [] ∧ Below w.heap.size w w' := by
 obtain ⟨i0, hi, hz0, hz1, hz2⟩ := info_parts info_rows
 have hq := fun (W : World) => Lib.run_eql_slice_nil (P := Tryz.prog) W 70 30 (some x) 0 c 0 0 Tryz.underlying70
 go_enter Tryz.func94, Tryz.ntmps94
 go_wp2_with (at_builtin; go_loud (refine wpList_append_zero hi hz1 w rfl _ _ rfl x c rfl rfl ?_); intro w1 hG hB; have HG := Lib.hid hG; have HB := Lib.hid hB; clear hG hB)
 go_ret
 exact ⟨_, _, rfl, HG.out, HB.out⟩
theorem g_stairs_nil (w : World) : Calls Tryz.prog 47 #[.slice none 0 0] w fun e w' => ∃ B, e = .returned (.pointer (some ⟨B, 0, none⟩)) ∧ BoxN w' B 74 #[.slice none 0 0, .slice none 0 0] ∧ Below w.heap.size w w' := by
 have k1 := Lib.hid (g_clone_nil w)
 have HBX := Lib.hid (BoxN.new w 74 #[.slice none 0 0, .slice none 0 0])
 have HAl := Lib.hid (show Below w.heap.size w (w.alloc (.cells #[.slice none 0 0, .slice none 0 0] 74)) from (Below.refl _ _).alloc (Nat.le_refl _) _)
 have k2 := Lib.hid (fun (W : World) => g_columns (GridR.none0 W none 0) (by omega))
 have y0 := HBX.out.cell 0 _ rfl
 go_enter Tryz.func47, Tryz.ntmps47
 go_wp2_with fail
 go_step3
 go_wp2_with fail
 refine k1.out.mono ?_
 rintro e w1 ⟨rfl, hw⟩
 subst hw
 go_wp2_with fail
 go_step3
 go_wp2_with fail
 refine (k2.out _).mono ?_
 rintro e w3 ⟨rfl, rfl⟩
 clear y0 k1 k2
 have e0 : cols [] = 0 := rfl
 rw [e0]
 go_wp2_with fail
 go_loopg [15] 0 (fun x s wr => x = 0 ∧ s = .int .i64 0 ∧ wr = w1.alloc (.cells #[.slice none 0 0, .slice none 0 0] 74))
 case atStart => exact ⟨rfl, rfl, rfl⟩
 case round =>
  obtain ⟨rfl, rfl, rfl⟩ := hrel
  go_wp2_with fail
  try unfold Exit.noGoto
  go_ret
  exact ⟨_, rfl, HBX.out, HAl.out⟩
theorem g_stairs_emp (w : World) (x : Addr) (c : Nat) : Calls Tryz.prog 47 #[.slice (some x) 0 c] w fun e w' => ∃ B g c', e = .returned (.pointer (some ⟨B, 0, none⟩)) ∧ BoxN w' B 74 #[.slice (some ⟨g, 0, none⟩) 0 c', .slice none 0 0] ∧ GR w' w.heap.size g 0 c' [] [] ∧ Below w.heap.size w w' := by
 have k1 := Lib.hid (g_clone_emp w x c)
 go_enter Tryz.func47, Tryz.ntmps47
 go_wp2_with fail
 go_step3
 go_wp2_with fail
 refine k1.out.mono ?_
 rintro e w1 ⟨g, c', rfl, hG, hb⟩
 have HBX := Lib.hid (BoxN.new w1 74 #[.slice (some ⟨g, 0, none⟩) 0 c', .slice none 0 0])
 have hA : Below w1.heap.size w1 (w1.alloc (.cells #[.slice (some ⟨g, 0, none⟩) 0 c', .slice none 0 0] 74)) := (Below.refl _ _).alloc (Nat.le_refl _) _
 have HAl := Lib.hid (then_below hb hA)
 have HG := Lib.hid (hG.below hA)
 have k2 := Lib.hid (fun (W : World) => g_columns (GridR.none0 W (some ⟨g, 0, none⟩) c') (by omega))
 have y0 := HBX.out.cell 0 _ rfl
 clear hG hb hA
 go_wp2_with fail
 go_step3
 go_wp2_with fail
 refine (k2.out _).mono ?_
 rintro e w3 ⟨rfl, rfl⟩
 clear y0 k1 k2
 have e0 : cols [] = 0 := rfl
 rw [e0]
 go_wp2_with fail
 go_loopg [15] 0 (fun x s wr => x = 0 ∧ s = .int .i64 0 ∧ wr = w1.alloc (.cells #[.slice (some ⟨g, 0, none⟩) 0 c', .slice none 0 0] 74))
 case atStart => exact ⟨rfl, rfl, rfl⟩
 case round =>
  obtain ⟨rfl, rfl, rfl⟩ := hrel
  go_wp2_with fail
  try unfold Exit.noGoto
  go_ret
  exact ⟨_, g, c', rfl, HBX.out, HG.out, HAl.out⟩
theorem grows_nil : grows [] := ⟨by simp, by simp⟩
theorem g_rank_nil (w : World) : Calls Tryz.prog 15 #[.slice none 0 0] w fun e w' => e = .returned (.tuple #[.int .i64 0, .int .i64 0]) ∧ Below w.heap.size w w' := by
 have k1 := Lib.hid (g_check true rfl (GridR.none0 w none 0) grows_nil)
 have k2 := Lib.hid (fun (W : World) => g_stairs_nil W)
 go_enter Tryz.func15, Tryz.ntmps15
 go_wp2_with fail
 refine k1.out.mono ?_
 rintro e w1 ⟨rfl, rr⟩
 have B1 := Lib.hid rr
 clear rr k1
 go_wp2_with fail
 refine (k2.out _).mono ?_
 rintro e w2 ⟨B, rfl, hB, rr⟩
 have y1 := hB.cell 1 _ rfl
 have B2 := Lib.hid (then_below B1.out rr)
 clear hB rr k2
 go_wp2_with fail
 go_ret2
 exact ⟨rfl, B2.out⟩
theorem g_beside_nil (w : World) (a2 : Option Addr) (c2 : Nat) : Calls Tryz.prog 49 #[.slice none 0 0, .slice a2 0 c2] w fun e w' => ∃ x c, e = .returned (.slice (some x) 0 c) ∧ Below w.heap.size w w' := by
 obtain ⟨i0, hi, hz0, hz1, hz2⟩ := info_parts info_rows
 have k0 : ((0 : Nat) : Int) = 0 := rfl
 go_enter Tryz.func49, Tryz.ntmps49
 go_wp2_with (at_make; go_loud (refine wpList_make_srow hi hz0 hz1 hz2 w rfl _ _ rfl w.heap.size .i64 .i64 0 rfl rfl (by omega) (Nat.le_refl _) ?_); intro w1 hG1 hgrow1; have HW1 := Lib.hid (show Below w.heap.size w w1 from (Below.refl _ _).grown hgrow1 (Nat.le_refl _) (fun _ e => by cases e)); clear hG1 hgrow1)
 go_loopg [5, 13] 0 (fun x t s wr => x = 0 ∧ t = .slice (some ⟨w.heap.size, 0, none⟩) 0 0 ∧ s = .int .i64 0 ∧ Hid (Below w.heap.size w wr))
 case atStart => exact ⟨rfl, rfl, rfl, HW1⟩
 case round =>
  obtain ⟨rfl, rfl, rfl, HW⟩ := hrel
  go_wp2_with fail
  go_ret
  exact ⟨_, _, rfl, HW.out⟩
theorem g_solve_nil {w : World} {a2 : Option Addr} {c2 : Nat} (hx : VReads w (.slice a2 0 c2) []) : Calls Tryz.prog 19 #[.slice none 0 0, .slice a2 0 c2] w fun e w' => ∃ va vc, e = .returned (.tuple #[.slice va 0 vc, .int .i64 0]) ∧ VReads w' (.slice va 0 vc) [] ∧ Below w.heap.size w w' := by
 have k1 := Lib.hid (g_check true rfl (GridR.none0 w none 0) grows_nil)
 have k2 := Lib.hid (fun (W : World) (r : Below w.heap.size w W) => v_check true rfl (hx.below r) ⟨by simp, by simp⟩)
 have k3 := Lib.hid (fun (W : World) => g_beside_nil W a2 c2)
 have k4 := Lib.hid (fun (W : World) (x : Addr) (c : Nat) => g_stairs_emp W x c)
 have k5 := Lib.hid (fun (W : World) => g_columns (GridR.none0 W none 0) (by omega))
 have k6 := Lib.hid (fun (W : World) => g_contains (w := W) (base := W.heap.size) (lc := 0) (la := none) (ld := []) (c := 0) (m := 0) ⟨World.ownsRow_nil _ _ _ 1, fun _ e => by cases e⟩ rfl (by omega) (by omega))
 clear hx
 go_enter Tryz.func19, Tryz.ntmps19
 go_wp2_with fail
 refine k1.out.mono ?_
 rintro e w1 ⟨rfl, rr⟩
 have B1 := Lib.hid rr
 clear rr k1
 go_wp2_with fail
 refine (k2.out _ B1.out).mono ?_
 rintro e w2 ⟨rfl, rr⟩
 have B2 := Lib.hid (then_below B1.out rr)
 clear rr k2 B1
 go_wp2_with fail
 refine (k3.out _).mono ?_
 rintro e w3 ⟨v, vc, rfl, rr⟩
 have B3 := Lib.hid (then_below B2.out rr)
 clear rr k3 B2
 go_wp2_with fail
 refine (k4.out _ _ _).mono ?_
 rintro e w4 ⟨B, g, c', rfl, hB, hG, rr⟩
 have B4 := Lib.hid (then_below B3.out rr)
 have HB := Lib.hid hB
 have HG := Lib.hid hG
 have y1 := hB.cell 1 _ rfl
 clear rr k4 B3 hB hG
 go_wp2_with fail
 refine (k5.out _).mono ?_
 rintro e w5 ⟨rfl, rfl⟩
 have e0 : cols [] = 0 := rfl
 rw [e0]
 clear k5
 go_wp2_with fail
 refine (k6.out _).mono ?_
 rintro e w6 ⟨rfl, rr⟩
 have B6 := Lib.hid (then_below B4.out rr)
 have HB6 := Lib.hid (HB.out.under rr)
 have HG6 := Lib.hid (HG.out.below rr)
 have z1 := HB6.out.cell 1 _ rfl
 clear rr k6 B4 HB HG y1
 have e1 : decide (0 ∈ ([] : List Nat)) = false := rfl
 rw [e1]
 have k7 := Lib.hid (g_solved (K := 0) HB6.out HG6.out (Nat.le_refl _) (by omega) (fun j hj => by omega))
 go_wp2_with fail
 refine k7.out.mono ?_
 rintro e w7 ⟨va, vd, rfl, hv, rr⟩
 have B7 := Lib.hid (then_below B6.out rr)
 have HV := Lib.hid hv
 clear rr hv
 go_wp2_with fail
 go_ret2
 exact ⟨va, vd, rfl, HV.out, B7.out⟩
section
variable {i : TypeInfo} (hi : Tryz.prog.info? 30 = some i) (hz : i.zero = some (.slice none 0 0)) (h1 : i.size = 1) (h2 : i.bytes = 24)
include hi hz h1 h2
theorem run_append_srow2 (w0 : World) (ty : TypeId) (base : Nat) (v u0 : Value) (vs : List Value) (R : List (List Rat)) (r : List Rat) (hu1 : noQ u0 = true) (hu2 : u0.oneCell' = true) (hur : VReads w0 u0 (r.map qr)) (hown : GA w0 base v vs R) (hb : base ≤ w0.heap.size) (hl : vs.length ≤ 100000) :
   ∃ v' w', (Builtin.append_ #[22, 22] ty #[v, .slice (some ⟨w0.heap.size, 0, none⟩) 1 1]).run Tryz.prog (w0.alloc (.cells #[u0] 30)) = .ok v' w' ∧ GA w' base v' (vs ++ [u0]) (R ++ [r]) ∧ (w0.alloc (.cells #[u0] 30)).grownBy w' v.ownBlock := by
 obtain ⟨w, hw⟩ : ∃ w, w = w0.alloc (.cells #[u0] 30) := ⟨_, rfl⟩
 have hV : GA w base v vs R := hw ▸ hown.below ((Below.refl _ _).alloc (Nat.le_refl _) _)
 have hsz : w.heap.size = w0.heap.size + 1 := by rw [hw, World.size_alloc]
 have hblk : w.heap[w0.heap.size]? = some (.cells #[u0] 30 (0, 0)) := by rw [hw]; exact heap_alloc_new w0 _
 have hnews : ∀ (j : Nat) (u : Value), [u0][j]? = some u → w.cell? ((⟨w0.heap.size, 0, none⟩ : Addr).add j) = some u := by
   intro j u hu
   rw [show (⟨w0.heap.size, 0, none⟩ : Addr).add j = ⟨w0.heap.size, j, none⟩ by rw [Addr.add_lit]; simp]
   unfold World.cell?
   rw [hblk]
   simpa using hu
 rw [← hw]
 obtain ⟨xs, hxs⟩ : ∃ xs, xs = vs := ⟨_, rfl⟩
 have hxl : xs.length = vs.length := by rw [hxs]
 have hxq : ∀ u ∈ xs, noQ u = true := by
   intro u hu
   rw [hxs] at hu
   exact hown.el u hu
 have hO : w.ownsRow base 30 1 v vs.length xs := by rw [hxs]; exact hV.own
 have hone : ∀ u ∈ [u0], u.oneCell' = true := by
   intro u hu
   obtain rfl := List.mem_singleton.1 hu
   exact hu2
 have hnq : ∀ u ∈ [u0], noQ u = true := by
   intro u hu
   obtain rfl := List.mem_singleton.1 hu
   exact hu1
 have hcl : ([u0]).length = 1 * i.size := by rw [h1]; rfl
 obtain ⟨v', w', hrun, ho, hg, hnil⟩ := run_append_own (P := Tryz.prog) w base 22 ty 30 i (.slice none 0 0) 1 24 Tryz.underlying22 hi hz h1 h2 rfl (by omega) v vs.length xs hO ⟨w0.heap.size, 0, none⟩ 1 1 [u0] rfl hnews hone (by unfold maxLen; omega) (by omega) (by omega)
 refine ⟨v', w', hrun, ⟨?_, ?_, ?_, ?_, ?_⟩, hg⟩
 · rw [List.length_append]; rw [hxs] at ho; exact ho
 rotate_left
 · rw [List.length_append, List.length_append, hown.len]; rfl
 · intro u hu
   rcases List.mem_append.1 hu with hu | hu
   · exact hown.el u hu
   · exact hnq u hu
 · intro k x y e1 e2
   by_cases hk : k < vs.length
   · rw [List.getElem?_append_left hk] at e1
     rw [List.getElem?_append_left (by rw [hown.len]; exact hk)] at e2
     exact (hV.rd k x y e1 e2).grownQ hg hV.q
   · have hk2 : k = vs.length := by have := (List.getElem?_eq_some_iff.1 e1).1; rw [List.length_append, List.length_singleton] at this; omega
     subst hk2
     rw [List.getElem?_append_right (Nat.le_refl _), Nat.sub_self] at e1
     rw [List.getElem?_append_right (by rw [hown.len]; exact Nat.le_refl _), hown.len, Nat.sub_self] at e2
     cases e1; cases e2
     exact (show VReads w u0 (r.map qr) from hw ▸ hur.below ((Below.refl _ _).alloc (Nat.le_refl _) _)).grownQ hg hV.q
 · rcases hO.2 with ⟨rfl, hn0⟩ | ⟨g, cap, cur, rfl, hbg, hgb, hnc, hcm, hcs, htake⟩
   · have hr := run_append_nil (P := Tryz.prog) w 22 ty 30 i (.slice none 0 0) Tryz.underlying22 hi hz ⟨w0.heap.size, 0, none⟩ 1 1 [u0] hcl hnews (by omega) (by omega) (by rw [h2]; omega)
     rw [hr] at hrun
     cases hrun
     intro g e
     obtain rfl : w.heap.size = g := by simpa [Value.ownBlock] using e
     refine ⟨_, _, heap_alloc_new w.drew _, fun u hu => ?_⟩
     simp only [Array.toList_append, List.mem_append] at hu
     rcases hu with hu | hu
     · exact hnq u hu
     · exact zero_noQ (z := .slice none 0 0) rfl rfl hu
   · obtain ⟨cur', e', hgb', h32⟩ := hV.q g rfl
     rw [hgb] at hgb'
     cases hgb'
     by_cases hroom : vs.length + 1 ≤ cap
     · have hr := run_append_room (P := Tryz.prog) w 22 ty 30 i Tryz.underlying22 hi g vs.length cap cur hgb ⟨w0.heap.size, 0, none⟩ 1 1 [u0] hcl hnews hone hroom (by rw [hcl, h1, hcs, ← Nat.add_mul]; exact Nat.mul_le_mul_right _ hroom)
       rw [hr] at hrun
       cases hrun
       intro g2 e
       obtain rfl : g = g2 := by simpa [Value.ownBlock] using e
       refine ⟨_, _, setRow_heap w g cur _ _ _ hgb, fun u hu => ?_⟩
       simp only [List.mem_append] at hu
       rcases hu with (hu | hu) | hu
       · exact h32 u (List.mem_of_mem_take hu)
       · exact hnq u hu
       · exact h32 u (List.mem_of_mem_drop hu)
     · have holds : ∀ (j : Nat) (u : Value), xs[j]? = some u → w.cell? ((⟨g, 0, none⟩ : Addr).add j) = some u := World.ownsRow.cells hO (g := g) rfl
       have hr := run_append_grow (P := Tryz.prog) w 22 ty 30 i (.slice none 0 0) Tryz.underlying22 hi hz ⟨g, 0, none⟩ vs.length cap xs (by rw [h1]; omega) holds ⟨w0.heap.size, 0, none⟩ 1 1 [u0] hcl hnews (by omega) (by omega) (growslice_fits (by omega) (by rw [h2]; omega))
       rw [hr] at hrun
       cases hrun
       intro g2 e
       obtain rfl : w.heap.size = g2 := by simpa [Value.ownBlock] using e
       refine ⟨_, _, heap_alloc_new w.drew _, fun u hu => ?_⟩
       simp only [Array.toList_append, List.mem_append] at hu
       rcases hu with (hu | hu) | hu
       · exact hxq u hu
       · exact hnq u hu
       · exact zero_noQ (z := .slice none 0 0) rfl rfl hu
end
theorem wpList_append_srow2 {i : TypeInfo} (hi : Tryz.prog.info? 30 = some i) (hz : i.zero = some (.slice none 0 0)) (h1 : i.size = 1) (h2 : i.bytes = 24) (w0 : World) {ops : Array Oper} {rest : List Oper} {o : Oper} {a : Act} {Q : Exit → Act → World → Prop}
  (hg : o.guard = none) (s x : Operand) (hop : o.op = Op.call { callee := Callee.builtin Builtin.append, args := #[s, x], argTypes := #[22, 22] })
  (base : Nat) (v u0 : Value) (vs : List Value) (R : List (List Rat)) (r : List Rat) (hu1 : noQ u0 = true) (hu2 : u0.oneCell' = true) (hur : VReads w0 u0 (r.map qr)) (hs : a.eval s = v) (hx : a.eval x = .slice (some ⟨w0.heap.size, 0, none⟩) 1 1) (hown : GA w0 base v vs R) (hb : base ≤ w0.heap.size) (hl : vs.length ≤ 100000)
  (hK : ∀ v' w', GA w' base v' (vs ++ [u0]) (R ++ [r]) → (w0.alloc (.cells #[u0] 30)).grownBy w' v.ownBlock → wpList Tryz.prog ops Q rest (a.put o.dst v') w') :
  wpList Tryz.prog ops Q (o :: rest) a (w0.alloc (.cells #[u0] 30)) := by
 refine wpList_plain hg fun K hK' => ?_
 obtain ⟨v', w', hrun, r1, r2⟩ := run_append_srow2 hi hz h1 h2 w0 o.type base v u0 vs R r hu1 hu2 hur hown hb hl
 unfold Oper.wp
 simp only [execOp, hop, resolve, invoke, builtin, Sem.run_bind, Sem.run_pure, Result.andThen_ok, List.map_toArray, List.map_cons, List.map_nil, hs, hx, hrun]
 exact hK' _ _ (hK v' w' r1 r2)
theorem v_zero_own {w : World} (n : Nat) (hn : n ≤ 65536) :
    Calls Tryz.prog 25 #[.int .i64 n] w fun e w' => ∃ a c ys, e = .returned (.slice a n c) ∧ ys.map (·.1) = (zeros n).map qr ∧ VF w' w.heap.size (.slice a n c) ys ∧ Below w.heap.size w w' := by
  obtain ⟨i0, hi, hz0, hz1, hz2⟩ := info_parts info_rat
  have k0 := fun (W : World) => r_of (w := W) (s := (qr 0).1) (L := (qr 0).2.1) (D := (qr 0).2.2) 0 (qr_can 0) (by omega) (by omega)
  have hzl : (zeros n).length = n := zeros_length n
  have hza : ∀ j, j < n → (zeros n).getD j 0 = 0 := fun j hj => zeros_at hj
  have HZ := Lib.hid hzl
  have HZA := Lib.hid hza
  generalize zeros n = zs at *
  clear hzl hza
  go_enter Tryz.func25, Tryz.ntmps25
  go_wp2_with ((at_make; go_loud (refine wpList_make_rat hi hz0 hz1 hz2 _ rfl _ _ rfl w.heap.size .i64 .i64 n rfl rfl (by omega) (by simp) ?_); intro w1 hV1 hgrow1))
  have hbel1 : Below w.heap.size w w1 := (Below.refl _ _).grown hgrow1 (Nat.le_refl _) (fun _ e => by cases e)
  have HB1 := Lib.hid hbel1
  have HV1 := Lib.hid hV1
  clear hbel1 hV1 hgrow1
  go_loopw [3, 13] (fun v i wr => ∃ (k : Nat) (ys : List Zr) (av : Option Addr) (cv : Nat), k ≤ n ∧ i = .int .i64 k ∧ v = .slice av k cv ∧ Hid (ys.map (·.1) = (zs.take k).map qr) ∧ Hid (VF wr w.heap.size (.slice av k cv) ys) ∧ Hid (Below w.heap.size w wr)) (fun _ i _ => n - (intOf i).toNat)
  case atStart => exact ⟨0, [], _, _, Nat.zero_le _, rfl, rfl, Lib.hid rfl, HV1, HB1⟩
  case round =>
    obtain ⟨k, ys, av, cv, hk, rfl, rfl, HM, HV, HB⟩ := hrel
    by_cases hlt : k < n
    · have hyl : ys.length = k := by
        have := congrArg List.length HM.out
        simp only [List.length_map, List.length_take] at this
        have := HZ.out; omega
      have HYL := Lib.hid hyl
      have HXX := Lib.hid (HZA.out k hlt)
      clear hyl
      go_wp2_with fail
      refine (k0 _).mono ?_
      rintro e w2 ⟨a3, c3, o3, r3, rfl, g, g', rr⟩
      have HB2 := Lib.hid (then_below HB.out rr)
      have HV2 := Lib.hid (HV.out.below rr)
      clear rr HB HV
      have hs2 : w.heap.size ≤ w2.heap.size := HB2.out.size
      go_wp2_with ((at_builtin; go_loud (refine wpList_append_rat hi hz0 hz1 hz2 w2 rfl _ _ rfl w.heap.size (.slice av k cv) ys (qr 0, (a3, c3), (o3, r3)) rfl rfl HV2.out ⟨g, g'⟩ hs2 (by have := HYL.out; omega) ?_); intro v' w3 hV3 hgrow; have hap := rat_append HV2.out hs2 hgrow; obtain ⟨av', cv', ev'⟩ := hV3.form; rw [List.length_append, List.length_singleton, HYL.out] at ev'; subst ev'; have HV3 := Lib.hid hV3; have HB3 := Lib.hid (HB2.out.trans hap.2.1); clear hV3 hap hgrow HV2 HB2))
      go_roundw
      case rel => exact ⟨k + 1, ys ++ [(qr 0, (a3, c3), (o3, r3))], av', cv', by omega, by simp, rfl, Lib.hid (take_qr (by have := HZ.out; omega) HM.out (by rw [HXX.out])), HV3, HB3⟩
      case measure => simp [intOf]; omega
    · obtain rfl : k = n := by omega
      clear HZA
      go_wp2
      go_ret
      have hm := HM.out
      rw [List.take_of_length_le (by have := HZ.out; omega)] at hm
      exact ⟨_, _, ys, rfl, hm, HV.out, HB.out⟩
theorem unit_fill {n i : Nat} {ys : List Zr} {z : Zr} (h : ys.map (·.1) = (zeros n).map qr) (hz : z.1 = qr 1) : (ys.set i z).map (·.1) = (unit n i).map qr := by
 rw [List.map_set, h, hz, unit, List.map_set]
theorem ones_take {n k : Nat} (h : k < n) : (ones n).take (k + 1) = (ones n).take k ++ [unit n k] := by
 rw [List.take_add_one, ones_at h]; rfl
theorem lones_all {w : World} {a1 : Option Addr} {n c1 : Nat} {xs : List Qr} (hx : VReads w (.slice a1 n c1) xs) (hn1 : n ≤ 70368744177664) (hxb : ∀ q ∈ xs, Big q) :
   Calls Tryz.prog 7 #[.slice a1 n c1] w fun e w' => e = .returned (.bool true) ∧ Below w.heap.size w w' := by
 have hxl := hx.addr.1
 have HX := Lib.hid (And.intro hx (And.intro hxb hxl))
 have ka := Lib.hid (fun (W : World) => gl_alive W)
 have ks := Lib.hid (fun (W : World) (r : Below w.heap.size w W) => ratsSize_any (hx.below r) hxb hn1)
 obtain ⟨s1, hs1⟩ : ∃ s, s = ssz n xs := ⟨_, rfl⟩
 rw [← hs1] at ks
 have HS := Lib.hid hs1
 clear hx hxb hxl hs1
 go_enter Tryz.func7, Tryz.ntmps7
 go_wp2_with fail
 refine (ka.out _).mono ?_
 rintro e w1 ⟨rfl, rr⟩
 have B1 := Lib.hid rr
 clear rr
 by_cases h8 : 8 < n
 · as_aux_lemma =>
   have i1 : (8 : Int) < (n : Int) := by omega
   have i1' : decide ((8 : Int) < (n : Int)) = true := decide_eq_true i1
   go_wp2_with fail
   refine (ka.out _).mono ?_
   rintro e wz ⟨rfl, rr⟩
   have BZ := Lib.hid (then_below B1.out rr)
   clear rr
   go_wp2_with fail
   go_ret
   exact ⟨rfl, BZ.out⟩
 have i1 : ¬ (8 : Int) < (n : Int) := by omega
 have i1' : decide ((8 : Int) < (n : Int)) = false := decide_eq_false i1
 go_wp2_with fail
 refine (ks.out _ B1.out).mono ?_
 rintro e w2 ⟨rfl, rr⟩
 have B2 := Lib.hid (then_below B1.out rr)
 clear rr B1 ks
 by_cases h200 : 200 < s1
 · as_aux_lemma =>
   have i2 : (200 : Int) < (s1 : Int) := by omega
   have i2' : decide ((200 : Int) < (s1 : Int)) = true := decide_eq_true i2
   go_wp2_with fail
   refine (ka.out _).mono ?_
   rintro e wz ⟨rfl, rr⟩
   have BZ := Lib.hid (then_below B2.out rr)
   clear rr
   go_wp2_with fail
   go_ret
   exact ⟨rfl, BZ.out⟩
 have i2 : ¬ (200 : Int) < (s1 : Int) := by omega
 have i2' : decide ((200 : Int) < (s1 : Int)) = false := decide_eq_false i2
 obtain ⟨hx, hxb, hxl⟩ := HX.out
 have hxg : rsize xs ≤ 200 := by unfold rsize; rw [← hxl, ← HS.out]; omega
 have hxq : qrows xs := qrows_small (M := 200) (by omega) hxb hxg
 have hX : xs.all qok = true → xs = (xs.map qval).map qr ∧ wts (xs.map qval) ≤ 200 := fun e => row_ok (by omega) hxb hxg e
 cases hC : xs.all qok with
 | false => as_aux_lemma =>
   have kc := Lib.hid (fun (W : World) (r : Below w.heap.size w W) => v_check false hC.symm (hx.below r) hxq)
   clear hX hC hxq hxg hxb hxl hx
   go_wp2_with fail
   refine (kc.out _ B2.out).mono ?_
   rintro e w3 ⟨rfl, rr⟩
   have B3 := Lib.hid (then_below B2.out rr)
   clear rr B2 kc
   go_wp2_with fail
   refine (ka.out _).mono ?_
   rintro e wz ⟨rfl, rr⟩
   have BZ := Lib.hid (then_below B3.out rr)
   clear rr
   go_wp2_with fail
   go_ret
   exact ⟨rfl, BZ.out⟩
 | true => as_aux_lemma =>
   obtain ⟨hx1, hx2⟩ := hX hC
   obtain ⟨X, hXe⟩ : ∃ X, X = xs.map qval := ⟨_, rfl⟩
   rw [← hXe] at hx1 hx2
   have hXl : X.length = n := by rw [hXe, List.length_map, hxl]
   have kc := Lib.hid (fun (W : World) (r : Below w.heap.size w W) => v_check true hC.symm (hx.below r) hxq)
   have HV := Lib.hid (show VReads w (.slice a1 n c1) (X.map qr) from hx1 ▸ hx)
   have HXL := Lib.hid (And.intro hXl hx2)
   clear hX hC hxq hxg hxb hxl hx hx1 hx2 hXe hXl HX
   go_wp2_with fail
   refine (kc.out _ B2.out).mono ?_
   rintro e w3 ⟨rfl, rr⟩
   have B3 := Lib.hid (then_below B2.out rr)
   clear rr B2 kc i1 i1' i2 i2' ka
   by_cases h0 : n = 0
   · as_aux_lemma =>
     subst h0
     have hXn : X = [] := List.eq_nil_of_length_eq_zero HXL.out.1
     subst hXn
     have hv := HV.out
     have kt := Lib.hid (fun (W : World) (r : Below w.heap.size w W) => g_times (R := []) (xs := []) (GridR.none0 W none 0) (hv.below r) (by omega) (by omega) (by simp) (by simp) (by show 0 ≤ 8900; omega))
     have kv := Lib.hid (fun (W : World) (r : Below w.heap.size w W) => g_solve_nil (hv.below r))
     have kr := Lib.hid (fun (W : World) => g_rank_nil W)
     have kq := Lib.hid (fun (W : World) (r : Below w.heap.size w W) {u : Option Addr} {d : Nat} (f1 : VReads W (.slice u 0 d) []) => v_same (xs := []) (ys := []) true (by simp) f1 (hv.below r) (by show 0 ≤ 9000; omega) (by show 0 ≤ 9000; omega))
     clear hv
     go_wp2_with fail
     go_loopg [3, 4] 0 (fun x l i wr => x = 0 ∧ l = .slice none 0 0 ∧ i = .int .i64 0 ∧ Hid (Below w.heap.size w wr))
     case atStart => exact ⟨rfl, rfl, rfl, B3⟩
     case round => as_aux_lemma =>
      clear B3
      obtain ⟨rfl, rfl, rfl, BR⟩ := hrel
      go_wp2_with fail
      refine (kt.out _ BR.out).mono ?_
      rintro e w4 ⟨va, rfl, hva, rr⟩
      have hvr := hva.reads
      obtain ⟨aa, ac, eva⟩ := hvr.form
      have eva2 : va = .slice aa 0 ac := eva
      subst eva2
      have B4 := Lib.hid (then_below BR.out rr)
      have VA := Lib.hid (show VReads w4 (.slice aa 0 ac) [] from hvr)
      clear rr BR kt hva hvr eva
      go_wp2_with fail
      refine (kv.out _ B4.out).mono ?_
      rintro e w5 ⟨ba, bc, rfl, hvb, rr⟩
      have B5 := Lib.hid (then_below B4.out rr)
      have VB := Lib.hid hvb
      have VA5 := Lib.hid (VA.out.below rr)
      clear rr B4 kv hvb VA
      go_wp2_with fail
      refine (kr.out _).mono ?_
      rintro e w6 ⟨rfl, rr⟩
      have B6 := Lib.hid (then_below B5.out rr)
      have VB6 := Lib.hid (VB.out.below rr)
      have VA6 := Lib.hid (VA5.out.below rr)
      clear rr B5 kr VB VA5
      go_wp2_with fail
      refine (kq.out _ B6.out VA6.out).mono ?_
      rintro e w7 ⟨rfl, rr⟩
      have B7 := Lib.hid (then_below B6.out rr)
      have VB7 := Lib.hid (VB6.out.below rr)
      clear rr B6 VB6 VA6
      go_wp2_with fail
      refine (kq.out _ B7.out VB7.out).mono ?_
      rintro e w8 ⟨rfl, rr⟩
      have B8 := Lib.hid (then_below B7.out rr)
      clear rr
      go_wp2_with fail
      go_ret
      exact ⟨rfl, B8.out⟩
   · as_aux_lemma =>
     have h0' : 0 < n := by omega
     clear h0
     obtain ⟨i0, hi, hz0, hz1, hz2⟩ := info_parts info_rows
     have HI := Lib.hid hi
     have kz := Lib.hid (fun (W : World) => v_zero_own (w := W) n (by omega))
     have ko := Lib.hid (fun (W : World) => show Calls Tryz.prog 26 #[.int .i64 1] W (RAns W (1 : Rat)) from r_of (s := (qr 1).1) (L := (qr 1).2.1) (D := (qr 1).2.2) 1 (qr_can 1) (by omega) (by omega))
     unfold RAns at ko
     obtain ⟨q, hq⟩ : ∃ q, q = qr (1 : Rat) := ⟨_, rfl⟩
     rw [← hq] at ko
     have HQ := Lib.hid hq
     have i3 : ((n : Int) != (n : Int)) = false := by simp
     clear hi hq
     go_wp2_with fail
     go_loopg [3, 4] n (fun x l i wr => ∃ (k : Nat) (la : Option Addr) (lc : Nat) (vs : List Value), k + x = n ∧ l = .slice la k lc ∧ i = .int .i64 (k : Int) ∧ Hid (vs.length = k) ∧ Hid (GA wr w.heap.size (.slice la k lc) vs ((ones n).take k)) ∧ Hid (Below w.heap.size w wr))
     case atStart => exact ⟨0, none, 0, [], by omega, rfl, rfl, Lib.hid rfl, Lib.hid ⟨World.ownsRow_nil _ _ _ 1, fun _ e => (by cases e), rfl, (by simp), (by simp)⟩, B3⟩
     case round => as_aux_lemma =>
      clear B3
      obtain ⟨k, la, lc, vs, hk, rfl, rfl, HL, HG, BR⟩ := hrel
      by_cases hlt : k < n
      · as_aux_lemma =>
        have n0 : (0 : Int) ≤ (k : Int) := by omega
        have l0 : (k : Int) < (n : Int) := by omega
        have w0 : IntKind.i64.wrap ((k : Int) + 1) = ((k + 1 : Nat) : Int) := IntWalk.i64_in _ (by omega)
        go_wp2_with fail
        refine (kz.out _).mono ?_
        rintro e w4 ⟨ra, rc, ys, rfl, hys, hvf, rr⟩
        have hyl : ys.length = n := by have := congrArg List.length hys; rw [List.length_map, List.length_map, zeros_length] at this; exact this
        obtain ⟨g, ega⟩ : ∃ g, ra = some ⟨g, 0, none⟩ := by
         rcases hvf.1.1.2 with ⟨e, h⟩ | ⟨g, cap, cur, e, _⟩
         · omega
         · cases e; exact ⟨g, rfl⟩
        subst ega
        have hge : wr.heap.size ≤ g := (hvf.lt (g := g) rfl).1
        have B4 := Lib.hid rr
        have VF4 := Lib.hid hvf
        have YS := Lib.hid (And.intro hys hyl)
        clear rr kz hys hvf hyl
        go_wp2_with fail
        refine (ko.out _).mono ?_
        rintro e w5 ⟨oa, oc, ob, od, rfl, f1, f2, rr⟩
        have hvf5 := VF4.out.below rr
        obtain ⟨zz, -, y0, y1, y2, g0, g1, g2⟩ := hvf5.at YS.out.2 hlt
        have B5 := Lib.hid (then_below B4.out rr)
        have hp := hvf5.put' YS.out.2 hlt (q, (oa, oc), (ob, od)) ⟨f1, f2⟩
        dsimp only at hp
        have hb := ((B5.out.setCell (p := ⟨g, k * 3, none⟩) hge (.bool q.1)).setCell (p := ⟨g, k * 3 + 1, none⟩) hge (.slice oa q.2.1.length oc)).setCell (p := ⟨g, k * 3 + 2, none⟩) hge (.slice ob q.2.2.length od)
        obtain ⟨w6, hw6⟩ : ∃ W, W = ((w5.setCell ⟨g, k * 3, none⟩ (.bool q.1)).setCell ⟨g, k * 3 + 1, none⟩ (.slice oa q.2.1.length oc)).setCell ⟨g, k * 3 + 2, none⟩ (.slice ob q.2.2.length od) := ⟨_, rfl⟩
        rw [← hw6] at hp hb
        have hur := hp.fresh.reads
        rw [unit_fill YS.out.1 (show (q, (oa, oc), (ob, od)).1 = qr 1 from HQ.out)] at hur
        have HUR := Lib.hid hur
        have B6 := Lib.hid hb
        have HW6 := Lib.hid hw6
        have HS6 := Lib.hid (show w5.heap.size = w6.heap.size from by rw [hw6]; simp)
        have HGE := Lib.hid hge
        clear rr ko f1 f2 hvf5 hp hb hw6 hur B4 VF4 hge
        have hs6 : w.heap.size ≤ w6.heap.size := Nat.le_trans BR.out.size B6.out.size
        have G6 := Lib.hid (HG.out.below B6.out)
        have BR6 := Lib.hid (then_below BR.out B6.out)
        go_wp2_with (first
         | (at_builtin; rw [← HW6.out]; go_loud (refine wpList_append_srow2 HI.out hz0 hz1 hz2 w6 rfl _ _ rfl w.heap.size (.slice la k lc) (.slice (some ⟨g, 0, none⟩) n rc) vs _ (unit n k) rfl rfl HUR.out (by first | rfl | (rw [HL.out])) (by first | rfl | (rw [← HS6.out]; rfl)) G6.out hs6 (by have := HL.out; omega) ?_); intro v' w8 hG8 hg8; obtain ⟨va, vc, rfl⟩ := own_form hG8.own; have HG8 := Lib.hid hG8; have HW8 := Lib.hid (show Below w.heap.size w w8 from (BR6.out.alloc hs6 (.cells #[.slice (some ⟨g, 0, none⟩) n rc] 30)).grown hg8 (by simp; omega) (fun j ej => (G6.out.own.lt j ej).1)); clear hG8 hg8)
         | fail)
        go_roundg (n - (k + 1))
        case measure => omega
        case rel => exact ⟨k + 1, va, vc, vs ++ [.slice (some ⟨g, 0, none⟩) n rc], by omega, by first | rfl | simp [HL.out], by first | rfl | simp, Lib.hid (by rw [List.length_append, HL.out]; rfl), Lib.hid (by have := HG8.out; rw [List.length_append, HL.out] at this; rw [ones_take hlt]; exact this), HW8⟩
      · as_aux_lemma =>
        obtain rfl : k = n := by omega
        have l0 : ¬ (k : Int) < (k : Int) := by omega
        have hgr := HG.out.reads
        rw [List.take_of_length_le (by rw [ones_len]; exact Nat.le_refl _)] at hgr
        have hv := HV.out
        obtain ⟨hXl, hXw⟩ := HXL.out
        have hw1 : ∀ r ∈ ones k, wts r ≤ k := fun r hr => by obtain ⟨i, _, rfl⟩ := List.mem_map.1 hr; exact wts_unit k i
        have kt := Lib.hid (g_times hgr (hv.below BR.out) (by omega) (by omega) (fun r hr => by rw [ones_all k r hr, hXl]) (fun r hr => by have := hw1 r hr; omega) (by omega))
        have kv := Lib.hid (fun (W : World) (r : Below wr.heap.size wr W) => g_solve (hgr.below r) ((hv.below BR.out).below r) h0' (by omega) (ones_all k) (by omega) (fun x hx => by have := wt_mem hx; omega) (fun r hr x hx => by have := hw1 r hr; have := wt_mem hx; omega) (bo_fine hXl (by omega) (by omega)) (besd (ones k) X) (List.range k) (bo_end hXl) (fun _ _ => ⟨List.length_range, Nat.le_refl _, bo_steep hXl (by omega) (by omega)⟩))
        have kr := Lib.hid (fun (W : World) (r : Below wr.heap.size wr W) => g_rank (hgr.below r) h0' (by omega) (ones_all k) (by omega) (on_fine (n := k) (by omega)))
        rw [on_stp k (Nat.le_refl _), List.length_range] at kr
        have kq := Lib.hid (fun (W : World) (r : Below w.heap.size w W) {u : Option Addr} {d : Nat} (f1 : VReads W (.slice u k d) (X.map qr)) => v_same true (by simp) f1 (hv.below r) (by omega) (by omega))
        have hsol : sol (besd (ones k) X) k k = X := by rw [bo_sol hXl k (Nat.le_refl _), Nat.sub_self]; rfl
        have htim : ((ones k).map fun r => dot r X) = X := times_ones hXl
        rw [htim] at kt
        rw [hsol] at kv
        have HK := Lib.hid hXl
        have i4 : ((k : Int) == (k : Int)) = true := by simp
        clear hgr hv hXl hXw hw1 hsol htim kz ko HG i3
        go_wp2_with fail
        refine kt.out.mono ?_
        rintro e w4 ⟨va, rfl, hva, rr⟩
        have hvr := hva.reads
        obtain ⟨aa, ac, eva⟩ := hvr.form
        rw [List.length_map, HK.out] at eva
        subst eva
        have B4 := Lib.hid rr
        have VA := Lib.hid hvr
        clear rr kt hva hvr
        go_wp2_with fail
        refine (kv.out _ B4.out).mono ?_
        rintro e w5 ⟨ba, bn, bc, er, rfl, rr, ho⟩
        obtain ⟨rfl, rfl, hvb⟩ : er = 0 ∧ bn = k ∧ VReads w5 (.slice ba k bc) (X.map qr) := by
         rcases ho with ⟨h, _⟩ | ⟨_, h, _⟩ | ⟨_, _, h1, h2, h3⟩
         · exact absurd (List.mem_range.1 h) (by omega)
         · rw [List.length_range] at h; omega
         · exact ⟨h1, h2, h3⟩
        have B5 := Lib.hid (then_below B4.out rr)
        have VB := Lib.hid hvb
        have VA5 := Lib.hid (VA.out.below rr)
        clear rr B4 kv hvb VA ho
        go_wp2_with fail
        refine (kr.out _ B5.out).mono ?_
        rintro e w6 ⟨rfl, rr⟩
        have B6 := Lib.hid (then_below BR.out (then_below B5.out rr))
        have VB6 := Lib.hid (VB.out.below rr)
        have VA6 := Lib.hid (VA5.out.below rr)
        clear rr B5 kr VB VA5
        go_wp2_with fail
        refine (kq.out _ B6.out VA6.out).mono ?_
        rintro e w7 ⟨rfl, rr⟩
        have B7 := Lib.hid (then_below B6.out rr)
        have VB7 := Lib.hid (VB6.out.below rr)
        clear rr B6 VB6 VA6
        go_wp2_with fail
        refine (kq.out _ B7.out VB7.out).mono ?_
        rintro e w8 ⟨rfl, rr⟩
        have B8 := Lib.hid (then_below B7.out rr)
        clear rr
        go_wp2_with fail
        go_ret
        exact ⟨rfl, B8.out⟩
end Go.Proofs.YtgmbaamfobhceaaGreat
