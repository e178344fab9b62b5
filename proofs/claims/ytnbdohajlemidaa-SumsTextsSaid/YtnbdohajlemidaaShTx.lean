/- Sums: the law on the text of 32 bytes. -/
import Derived.Test.YtnbdohajlemidaaShRt
import Derived.ChangeArms
import Derived.OpenShut
namespace Go.Proofs.Ytnbdohajlemidaa
open Go Go.Proofs Go.RowKit Go.Shelf

attribute [local go_sem] Oper.semAt_some
set_option maxRecDepth 100000
set_option linter.unusedSimpArgs false
/-- what comes in: 32 bytes -/
theorem open_sum' {H : Type} {enc : TypeId × Value → H} {W : World} {base : Nat} {v : Value} {d : DataW H} {p : List MemPlace} (ho : Value.okWide Try.prog W .any base 22 v) (h : DataW.Trod enc Try.prog W 0 (fun _ => true) true 22 v d p) :
    ∃ l : List UInt8, l.length = 32 ∧ v = .agg (l.map bv).toArray := by
  simp only [Value.okWide, Try.underlying22] at ho
  obtain ⟨cs, rfl, hsz, _⟩ := ho
  obtain ⟨cl⟩ := cs
  have hlen : cl.length = 32 := hsz.trans (show Try.prog.cellsOf 22 = 32 by kernel_rfl)
  obtain ⟨fuel, hf⟩ := h
  obtain ⟨xs, n, _, _, _, hxl, hg⟩ := DataW.trod_array Try.underlying22 hf
  have hc : ∀ i, i < 32 → ∃ c : UInt8, cl[i]? = some (bv c) := by
    intro i hi
    have e0 := hg i hi
    rw [show Try.prog.cellsOf 5 = 1 by kernel_rfl, Nat.mul_one, List.getElem?_eq_getElem (by omega)] at e0
    obtain ⟨x, hx, _, wx⟩ := DataW.trod_int Try.underlying5 e0
    simp [Lit.wf, IntKind.min, IntKind.max, IntKind.signed, IntKind.bits] at wx
    have h1 : cl[i]? = some (.int .u8 x) := by
      have := congrArg (·[0]?) hx
      simpa [Value.cells, List.getElem?_take, List.getElem?_drop] using this
    refine ⟨UInt8.ofNat x.toNat, ?_⟩
    rw [h1]
    unfold bv ib
    rw [UInt8.toNat_ofNat']
    congr 2
    omega
  refine ⟨(List.range 32).map fun i => Classical.epsilon fun c : UInt8 => cl[i]? = some (bv c), by simp, ?_⟩
  congr 2
  apply List.ext_getElem?
  intro i
  by_cases hi : i < 32
  · obtain ⟨c, hcc⟩ := hc i hi
    have hex : ∃ c : UInt8, cl[i]? = some (bv c) := ⟨c, hcc⟩
    rw [List.getElem?_map, List.getElem?_map, List.getElem?_range hi]
    exact Classical.epsilon_spec hex
  · rw [List.getElem?_eq_none (by omega), List.getElem?_eq_none (by simp; omega)]
theorem wpOp_intro' {P : Program} {ops : Array Oper} {Q : Exit → Act → World → Prop} {i : Nat} {o : Oper} {K : Act → World → Prop} {a : Act} {w : World} (ho : ops[i]? = some o)
    (h : ∀ K' : Act → World → Prop, (∀ a w, K a w → K' a w) → if Region.wanted o (yielded ops a.tmps) then o.wp P a w K' Q else K' (a.put o.dst undef) w) : wpOp P ops Q i K a w := by
  have := h K (fun _ _ h => h)
  unfold wpOp
  simp only [ho]
  split
  · rename_i hw; simp only [hw, if_true] at this; exact .inl this
  · rename_i hw; simp only [hw] at this; exact this
set_option maxHeartbeats 4000000 in
theorem texts_all (l : List UInt8) (hl : l.length = 32) (w : World) :
    Calls Try.prog 3 #[.agg (l.map bv).toArray] w fun e w' => e = .returned (.bool true) ∧ Below w.heap.size w w' := by
  obtain ⟨CS, hCS⟩ : ∃ C, C = l.map bv := ⟨_, rfl⟩
  obtain ⟨T, hT⟩ : ∃ T : ByteArray, T = ⟨(Sh.hex l).toArray⟩ := ⟨_, rfl⟩
  have K1 := Lib.hid (show ∀ W, Below w.heap.size w W → w.heap.size < W.heap.size → Calls Try.prog 4 #[.agg CS.toArray] W fun e w' => e = .returned (.string T) ∧ Below w.heap.size w w' ∧ W.heap.size ≤ w'.heap.size ∧ ∀ l, W.rangeAt w.heap.size 0 l → w'.rangeAt w.heap.size 0 l by
    intro W hW hlt; rw [hCS, hT]
    exact (text_any l hl W).mono fun _ _ h => ⟨h.1, hW.trans (h.2.mono hW.size), h.2.size, fun l hr j v hv => (h.2.cell (p := ⟨w.heap.size, 0 + j, none⟩) hlt).trans (hr j v hv)⟩)
  have K2 := Lib.hid (show ∀ W, Below w.heap.size w W → w.heap.size < W.heap.size → Calls Try.prog 5 #[.agg CS.toArray] W fun e w' => e = .returned (.string T) ∧ Below w.heap.size w w' ∧ W.heap.size ≤ w'.heap.size ∧ ∀ l, W.rangeAt w.heap.size 0 l → w'.rangeAt w.heap.size 0 l by
    intro W hW hlt; rw [hCS, hT]
    exact (rtext_any l hl W).mono fun _ _ h => ⟨h.1, hW.trans (h.2.mono hW.size), h.2.size, fun l hr j v hv => (h.2.cell (p := ⟨w.heap.size, 0 + j, none⟩) hlt).trans (hr j v hv)⟩)
  have p1 := Try.underlying22
  have p2 : (Try.prog.info? 22).map (·.size) = some CS.length := by rw [hCS, List.length_map, hl]; exact info_s
  have p3 : CS.length = 32 := by rw [hCS, List.length_map, hl]
  have R0 := Lib.hid (show ((w.alloc (.cells CS.toArray 22)).drew).rangeAt w.heap.size 0 CS from (Row.new w 22 CS).range)
  have B0 := Lib.hid (show Below w.heap.size w (w.alloc (.cells CS.toArray 22)).drew ∧ w.heap.size < (w.alloc (.cells CS.toArray 22)).drew.heap.size from ⟨((Below.refl _ _).alloc (Nat.le_refl _) _).drew, by show _ < (w.alloc (.cells CS.toArray 22)).heap.size; simp⟩)
  rw [← hCS]
  clear hCS hT hl
  go_enter Try.func3, Try.ntmps3
  go_wp2
  refine wp_region_held_drew (S := fun W => W.rangeAt w.heap.size 0 CS) (by kernel_rfl) R0.out (fun hHeld => ?_)
  refine wpAnyH_take (i := 0) (v := .agg CS.toArray) rfl (by kernel_rfl) (by kernel_rfl) (by kernel_rfl) (fun _ _ _ h => h) (yieldsIf_load_mid (by rfl) _ _ rfl _ _ rfl _ _ (fun _ h => h) p1 rfl p2) hHeld ?_
  simp only [List.getElem_toArray, List.getElem_cons_succ, List.getElem_cons_zero, Act.put, List.setIfInBounds_toArray, List.set_cons_zero, List.set_cons_succ]
  refine wpAnyH_take (i := 2) (v := .agg CS.toArray) rfl (by kernel_rfl) (by kernel_rfl) (by kernel_rfl) (fun _ _ _ h => h) (yieldsIf_load_mid (by rfl) _ _ rfl _ _ rfl _ _ (fun _ h => h) p1 rfl p2) hHeld ?_
  simp only [List.getElem_toArray, List.getElem_cons_succ, List.getElem_cons_zero, Act.put, List.setIfInBounds_toArray, List.set_cons_zero, List.set_cons_succ]
  refine wpAnyH_all (rs := [1]) (by kernel_rfl) (by simp) ?_
  intro i hi
  obtain rfl : i = 1 := by simpa using hi
  refine wpOp_intro' rfl (fun K hK => ?_)
  clear hi
  go_simp
  refine (K1.out _ B0.out.1 B0.out.2).mono ?_
  rintro e w1 ⟨rfl, hx, hy, hz⟩
  have R1 := hz CS R0.out
  have B1 := Lib.hid (show Below w.heap.size w w1 ∧ w.heap.size < w1.heap.size from ⟨hx, Nat.lt_of_lt_of_le B0.out.2 hy⟩)
  refine hK _ _ ⟨R1, ?_⟩
  clear hK K hx hy hz hHeld
  refine wpAnyH_all (rs := [3]) (by kernel_rfl) (by simp) ?_
  intro i hi
  obtain rfl : i = 3 := by simpa using hi
  refine wpOp_intro' rfl (fun K hK => ?_)
  clear hi
  go_simp
  refine (K2.out _ B1.out.1 B1.out.2).mono ?_
  rintro e w2 ⟨rfl, hx, hy, hz⟩
  have R2 := hz CS R1
  have B2 := Lib.hid hx
  refine hK _ _ ⟨R2, ?_⟩
  clear hK K hx hy hz R1
  have hTT : (T.toList == T.toList) = true := beq_self_eq_true _
  refine wpAnyH_take (i := 4) (v := .bool true) rfl (by kernel_rfl) (by kernel_rfl) (by kernel_rfl) (fun _ _ _ h => h) (Or.inl ⟨by rfl, fun W3 hS => by go_simp⟩) R2 ?_
  simp only [List.getElem_toArray, List.getElem_cons_succ, List.getElem_cons_zero, Act.put, List.setIfInBounds_toArray, List.set_cons_zero, List.set_cons_succ]
  refine wpAnyH_take (i := 5) (v := .bool true) rfl (by kernel_rfl) (by kernel_rfl) (by kernel_rfl) (fun _ _ _ h => h) (Or.inl ⟨by rfl, fun W3 hS => by go_simp⟩) R2 ?_
  simp only [List.getElem_toArray, List.getElem_cons_succ, List.getElem_cons_zero, Act.put, List.setIfInBounds_toArray, List.set_cons_zero, List.set_cons_succ]
  refine wpAnyH_done (by kernel_rfl) ?_ _
  go_wp2
  go_ret
  exact ⟨rfl, B2.out⟩
end Go.Proofs.Ytnbdohajlemidaa
