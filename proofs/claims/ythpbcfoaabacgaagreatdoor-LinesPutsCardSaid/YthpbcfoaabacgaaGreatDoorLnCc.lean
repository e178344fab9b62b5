/- Lines: the program's reader: what is kept is cleared, and grows. -/
import Derived.Test.YthpbcfoaabacgaaGreatDoorLnCb
namespace Go.Proofs.YthpbcfoaabacgaaGreatDoor
open Go Go.Proofs Go.RowKit Go.Shelf
set_option linter.unusedVariables false
set_option linter.unusedSimpArgs false
set_option linter.unnecessarySimpa false

attribute [local go_sem] Oper.semAt_some
set_option maxRecDepth 100000
theorem zero_u8L : ∀ w, (zeroValue 5).run Tryz.prog w = .ok (.int .u8 0) w := Tryz.zeroValue5
theorem set_block {g : Nat} {t : TypeId} : ∀ (vs : List Value) (o : Nat) (W : World) (cs : Array Value), W.heap[g]? = some (.cells cs t (0, 0)) →
    ∃ cs', (W.setCells g o vs).heap[g]? = some (.cells cs' t (0, 0)) ∧ cs'.size = cs.size ∧ W.grownBy (W.setCells g o vs) (some g)
  | [], _, W, cs, h => ⟨cs, h, rfl, World.grownBy.refl _ _⟩
  | v :: r, o, W, cs, h => by
    obtain ⟨cs', h1, h2, h3⟩ := set_block r (o + 1) _ _ (Go.heap_setCell_same W g o cs t v h)
    refine ⟨cs', h1, by rw [h2]; simp, ?_⟩
    have h4 := kp_set W g o v
    exact ⟨h3.os.trans h4.os, h3.tape.trans h4.tape, h3.output.trans h4.output, Nat.le_trans h4.size h3.size, fun k hk hn => (h3.block k (Nat.lt_of_lt_of_le hk h4.size) hn).trans (h4.block k hk hn)⟩
/-- what is kept, cleared -/
theorem clear_own {W : World} {base n c : Nat} {a : Option Addr} {xs : List Value} (h : W.ownsRow base 5 1 (.slice a n c) n xs) :
    ∃ W2, (∀ ty, (Builtin.clear_ #[42] ty #[.slice a n c]).run Tryz.prog W = .ok (.tuple #[]) W2) ∧ W.grownBy W2 (Value.slice a n c).ownBlock ∧ W2.ownsRow base 5 1 (.slice a 0 c) 0 [] := by
  have h0 := h
  rcases h.2 with ⟨e, rfl⟩ | ⟨g, cap, cur, e, hb, hg, hn, hcm, hsz, _⟩
  · cases e
    exact ⟨W, fun ty => by simp [Builtin.clear_, run_underlying Tryz.underlying42], World.grownBy.refl _ _, World.ownsRow_nil W base _ 1⟩
  · cases e
    by_cases hn0 : n = 0
    · subst hn0
      exact ⟨W, fun ty => by simp [Builtin.clear_, run_underlying Tryz.underlying42], World.grownBy.refl _ _, by simp, .inr ⟨g, c, cur, rfl, hb, hg, Nat.zero_le _, hcm, hsz, by simp⟩⟩
    · obtain ⟨cs', k1, k2, k3⟩ := set_block (List.replicate n (Value.int .u8 0)) 0 W cur hg
      refine ⟨_, fun ty => Lib.run_clear_slice W _ 5 ty (.int .u8 0) Tryz.underlying42 zero_u8L rfl rfl g 0 n c (by omega) (fun j hj => ?_) (fun j hj => ?_), k3, by simp, .inr ⟨g, c, cs', rfl, hb, k1, Nat.zero_le _, hcm, by rw [k2]; exact hsz, by simp⟩⟩
      · rw [Nat.zero_add, World.ownsRow.cellAt h0 j (by omega), List.getElem?_eq_getElem (by rw [h0.1]; omega)]
        rfl
      · rw [Nat.zero_add]; exact World.ownsRow.frozenAt h0 j
theorem Chg.of {W W2 W3 : World} {P : Nat} {kb kb' : Value} (h2 : W.grownBy W2 kb.ownBlock) (h3 : W2.grownBy W3 (some P)) (ho : ∀ g, kb'.ownBlock = some g → kb.ownBlock = some g ∨ W.heap.size ≤ g) : Chg W W3 P kb kb' :=
  ⟨h3.os.trans h2.os, h3.tape.trans h2.tape, h3.output.trans h2.output, Nat.le_trans h2.size h3.size, fun b hb h1 h4 => (h3.block b (Nat.lt_of_lt_of_le hb h2.size) (by simpa using h1)).trans (h2.block b hb (fun e => h4 e.symm)), ho⟩
theorem lrow_kept {base e size n : Nat} {W W' : World} {v : Value} {xs : List Value} {row : Option Nat} (h : W.ownsRow base e size v n xs) (hg : W.grownBy W' row) (hn : ∀ g, v.ownBlock = some g → row = some g → False) : W'.ownsRow base e size v n xs := by
  refine World.ownsRow.kept h hg ?_
  cases hv : v.ownBlock with
  | none => exact .inl rfl
  | some g => exact .inr (fun e => hn g hv e.symm)
/-- the reader, with another slice in its box -/
theorem PR.store {W W2 : World} {P base : Nat} {kb kb' : Value} {cur cur' : List UInt8} (h : PR W P base kb cur) (hg : W.grownBy W2 kb.ownBlock) (ho : W2.ownsRow base 5 1 kb' (cur'.take 70002).length (bcells (cur'.take 70002)))
    (hb : ∀ g, kb'.ownBlock = some g → kb.ownBlock = some g ∨ W.heap.size ≤ g) : W2.cell? ⟨P, 1, none⟩ = some kb ∧ W2.frozen? ⟨P, 1, none⟩ = false ∧ PR (W2.setCell ⟨P, 1, none⟩ kb') P base kb' cur' ∧ Chg W (W2.setCell ⟨P, 1, none⟩ kb') P kb kb' := by
  have hbox : W2.heap[P]? = some (.cells #[.bool true, kb] 56 (0, 0)) := (hg.block P h.lt (fun e => h.ne e.symm)).trans h.box
  have hne : kb'.ownBlock ≠ some P := fun e => by
    rcases hb P e with h1 | h1
    · exact h.ne h1
    · have := h.lt; omega
  refine ⟨by rw [cell_of_row W2 P 1 _ _ _ hbox]; rfl, frozen_of_row W2 P 1 _ _ hbox, ⟨?_, lrow_kept ho (kp_set W2 P 1 kb') (fun g e e2 => hne (by rw [e, e2])), hne⟩, Chg.of hg (kp_set W2 P 1 kb') hb⟩
  exact Go.heap_setCell_same W2 P 1 _ _ kb' hbox
set_option maxHeartbeats 4000000 in
theorem pforget_any {W : World} {P base : Nat} {kb : Value} {cur : List UInt8} (h : PR W P base kb cur) :
    Calls Tryz.prog 20 #[.pointer (some ⟨P, 0, none⟩)] W fun e w' => ∃ kb', e = .returned (.tuple #[]) ∧ PR w' P base kb' [] ∧ Chg W w' P kb kb' := by
  have hP := h.lt
  have c1 := h.c1
  have f1 := h.f1
  have hrow := h.row
  obtain ⟨K, hK⟩ : ∃ K, K = (cur.take 70002).length := ⟨_, rfl⟩
  rw [← hK] at hrow
  obtain ⟨a, c, rfl⟩ := lform_row hrow
  obtain ⟨W2, hcl, hg, ho⟩ := clear_own hrow
  obtain ⟨c2, f2, hR, hC⟩ := h.store (kb' := .slice a 0 c) (cur' := []) hg ho (fun g e => .inl (by
    cases a with
    | none => cases e
    | some x => exact e))
  have hP2 : P < W2.heap.size := Nat.lt_of_lt_of_le hP hg.size
  have hKc : (0 : Int) ≤ (c : Int) := by omega
  have HR := Lib.hid hR
  have HC := Lib.hid hC
  clear hrow hg ho h hK hR hC
  go_enter Tryz.func20, Tryz.ntmps20
  go_wp2
  refine bodyPost_end (results_none rfl _ _ _) rfl ?_
  exact ⟨_, rfl, HR.out, HC.out⟩
/-- append, of whatever is read -/
theorem spread_any {P : Program} {w : World} (base : Nat) (t ty e : TypeId) (i : TypeInfo) (z : Value) (bytes : Nat) (ht : P.underlying t = some (.slice e)) (hi : P.info? e = some i) (hz : i.zero = some z)
    (hsize : i.size = 1) (hby : i.bytes = bytes) (hzs : z.cells.size = 1) {v : Value} {n : Nat} {xs : List Value} (hown : w.ownsRow base e 1 v n xs)
    {u : Value} {m : Nat} {ys : List Value} (hu : RdC w u m ys) (hy : ys.length = m) (h1 : ∀ y ∈ ys, y.oneCell' = true) (h63 : n + m ≤ maxLen) (hbytes : (n + m) * bytes ≤ 140737488355328) (hbase : base ≤ w.heap.size) :
    ∃ v' w', (Builtin.append_ #[t, t] ty #[v, u]).run P w = .ok v' w' ∧ w'.ownsRow base e 1 v' (n + m) (xs ++ ys) ∧
      ((v'.ownBlock = v.ownBlock ∧ w.grownBy w' v.ownBlock) ∨ (v'.ownBlock = some w.heap.size ∧ w.grownBy w' none)) := by
  obtain ⟨a, c, rfl, hmc, hu⟩ := hu
  cases a with
  | none =>
    have hm : m = 0 := by
      rcases Nat.eq_zero_or_pos m with h | h
      · exact h
      · obtain ⟨_, _, e, _⟩ := hu h; cases e
    subst hm
    obtain rfl : ys = [] := List.eq_nil_of_length_eq_zero hy
    have hr : (Builtin.append_ #[t, t] ty #[v, .slice none 0 c]).run P w = .ok v w := run_append_owned_none (P := P) (w := w) base t ty e i 1 ht hi v n xs hown
    exact ⟨v, w, hr, by rw [List.append_nil]; exact hown, .inl ⟨rfl, World.grownBy.refl _ _⟩⟩
  | some ad =>
    refine qrun_append_or (P := P) w base t ty e i z 1 bytes ht hi hz hsize hby hzs (by decide) v n xs hown ad m c ys (by rw [hy, Nat.mul_one]) (fun j q hj => ?_) h1 h63 hbytes hbase
    have hlt : j < ys.length := (List.getElem?_eq_some_iff.1 hj).1
    obtain ⟨b, off, e3, _, h4⟩ := hu (by omega)
    cases e3
    rw [Go.WideShapes.add_plain]
    exact h4 j q hj
theorem bcells_one (l : List UInt8) : ∀ y ∈ bcells l, y.oneCell' = true := by
  intro y hy
  obtain ⟨x, _, rfl⟩ := List.mem_map.1 hy
  rfl
theorem bcells_length (l : List UInt8) : (bcells l).length = l.length := by unfold bcells; exact List.length_map ..
theorem bcells_append (a b : List UInt8) : bcells (a ++ b) = bcells a ++ bcells b := by unfold bcells; exact List.map_append ..
/-- append, at a step of a region that draws -/
theorem step_spread {P : Program} {w : World} {ops : Array Oper} {o : Oper} {a : Act} {K : Act → World → Prop} {Q : Exit → Act → World → Prop} {E : Prop} (hgd : o.guard = none) (s x : Operand) (t : TypeId)
    (ho : o.op = .call { callee := .builtin .append, args := #[s, x], argTypes := #[t, t] }) (v u v' : Value) (w' : World) (hs : a.eval s = v) (hx : a.eval x = u)
    (hr : (Builtin.append_ #[t, t] o.type #[v, u]).run P w = .ok v' w') (hK : K (a.put o.dst v') w') : if Region.wanted o (yielded ops a.tmps) = true then Oper.wp P o a w K Q else E := by
  have hw : Region.wanted o (yielded ops a.tmps) = true := by simp [Region.wanted, hgd]
  rw [if_pos hw]
  unfold Oper.wp execOp
  simp only [ho, resolve, invoke, builtin, Sem.run_bind, Sem.run_pure, Result.andThen_ok, List.map_toArray, List.map_cons, List.map_nil, hs, hx, hr]
  exact hK
/-- the first m of a slice, as the program cuts it -/
theorem cut_run (W : World) (a : Option Addr) (n c m : Nat) (hm : m ≤ c) : (Instr.slice 42 (.slice a n c) none (some (.int .i64 (m : Int))) none).run Tryz.prog W = .ok (.slice a m c) W := by
  rw [run_slice_h W _ a n c Tryz.underlying42 .i64 (m : Int) (by omega) (by omega)]
  obtain ⟨i0, hi0, _, hz1, _⟩ := q_info info_u8L
  have he : Tryz.prog.elem 42 = 5 := by kernel_rfl
  have ha : ∀ y : Option Addr, y.map (fun x => x) = y := fun y => by cases y <;> rfl
  simp [he, sizeOf, typeInfo, hi0, hz1, sliced, Addr.add, ha, Result.andThen]
theorem cut_runAt (W : World) (a : Option Addr) (n c m : Nat) (hm : m ≤ c) : (Instr.sliceAt 42 (.slice a n c) none (some (.int .i64 (m : Int))) none).run Tryz.prog W = .ok (.slice a m c) W := by
  rw [run_sliceAt_slice W _ _ _ _ _ Tryz.underlying42]
  exact cut_run W a n c m hm
set_option maxHeartbeats 4000000 in
/-- what is kept grows, as far as there is room -/
theorem pkeep_any {W : World} {P base : Nat} {kb v : Value} {cur l : List UInt8} (h : PR W P base kb cur) (hp : base ≤ P) (hv : RdC W v l.length (bcells l)) (hl : l.length ≤ 10000000) :
    Calls Tryz.prog 18 #[.pointer (some ⟨P, 0, none⟩), v] W fun e w' => ∃ kb', e = .returned (.tuple #[]) ∧ PR w' P base kb' (cur ++ l) ∧ Chg W w' P kb kb' := by
  have hP := h.lt
  have c1 := h.c1
  have f1 := h.f1
  have hrow := h.row
  have hboth := Ln.take_both cur l
  obtain ⟨K, hK⟩ : ∃ K, K = cur.take 70002 := ⟨_, rfl⟩
  have hKl : K.length ≤ 70002 := by rw [hK, List.length_take]; omega
  rw [← hK] at hrow hboth
  obtain ⟨a, c, rfl⟩ := lform_row hrow
  obtain ⟨va, vc, rfl⟩ : ∃ a c, v = .slice a l.length c := by obtain ⟨a, c, e, _⟩ := hv; exact ⟨a, c, e⟩
  have hvc : l.length ≤ vc := by obtain ⟨_, _, e, h, _⟩ := hv; cases e; exact h
  obtain ⟨R, hR⟩ : ∃ R, R = 70002 - K.length := ⟨_, rfl⟩
  obtain ⟨M, hM⟩ : ∃ M, M = min l.length R := ⟨_, rfl⟩
  have hM1 : M ≤ l.length := by omega
  have htk : l.take (70002 - K.length) = l.take M := by
    rw [← hR, hM]
    by_cases hh : l.length ≤ R
    · rw [Nat.min_eq_left hh, List.take_length, List.take_of_length_le hh]
    · rw [Nat.min_eq_right (by omega)]
  rw [htk] at hboth
  have hcut := lrdc_cut (W := W.drew) hv M hM1
  obtain ⟨i0, hi0, hz0, hz1, hz2⟩ := q_info info_u8L
  have hlm : (l.take M).length = M := by rw [List.length_take]; omega
  obtain ⟨v', w', hr, ho, hor⟩ := spread_any (P := Tryz.prog) (w := W.drew) base 42 42 5 i0 _ 1 Tryz.underlying42 hi0 hz0 hz1 hz2 rfl (World.ownsRow.drew hrow) hcut (bcells_length _) (bcells_one _) (by unfold maxLen; omega) (by omega) (by show base ≤ W.heap.size; omega)
  rw [← bcells_append, ← List.length_append, ← hboth] at ho
  obtain ⟨va', L3, vc', rfl⟩ : ∃ a n c, v' = .slice a n c := by obtain ⟨a, c, e⟩ := lform_row ho; exact ⟨a, _, c, e⟩
  have hb : ∀ g, (Value.slice va' L3 vc').ownBlock = some g → (Value.slice a K.length c).ownBlock = some g ∨ W.heap.size ≤ g := fun g e => by
    rcases hor with ⟨e1, _⟩ | ⟨e1, _⟩
    · exact .inl (by rw [← e1]; exact e)
    · rw [e1] at e; cases e; exact .inr (Nat.le_refl _)
  have hg : W.grownBy w' (Value.slice a K.length c).ownBlock := by
    rcases hor with ⟨_, h1⟩ | ⟨_, h1⟩
    · exact ⟨h1.os, h1.tape, h1.output, h1.size, h1.block⟩
    · exact ⟨h1.os, h1.tape, h1.output, h1.size, fun k hk _ => h1.block k hk (by simp)⟩
  obtain ⟨c2, f2, hPR, hC⟩ := h.store hg ho hb
  have hP2 : P < w'.heap.size := Nat.lt_of_lt_of_le hP hg.size
  have HR := Lib.hid hPR
  have HC := Lib.hid hC
  have hct := fun W0 => cut_run W0 va l.length vc M (by omega)
  have hct2 := fun W0 => cut_runAt W0 va l.length vc M (by omega)
  obtain ⟨N, hN⟩ : ∃ N, N = l.length := ⟨_, rfl⟩
  obtain ⟨KN, hKN⟩ : ∃ KN, KN = K.length := ⟨_, rfl⟩
  rw [← hN] at hct hct2 hM hl
  rw [← hN, ← hKN]
  rw [← hKN] at hr c1 c2 HC hR
  have w1 : IntKind.i64.wrap (70002 - (KN : Int)) = (R : Int) := by rw [IntWalk.i64_in _ (by omega)]; omega
  clear hcut ho hor hb hg hPR hC hrow hv hK hlm htk hboth hi0 hz0 hz1 hz2 h
  by_cases hlt : R < N
  · obtain rfl : M = R := by omega
    have l1 : min (N : Int) (M : Int) = (M : Int) := by omega
    have l2 : (0 : Int) ≤ (M : Int) := by omega
    have l3 : (M : Int) ≤ (vc : Int) := by omega
    clear hM hN hKN hlt hKl hl hR hM1 hvc
    go_enter Tryz.func18, Tryz.ntmps18
    go_wp2
    go_region_law ((refine step_spread rfl _ _ _ (by rfl) _ _ _ w' (by rfl) (by rfl) hr ?_))
    all_goals
      go_wp2
      refine bodyPost_end (results_none rfl _ _ _) rfl ?_
      exact ⟨_, rfl, HR.out, HC.out⟩
  · obtain rfl : M = N := by omega
    have l1 : min (M : Int) (R : Int) = (M : Int) := by omega
    have l2 : (0 : Int) ≤ (M : Int) := by omega
    have l3 : (M : Int) ≤ (vc : Int) := by omega
    clear hM hN hKN hlt hKl hl hR hM1 hvc
    go_enter Tryz.func18, Tryz.ntmps18
    go_wp2
    go_region_law ((refine step_spread rfl _ _ _ (by rfl) _ _ _ w' (by rfl) (by rfl) hr ?_))
    all_goals
      go_wp2
      refine bodyPost_end (results_none rfl _ _ _) rfl ?_
      exact ⟨_, rfl, HR.out, HC.out⟩
end Go.Proofs.YthpbcfoaabacgaaGreatDoor
