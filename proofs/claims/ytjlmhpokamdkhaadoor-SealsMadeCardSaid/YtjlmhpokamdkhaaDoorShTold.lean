/- Sums: the law on what is told of two sums. -/
import Derived.Test.YtjlmhpokamdkhaaDoorShU
import Derived.Test.YtjlmhpokamdkhaaDoorShV
import Derived.Lib.Strings
namespace Go.Proofs.YtjlmhpokamdkhaaDoor
open Go Go.Proofs Go.RowKit Go.Shelf

attribute [local go_sem] Oper.semAt_some
set_option maxRecDepth 100000
theorem dig_kind (n : Nat) (hn : n < 16) : (48 ≤ ib (Sh.dig n) ∧ ib (Sh.dig n) ≤ 57) ∨ (97 ≤ ib (Sh.dig n) ∧ ib (Sh.dig n) ≤ 102) := by
  obtain rfl | rfl | rfl | rfl | rfl | rfl | rfl | rfl | rfl | rfl | rfl | rfl | rfl | rfl | rfl | rfl : n = 0 ∨ n = 1 ∨ n = 2 ∨ n = 3 ∨ n = 4 ∨ n = 5 ∨ n = 6 ∨ n = 7 ∨ n = 8 ∨ n = 9 ∨ n = 10 ∨ n = 11 ∨ n = 12 ∨ n = 13 ∨ n = 14 ∨ n = 15 := by omega
  all_goals decide
theorem dig_inj (n m : Nat) (hn : n < 16) (hm : m < 16) (h : Sh.dig n = Sh.dig m) : n = m := by
  have e : ∀ k, k < 16 → (if Sh.dig k < 58 then (Sh.dig k).toNat - 48 else (Sh.dig k).toNat - 87) = k := by
    intro k hk
    obtain rfl | rfl | rfl | rfl | rfl | rfl | rfl | rfl | rfl | rfl | rfl | rfl | rfl | rfl | rfl | rfl : k = 0 ∨ k = 1 ∨ k = 2 ∨ k = 3 ∨ k = 4 ∨ k = 5 ∨ k = 6 ∨ k = 7 ∨ k = 8 ∨ k = 9 ∨ k = 10 ∨ k = 11 ∨ k = 12 ∨ k = 13 ∨ k = 14 ∨ k = 15 := by omega
    all_goals decide
  rw [← e n hn, ← e m hm, h]
theorem hex_at (l : List UInt8) (i : Nat) (hi : i < l.length) : (Sh.hex l).drop (2 * i) = Sh.dig ((l.getD i 0).toNat / 16) :: Sh.dig ((l.getD i 0).toNat % 16) :: (Sh.hex l).drop (2 * i + 2) := by
  obtain ⟨d1, h1⟩ : ∃ d, d = Sh.dig ((l.getD i 0).toNat / 16) := ⟨_, rfl⟩
  obtain ⟨d2, h2⟩ : ∃ d, d = Sh.dig ((l.getD i 0).toNat % 16) := ⟨_, rfl⟩
  obtain ⟨P, Z, hP, e⟩ : ∃ P Z : List UInt8, P.length = 2 * i ∧ Sh.hex l = P ++ d1 :: d2 :: Z := by
    refine ⟨Sh.hex (l.take i), Sh.hex (l.drop (i + 1)), by rw [Sh.length_hex, List.length_take]; omega, ?_⟩
    have : l = l.take i ++ (l.getD i 0 :: l.drop (i + 1)) := by
      rw [List.getD_eq_getElem?_getD, List.getElem?_eq_getElem hi]
      simp
    conv => lhs; rw [this]
    unfold Sh.hex
    rw [List.flatMap_append, List.flatMap_cons, h1, h2]
    rfl
  rw [← h1, ← h2, e]
  have e1 : (P ++ d1 :: d2 :: Z).drop (2 * i) = d1 :: d2 :: Z := List.drop_left' hP
  have e2 : (P ++ d1 :: d2 :: Z).drop (2 * i + 2) = Z := by
    rw [show P ++ d1 :: d2 :: Z = (P ++ [d1, d2]) ++ Z by simp]
    exact List.drop_left' (by simp; omega)
  rw [e1, e2]
theorem hex_inj : ∀ a b : List UInt8, a.length = b.length → Sh.hex a = Sh.hex b → a = b
  | [], [], _, _ => rfl
  | [], _ :: _, h, _ => by simp at h
  | _ :: _, [], h, _ => by simp at h
  | x :: a, y :: b, h, e => by
    have e1 : Sh.dig (x.toNat / 16) :: Sh.dig (x.toNat % 16) :: Sh.hex a = Sh.dig (y.toNat / 16) :: Sh.dig (y.toNat % 16) :: Sh.hex b := e
    simp only [List.cons.injEq] at e1
    have := x.toNat_lt; have := y.toNat_lt
    have h1 := dig_inj _ _ (by omega) (by omega) e1.1
    have h2 := dig_inj _ _ (by omega) (by omega) e1.2.1
    have : x = y := UInt8.toNat_inj.1 (by omega)
    rw [this, hex_inj a b (by simpa using h) e1.2.2]
theorem wpList_load_row_g {P : Program} {ops : Array Oper} {rest : List Oper} {o : Oper} {a : Act} {w : World} {Q : Exit → Act → World → Prop} (hw : Region.wanted o (yielded ops a.tmps) = true) (ty : TypeId) (x : Operand) (ho : o.op = .load ty x)
    (g : Nat) (hx : a.eval x = .pointer (some ⟨g, 0, none⟩)) (t : TypeId) (cs : Array Value) (fr : Nat × Nat) (d : TypeDesc) (hg : w.heap[g]? = some (.cells cs t fr))
    (hu : P.underlying ty = some d) (hd : (match d with | .struct _ | .array _ _ => true | _ => false) = true) (hi : (P.info? ty).map (·.size) = some cs.size)
    (h : wpList P ops Q rest (a.put o.dst (.agg cs)) w) : wpList P ops Q (o :: rest) a w :=
  wpList_step fun _ hK => by rw [if_pos hw]; exact wp_load_row ty x ho g hx t cs fr d hg hu hd hi (hK _ _ h)
theorem cell_row {W : World} {g j : Nat} {t : TypeId} {c : Array Value} {fr : Nat × Nat} {v : Value} (h : W.heap[g]? = some (.cells c t fr)) (hj : c[j]? = some v) : W.cell? ⟨g, j, none⟩ = some v := by
  unfold World.cell?
  rw [h]
  simpa using hj
theorem hex_kind (l : List UInt8) (c : UInt8) (h : c ∈ Sh.hex l) : (48 ≤ ib c ∧ ib c ≤ 57) ∨ (97 ≤ ib c ∧ ib c ≤ 102) := by
  unfold Sh.hex at h
  obtain ⟨x, _, hx⟩ := List.mem_flatMap.1 h
  have hl := x.toNat_lt
  simp only [List.mem_cons, List.not_mem_nil, or_false] at hx
  rcases hx with rfl | rfl
  · exact dig_kind _ (by omega)
  · exact dig_kind _ (by omega)
theorem str_at (s : ByteArray) (k : Nat) (hk : k < s.size) (W : World) : (Instr.index 9 (.string s) (.int .i64 (k : Int))).run Tryd.prog W = .ok (.int .u8 (ib s[k])) W := by
  rw [run_index_string _ _ _ _ _ Tryd.underlying9]
  simp [hk, ib]
theorem ext_take (s : ByteArray) (k z : Nat) : s.extract k (k + z) = ⟨((s.data.toList.drop k).take z).toArray⟩ := by
  apply ByteArray.ext
  apply Array.toList_inj.1
  have := Lib.extract_toList s k (k + z)
  rw [Lib.toList_data] at this
  rw [this]
  simp
theorem run_from_row {P : Program} (w : World) (g : Nat) (t : TypeId) (c : Array Value) (fr : Nat × Nat) (n : Nat) (hg : w.heap[g]? = some (.cells c t fr)) (hn : c.size = n) :
    (loadCellsFrom ⟨g, 0, none⟩ 0 n #[]).run P w = .ok c w := by
  subst hn
  have := run_loadCells_list (P := P) w ⟨g, 0, none⟩ c.toList (fun j v hv => by
    have hadd : (⟨g, 0, none⟩ : Addr).add j = ⟨g, j, none⟩ := by unfold Addr.add; split <;> simp_all
    rw [hadd, cell_of_row _ _ j c t fr hg]
    simpa using hv)
  simpa [loadCells] using this
end Go.Proofs.YtjlmhpokamdkhaaDoor
