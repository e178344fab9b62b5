/- Sums: the law on what is told of two sums. -/
import Derived.Test.YtnbdohajlemidaaDoorShU
import Derived.Test.YtnbdohajlemidaaDoorShV
import Derived.Lib.Strings
namespace Go.Proofs.YtnbdohajlemidaaDoor
open Go Go.Proofs Go.RowKit Go.Shelf

attribute [local go_sem] Oper.semAt_some
set_option maxRecDepth 100000
theorem dig_kind (n : Nat) (hn : n < 16) : (48 ≤ ib (Sh.dig n) ∧ ib (Sh.dig n) ≤ 57) ∨ (97 ≤ ib (Sh.dig n) ∧ ib (Sh.dig n) ≤ 102) := by
  obtain rfl | rfl | rfl | rfl | rfl | rfl | rfl | rfl | rfl | rfl | rfl | rfl | rfl | rfl | rfl | rfl : n = 0 ∨ n = 1 ∨ n = 2 ∨ n = 3 ∨ n = 4 ∨ n = 5 ∨ n = 6 ∨ n = 7 ∨ n = 8 ∨ n = 9 ∨ n = 10 ∨ n = 11 ∨ n = 12 ∨ n = 13 ∨ n = 14 ∨ n = 15 := by omega
  all_goals decide
theorem dig_inj (n m : Nat) (hn : n < 16) (hm : m < 16) (h : Sh.dig n = Sh.dig m) : n = m := by
  have e : ∀ k, k < 16 → (if Sh.dig k < 58 then (Sh.dig k).toNat - 48 else (Sh.dig k).toNat - 87) = k := by
    intro k hk
    obtain rfl | rfl | rfl | rfl | rfl | rfl | rfl | rfl | rfl | rfl | rfl | rfl | rfl | rfl | rfl | rfl : k = 0 ∨ k = 1 ∨ k = 2 ∨ k = 3 ∨ k = 4 ∨ k = 5 ∨ k = 6 ∨ k = 7 ∨ k = 8 ∨ k = 9 ∨ k = 10 ∨ k = 11 ∨ k = 12 ∨ k = 13 ∨ k = 14 ∨ k = 15 := by omega
    all_goals decide
  rw [← e n hn, ← e m hm, h]
theorem hex_at (l : List UInt8) (i : Nat) (hi : i < l.length) : (Sh.hex l).drop (2 * i) = Sh.dig ((l.getD i 0).toNat / 16) :: Sh.dig ((l.getD i 0).toNat % 16) :: (Sh.hex l).drop (2 * i + 2) := by
  obtain ⟨d1, h1⟩ : ∃ d, d = Sh.dig ((l.getD i 0).toNat / 16) := ⟨_, rfl⟩
  obtain ⟨d2, h2⟩ : ∃ d, d = Sh.dig ((l.getD i 0).toNat % 16) := ⟨_, rfl⟩
  obtain ⟨P, Z, hP, e⟩ : ∃ P Z : List UInt8, P.length = 2 * i ∧ Sh.hex l = P ++ d1 :: d2 :: Z := by
    refine ⟨Sh.hex (l.take i), Sh.hex (l.drop (i + 1)), by rw [Sh.length_hex, List.length_take]; omega, ?_⟩
    have : l = l.take i ++ (l.getD i 0 :: l.drop (i + 1)) := by
      rw [List.getD_eq_getElem?_getD, List.getElem?_eq_getElem hi]
      simp
    conv => lhs; rw [this]
    unfold Sh.hex
    rw [List.flatMap_append, List.flatMap_cons, h1, h2]
    rfl
  rw [← h1, ← h2, e]
  have e1 : (P ++ d1 :: d2 :: Z).drop (2 * i) = d1 :: d2 :: Z := List.drop_left' hP
  have e2 : (P ++ d1 :: d2 :: Z).drop (2 * i + 2) = Z := by
    rw [show P ++ d1 :: d2 :: Z = (P ++ [d1, d2]) ++ Z by simp]
    exact List.drop_left' (by simp; omega)
  rw [e1, e2]
theorem hex_inj : ∀ a b : List UInt8, a.length = b.length → Sh.hex a = Sh.hex b → a = b
  | [], [], _, _ => rfl
  | [], _ :: _, h, _ => by simp at h
  | _ :: _, [], h, _ => by simp at h
  | x :: a, y :: b, h, e => by
    have e1 : Sh.dig (x.toNat / 16) :: Sh.dig (x.toNat % 16) :: Sh.hex a = Sh.dig (y.toNat / 16) :: Sh.dig (y.toNat % 16) :: Sh.hex b := e
    simp only [List.cons.injEq] at e1
    have := x.toNat_lt; have := y.toNat_lt
    have h1 := dig_inj _ _ (by omega) (by omega) e1.1
    have h2 := dig_inj _ _ (by omega) (by omega) e1.2.1
    have : x = y := UInt8.toNat_inj.1 (by omega)
    rw [this, hex_inj a b (by simpa using h) e1.2.2]
theorem wpList_load_row_g {P : Program} {ops : Array Oper} {rest : List Oper} {o : Oper} {a : Act} {w : World} {Q : Exit → Act → World → Prop} (hw : Region.wanted o (yielded ops a.tmps) = true) (ty : TypeId) (x : Operand) (ho : o.op = .load ty x)
    (g : Nat) (hx : a.eval x = .pointer (some ⟨g, 0, none⟩)) (t : TypeId) (cs : Array Value) (fr : Nat × Nat) (d : TypeDesc) (hg : w.heap[g]? = some (.cells cs t fr))
    (hu : P.underlying ty = some d) (hd : (match d with | .struct _ | .array _ _ => true | _ => false) = true) (hi : (P.info? ty).map (·.size) = some cs.size)
    (h : wpList P ops Q rest (a.put o.dst (.agg cs)) w) : wpList P ops Q (o :: rest) a w :=
  wpList_step fun _ hK => by rw [if_pos hw]; exact wp_load_row ty x ho g hx t cs fr d hg hu hd hi (hK _ _ h)
theorem cell_row {W : World} {g j : Nat} {t : TypeId} {c : Array Value} {fr : Nat × Nat} {v : Value} (h : W.heap[g]? = some (.cells c t fr)) (hj : c[j]? = some v) : W.cell? ⟨g, j, none⟩ = some v := by
  unfold World.cell?
  rw [h]
  simpa using hj
theorem hex_kind (l : List UInt8) (c : UInt8) (h : c ∈ Sh.hex l) : (48 ≤ ib c ∧ ib c ≤ 57) ∨ (97 ≤ ib c ∧ ib c ≤ 102) := by
  unfold Sh.hex at h
  obtain ⟨x, _, hx⟩ := List.mem_flatMap.1 h
  have hl := x.toNat_lt
  simp only [List.mem_cons, List.not_mem_nil, or_false] at hx
  rcases hx with rfl | rfl
  · exact dig_kind _ (by omega)
  · exact dig_kind _ (by omega)
theorem str_at (s : ByteArray) (k : Nat) (hk : k < s.size) (W : World) : (Instr.index 9 (.string s) (.int .i64 (k : Int))).run Tryd.prog W = .ok (.int .u8 (ib s[k])) W := by
  rw [run_index_string _ _ _ _ _ Tryd.underlying9]
  simp [hk, ib]
theorem ext_take (s : ByteArray) (k z : Nat) : s.extract k (k + z) = ⟨((s.data.toList.drop k).take z).toArray⟩ := by
  apply ByteArray.ext
  apply Array.toList_inj.1
  have := Lib.extract_toList s k (k + z)
  rw [Lib.toList_data] at this
  rw [this]
  simp
theorem run_from_row {P : Program} (w : World) (g : Nat) (t : TypeId) (c : Array Value) (fr : Nat × Nat) (n : Nat) (hg : w.heap[g]? = some (.cells c t fr)) (hn : c.size = n) :
    (loadCellsFrom ⟨g, 0, none⟩ 0 n #[]).run P w = .ok c w := by
  subst hn
  have := run_loadCells_list (P := P) w ⟨g, 0, none⟩ c.toList (fun j v hv => by
    have hadd : (⟨g, 0, none⟩ : Addr).add j = ⟨g, j, none⟩ := by unfold Addr.add; split <;> simp_all
    rw [hadd, cell_of_row _ _ j c t fr hg]
    simpa using hv)
  simpa [loadCells] using this
set_option maxHeartbeats 4000000 in
theorem told_all (a b : List UInt8) (ha : a.length = 32) (hb : b.length = 32) (w : World) (hV : HasV w) :
    Calls Tryd.prog 6 #[.agg (a.map bv).toArray, .agg (b.map bv).toArray] w fun e w' => e = .returned (.bool true) ∧ Below w.heap.size w w' := by
  obtain ⟨A, hA⟩ : ∃ A, A = (a.map bv).toArray := ⟨_, rfl⟩
  obtain ⟨B, hB⟩ : ∃ B, B = (b.map bv).toArray := ⟨_, rfl⟩
  obtain ⟨S, hS⟩ : ∃ S : ByteArray, S = ⟨(Sh.hex a).toArray⟩ := ⟨_, rfl⟩
  obtain ⟨T, hT⟩ : ∃ S : ByteArray, S = ⟨(Sh.hex b).toArray⟩ := ⟨_, rfl⟩
  have s1 : S.size = 64 := by rw [hS]; show (Sh.hex a).toArray.size = 64; simp [Sh.length_hex, ha]
  have s2 : T.size = 64 := by rw [hT]; show (Sh.hex b).toArray.size = 64; simp [Sh.length_hex, hb]
  obtain ⟨q, hq⟩ : ∃ q, q = (a == b) := ⟨_, rfl⟩
  have eq2 : (S.toList == T.toList) = q := by
    rw [hq, hS, hT, ByteArray.toList_eq, ByteArray.toList_eq, Bool.eq_iff_iff, beq_iff_eq, beq_iff_eq]
    constructor
    · intro e
      exact hex_inj a b (by omega) (by simpa using e)
    · rintro rfl; rfl
  have eq3 : ∀ W, (Op.equalIn 10000 24 (.agg A) (.agg B)).run Tryd.prog W = .ok q W := fun W => by rw [hA, hB, hq]; exact eq32 a b ha hb W
  have KA := Lib.hid (show ∀ W, Below w.heap.size w W → Calls Tryd.prog 15 #[] W fun e w' => e = .returned (.bool true) ∧ Below W.heap.size W w' by
    intro W hW
    exact alive_any W (hV.below hW))
  have K1 := Lib.hid (show ∀ W, Calls Tryd.prog 12 #[.agg A] W fun e w' => e = .returned (.string S) ∧ Below W.heap.size W w' by
    intro W; rw [hA, hS]; exact text_any a ha W)
  have K2 := Lib.hid (show ∀ W, Calls Tryd.prog 12 #[.agg B] W fun e w' => e = .returned (.string T) ∧ Below W.heap.size W w' by
    intro W; rw [hB, hT]; exact text_any b hb W)
  have HAs := Lib.hid (show A.size = 32 ∧ B.size = 32 by rw [hA, hB]; simp [ha, hb])
  have HS := Lib.hid hS
  have HT := Lib.hid hT
  have HA := Lib.hid hA
  have HBB := Lib.hid hB
  have Ha := Lib.hid ha
  have Hb := Lib.hid hb
  rw [← hA, ← hB]
  clear hA hB hS hT hq ha hb hV
  go_enter Tryd.func6, Tryd.ntmps6
  have u1 := Lib.hid (heap_old (.cells B 24) (heap_n0 w A 24))
  have u2 := Lib.hid (heap_n1 w (.cells A 24) B 24)
  have hb0 := Lib.hid (show Below w.heap.size w ((w.alloc (.cells A 24)).alloc (.cells B 24)) from ((Below.refl _ _).alloc (Nat.le_refl _) _).alloc (by simp) _)
  have hlt := Lib.hid (show w.heap.size + 1 < ((w.alloc (.cells A 24)).alloc (.cells B 24)).heap.size by simp)
  go_wp2_with (first
    | (refine wpList_load_row rfl 24 _ rfl w.heap.size rfl 24 A (0, 0) _ u1.out Tryd.underlying24 rfl (by rw [HAs.out.1]; exact info_s) ?_)
    | (refine wpList_load_row rfl 24 _ rfl (w.heap.size + 1) rfl 24 B (0, 0) _ u2.out Tryd.underlying24 rfl (by rw [HAs.out.2]; exact info_s) ?_)
    | (go_at_call 12; (with_reducible refine (K1.out _).mono ?_); rintro e w1 ⟨rfl, hx⟩; have u1 := Lib.hid (heap_b u1.out (by have := hlt.out; omega) hx); have u2 := Lib.hid (heap_b u2.out hlt.out hx); have hb0 := Lib.hid (hb0.out.trans (hx.mono hb0.out.size)); have hlt := Lib.hid (Nat.lt_of_lt_of_le hlt.out hx.size); clear hx)
    | (go_at_call 12; (with_reducible refine (K2.out _).mono ?_); rintro e w2 ⟨rfl, hx⟩; have u1 := Lib.hid (heap_b u1.out (by have := hlt.out; omega) hx); have u2 := Lib.hid (heap_b u2.out hlt.out hx); have hb0 := Lib.hid (hb0.out.trans (hx.mono hb0.out.size)); have hlt := Lib.hid (Nat.lt_of_lt_of_le hlt.out hx.size); clear hx)
    | (go_at_call 15; (with_reducible refine (KA.out _ hb0.out).mono ?_); rintro e w3 ⟨rfl, hx⟩; have u1 := Lib.hid (heap_b u1.out (by have := hlt.out; omega) hx); have u2 := Lib.hid (heap_b u2.out hlt.out hx); have hb0 := Lib.hid (hb0.out.trans (hx.mono hb0.out.size)); have hlt := Lib.hid (Nat.lt_of_lt_of_le hlt.out hx.size); clear hx)
    | (refine wpList_load_row_g (by rfl) 24 _ rfl w.heap.size rfl 24 A (0, 0) _ u1.out Tryd.underlying24 rfl (by rw [HAs.out.1]; exact info_s) ?_)
    | (refine wpList_load_row_g (by rfl) 24 _ rfl (w.heap.size + 1) rfl 24 B (0, 0) _ u2.out Tryd.underlying24 rfl (by rw [HAs.out.2]; exact info_s) ?_))
  have k0 : ((0 : Nat) : Int) = 0 := rfl
  go_loopg [7] 64 (fun g i wr => ∃ k : Nat, k + g = 64 ∧ i = .int .i64 (k : Int) ∧ wr = w3)
  case atStart => exact ⟨0, rfl, rfl, rfl⟩
  case round =>
    clear k0
    obtain ⟨k, hk, rfl, rfl⟩ := hrel
    by_cases hlk : k < 64
    · have n0 : (0 : Int) ≤ (k : Int) := by omega
      have l0 : (k : Int) < 64 := by omega
      have w0 : IntKind.i64.wrap ((k : Int) + 1) = ((k + 1 : Nat) : Int) := i64n (k + 1) (by omega)
      have ix := str_at S k (by omega)
      have hkd := hex_kind a S[k] (by
        have e : S[k] = (Sh.hex a)[k]'(by rw [Sh.length_hex, Ha.out]; omega) := by
          have := HS.out
          subst this
          rfl
        rw [e]; exact List.getElem_mem _)
      obtain ⟨x, hx⟩ : ∃ x, x = ib S[k] := ⟨_, rfl⟩
      rw [← hx] at ix hkd
      clear hx
      rcases hkd with ⟨x1, x2⟩ | ⟨x1, x2⟩
      · have y1 : ¬ x < 48 := by omega
        have y2 : ¬ 57 < x := by omega
        go_wp2
        go_roundg (64 - (k + 1))
        case measure => omega
        case rel => exact ⟨k + 1, by omega, rfl, rfl⟩
      · have y1 : ¬ x < 48 := by omega
        have y2 : 57 < x := by omega
        have y3 : ¬ x < 97 := by omega
        have y4 : ¬ 102 < x := by omega
        go_wp2
        go_roundg (64 - (k + 1))
        case measure => omega
        case rel => exact ⟨k + 1, by omega, rfl, rfl⟩
    · obtain rfl : k = 64 := by omega
      have k64 : ((64 : Nat) : Int) = 64 := rfl
      go_wp2
      clear k64
      have k0 : ((0 : Nat) : Int) = 0 := rfl
      go_loopg [8] 32 (fun g i wx => ∃ k : Nat, k + g = 32 ∧ i = .int .i64 (k : Int) ∧ Hid (wx.heap[w.heap.size]? = some (.cells A 24) ∧ wx.heap[w.heap.size + 1]? = some (.cells B 24) ∧ Below w.heap.size w wx))
      case atStart => exact ⟨0, rfl, rfl, Lib.hid ⟨u1.out, u2.out, hb0.out⟩⟩
      case round =>
        clear k0 eq2 eq3 hlk hk u1 u2 hb0
        obtain ⟨k, hk, rfl, HU⟩ := hrel
        by_cases hlk : k < 32
        · obtain ⟨j, hj⟩ : ∃ j, j = 2 * k := ⟨_, rfl⟩
          obtain ⟨j2, hj2⟩ : ∃ j2, j2 = j + 2 := ⟨_, rfl⟩
          have n0 : (0 : Int) ≤ (k : Int) := by omega
          have l0 : (k : Int) < 32 := by omega
          have w0 : IntKind.i64.wrap ((k : Int) + 1) = ((k + 1 : Nat) : Int) := i64n (k + 1) (by omega)
          have w1 : IntKind.i64.wrap (2 * (k : Int)) = (j : Int) := by rw [show 2 * (k : Int) = ((2 * k : Nat) : Int) by omega, ← hj]; exact i64n _ (by omega)
          have w2 : IntKind.i64.wrap ((j : Int) + 2) = (j2 : Int) := by rw [hj2]; exact i64n (j + 2) (by omega)
          have m0 : (0 : Int) ≤ (j : Int) := by omega
          have m1 : (0 : Int) ≤ (j2 : Int) := by omega
          have m2 : (j : Int) ≤ (j2 : Int) := by omega
          have m3 : (j2 : Int) ≤ (64 : Int) := by omega
          have m4 : (j2 : Int) ≤ (S.size : Int) := by omega
          have m5 : (j2 : Int) ≤ (T.size : Int) := by omega
          obtain ⟨x, hx⟩ : ∃ x, x = a.getD k 0 := ⟨_, rfl⟩
          obtain ⟨y, hy⟩ : ∃ x, x = b.getD k 0 := ⟨_, rfl⟩
          have c1 := cell_row (j := k) HU.out.1 (show A[k]? = some (.int .u8 (ib x)) by
            rw [hx, HA.out]
            rw [List.getElem?_toArray]
            exact getD_some (by rw [Ha.out]; exact hlk))
          have c2 := cell_row (j := k) HU.out.2.1 (show B[k]? = some (.int .u8 (ib y)) by
            rw [hy, HBB.out]
            rw [List.getElem?_toArray]
            exact getD_some (by rw [Hb.out]; exact hlk))
          obtain ⟨r, hr⟩ : ∃ r, r = (x == y) := ⟨_, rfl⟩
          have e1 : (ib x == ib y) = r := by
            rw [hr, Bool.eq_iff_iff, beq_iff_eq, beq_iff_eq]
            exact ⟨ib_inj, fun h => by rw [h]⟩
          have e2 : ((S.extract j j2).toList == (T.extract j j2).toList) = r := by
            have hs : (S.extract j j2).toList = [Sh.dig (x.toNat / 16), Sh.dig (x.toNat % 16)] := by
              rw [hj2, ByteArray.toList_eq, ext_take, HS.out]
              show ((Sh.hex a).toArray.toList.drop j).take 2 = _
              rw [hj, List.toList_toArray, hex_at a k (by rw [Ha.out]; exact hlk), hx]
              rfl
            have ht : (T.extract j j2).toList = [Sh.dig (y.toNat / 16), Sh.dig (y.toNat % 16)] := by
              rw [hj2, ByteArray.toList_eq, ext_take, HT.out]
              show ((Sh.hex b).toArray.toList.drop j).take 2 = _
              rw [hj, List.toList_toArray, hex_at b k (by rw [Hb.out]; exact hlk), hy]
              rfl
            rw [hs, ht, hr, Bool.eq_iff_iff, beq_iff_eq, beq_iff_eq]
            constructor
            · intro e
              simp only [List.cons.injEq, and_true] at e
              have := x.toNat_lt; have := y.toNat_lt
              have h1 := dig_inj _ _ (by omega) (by omega) e.1
              have h2 := dig_inj _ _ (by omega) (by omega) e.2
              exact UInt8.toNat_inj.1 (by omega)
            · rintro rfl; rfl
          clear hj hj2 hx hy hr
          go_wp2
          go_quiet (fail)
          go_wp2
          go_roundg (32 - (k + 1))
          case measure => omega
          case rel => exact ⟨k + 1, by omega, rfl, Lib.hid ⟨HU.out.1, HU.out.2.1, below_drewN HU.out.2.2 _⟩⟩
        · obtain rfl : k = 32 := by omega
          have k32 : ((32 : Nat) : Int) = 32 := rfl
          go_wp2
          go_ret
          exact ⟨rfl, HU.out.2.2⟩
end Go.Proofs.YtnbdohajlemidaaDoor
