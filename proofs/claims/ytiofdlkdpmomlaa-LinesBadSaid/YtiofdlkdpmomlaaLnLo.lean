/- LinesLong: its walk. -/
import Derived.Test.YtiofdlkdpmomlaaLnMy
import Derived.Test.YtiofdlkdpmomlaaLnPa
namespace Go.Proofs.Ytiofdlkdpmomlaa
open Go Go.Proofs Go.RowKit Go.Shelf
set_option linter.unusedVariables false
set_option linter.unusedSimpArgs false
set_option linter.unnecessarySimpa false

attribute [local go_sem] Oper.semAt_some
/-- the letters that the law lays -/
def abc (i : Nat) : List UInt8 := (List.range i).map fun j => UInt8.ofNat (97 + j % 26)
theorem abc_len (i : Nat) : (abc i).length = i := by unfold abc; simp
theorem abc_snoc (i : Nat) : abc (i + 1) = abc i ++ [UInt8.ofNat (97 + i % 26)] := by unfold abc; rw [List.range_succ, List.map_append]; rfl
theorem abc_fine (i : Nat) : ∀ c ∈ abc i, Ln.ill c = false := by
  intro c hc
  obtain ⟨j, _, rfl⟩ := List.mem_map.1 hc
  have h : ∀ m, m < 26 → Ln.ill (UInt8.ofNat (97 + m)) = false := by decide
  exact h _ (Nat.mod_lt _ (by omega))
theorem plus_ten (i : Nat) : Ln.lgo [] (abc i ++ [13]) = ([], abc i ++ [13]) := Ln.lgo_plain _ _ (fun c hc => by
  rcases List.mem_append.1 hc with h | h
  · exact Ln.no_ten (abc_fine i) c h
  · obtain rfl : c = 13 := by simpa using h
    rfl)
theorem lgo_next (cur : List UInt8) : Ln.lgo cur [10, 110, 101, 120, 116, 10] = ([Ln.line cur, ([110, 101, 120, 116], false)], []) := by
  have h : Ln.lgo [] [110, 101, 120, 116, 10] = ([([110, 101, 120, 116], false)], []) := by decide
  rw [show ([10, 110, 101, 120, 116, 10] : List UInt8) = 10 :: [110, 101, 120, 116, 10] from rfl]
  unfold Ln.lgo
  rw [if_pos (by rfl), h]
theorem may_long {l : List UInt8} (h : 70000 < l.length) : Ln.may l = false := by
  unfold Ln.may
  rw [Bool.and_eq_false_iff]
  exact .inr (decide_eq_false (by omega))
theorem line_abc (i : Nat) : Ln.line (abc i) = if i ≤ 70000 then (abc i, false) else ([], true) := by
  unfold Ln.line
  rw [Ln.cut_plain (Ln.last_ill (abc_fine i))]
  by_cases h : i ≤ 70000
  · rw [if_pos h, if_pos (Ln.may_of (abc_fine i) (by rw [abc_len]; exact h))]
  · rw [if_neg h, may_long (by rw [abc_len]; omega)]; rfl
theorem line_both (i : Nat) : Ln.line (abc i ++ [13]) = if i ≤ 70000 then (abc i, false) else ([], true) := by
  unfold Ln.line
  rw [Ln.cut_both]
  by_cases h : i ≤ 70000
  · rw [if_pos h, if_pos (Ln.may_of (abc_fine i) (by rw [abc_len]; exact h))]
  · rw [if_neg h, may_long (by rw [abc_len]; omega)]; rfl
theorem conv_of {W : World} {v : Value} {l : List UInt8} (h : RdC W v l.length (bcells l)) : (convert 22 9 v).run Try.prog W = .ok (.string ⟨l.toArray⟩) W := by
  obtain ⟨a, c, rfl, hc, h⟩ := h
  cases l with
  | nil =>
    cases a with
    | none => exact run_convert_bytes_nil W 22 5 (by kernel_rfl) (by kernel_rfl) 0 c 9 (by kernel_rfl)
    | some a => exact run_convert_bytes_back (P := Try.prog) W 22 9 5 a c [] (by kernel_rfl) (by kernel_rfl) (by kernel_rfl) (fun j hj => absurd hj (Nat.not_lt_zero j))
  | cons x t =>
    obtain ⟨b, off, rfl, hb, hc⟩ := h (by simp)
    refine run_convert_bytes_back (P := Try.prog) W 22 9 5 ⟨b, off, none⟩ c (x :: t) (by kernel_rfl) (by kernel_rfl) (by kernel_rfl) fun j hj => ?_
    rw [Go.WideShapes.add_plain]
    exact hc j (bcell (x :: t)[j]) (bcells_get (List.getElem?_eq_getElem hj))
theorem conv_all {w7 : World} {v : Value} {l : List UInt8} (h : RdC w7 v l.length (bcells l)) : ∀ W : World, W.heap = w7.heap → (convert 22 9 v).run Try.prog W = .ok (.string ⟨l.toArray⟩) W := fun W hW => conv_of (by
  obtain ⟨a, c, e, hc, h2⟩ := h
  refine ⟨a, c, e, hc, fun h0 => ?_⟩
  obtain ⟨b, off, e2, hb, hx⟩ := h2 h0
  refine ⟨b, off, e2, by rw [hW]; exact hb, fun o u hu => ?_⟩
  have := hx o u hu
  unfold World.cell? at this ⊢
  rw [hW]
  exact this)
theorem below_of_drew {B : Nat} {a W : World} (h : Below B a W) : Below B a W := h
def laid (i k : Nat) : List Value := bcells (abc i) ++ List.replicate (k - i) (.int .u8 0)
theorem laid_len {i k : Nat} (h : i ≤ k) : (laid i k).length = k := by unfold laid bcells; simp [abc_len]; omega
theorem laid_set {i k : Nat} (h : i < k) : (laid i k).set i (.int .u8 ((97 + i % 26 : Nat) : Int)) = laid (i + 1) k := by
  unfold laid
  have hl : (bcells (abc i)).length = i := by unfold bcells; simp [abc_len]
  rw [show k - i = (k - (i + 1)) + 1 by omega, List.replicate_succ, List.set_append_right _ _ (by omega), hl, Nat.sub_self, List.set_cons_zero, abc_snoc]
  unfold bcells
  rw [List.map_append, List.append_assoc]
  congr 1
  show _ = bcell _ :: _
  congr 1
  unfold bcell
  congr 1
  rw [UInt8.toNat_ofNat']
  omega
theorem laid_at {i k : Nat} (h : i < k) : (laid i k)[i]? = some (.int .u8 0) := by
  unfold laid
  have hl : (bcells (abc i)).length = i := by unfold bcells; simp [abc_len]
  rw [List.getElem?_append_right (by omega), hl, Nat.sub_self, List.getElem?_replicate, if_pos (by omega)]
theorem laid_all (k : Nat) : laid k k = bcells (abc k) := by unfold laid; simp
/-- a byte 13 put behind -/
theorem row_plus {W : World} {base n : Nat} {v : Value} {l : List UInt8} (h : W.ownsRow base 5 1 v n (bcells l)) (hb : base ≤ W.heap.size) (hn : n ≤ 100000) (hl : l.length = n) :
    ∃ v' W', (Builtin.append_ #[22, 22] 22 #[v, .slice (some ⟨W.heap.size, 0, none⟩) 1 1]).run Try.prog (W.alloc (.cells #[.int .u8 13] 5)) = .ok v' W' ∧
      W'.ownsRow base 5 1 v' (l ++ [13]).length (bcells (l ++ [13])) ∧ Grew (W.alloc (.cells #[.int .u8 13] 5)) W' v v' := by
  obtain ⟨i0, hi0, hz0, hz1, hz2⟩ := q_info info_u8P
  obtain ⟨v', W', r1, r2, r3⟩ := spread_run (P := Try.prog) base 22 22 5 i0 (.int .u8 0) 1 Try.underlying22 hi0 hz0 hz1 hz2 rfl (World.ownsRow.alloc h _) (lit_rdc W (t := 5) (xs := bcells [13]) (cs := #[.int .u8 13]) rfl (m := 1) rfl) (.inr ⟨_, _, rfl⟩) rfl (bcells_one [13]) (by simp only [maxLen]; omega) (by omega) (Nat.le_trans hb (by simp))
  refine ⟨v', W', r1, ?_, r3⟩
  rw [List.length_append, hl]
  unfold bcells at r2 ⊢
  rw [List.map_append]
  exact r2
set_option maxRecDepth 100000 in
set_option maxHeartbeats 8000000 in
theorem long_all {w : World} {n : Nat} {both : Bool} :
    Calls Try.prog 6 #[.int .u8 (n : Int), .bool both] w fun e w' => e = .returned (.bool true) ∧ Below w.heap.size w w' := by
  obtain ⟨i0, hi0, hz0, hz1, hz2⟩ := q_info info_u8P
  obtain ⟨k, hk⟩ : ∃ k : Nat, k = 69995 + n % 10 := ⟨_, rfl⟩
  have HK := Lib.hid (show 69995 ≤ k ∧ k ≤ 70004 by omega)
  have l0 : IntKind.i64.wrap ((69995 : Int) + (n : Int) % 10) = (k : Int) := by rw [IntWalk.i64_in _ (by omega)]; omega
  clear hk
  have HI := Lib.hid hi0
  have HZ := Lib.hid hz0
  have HZ1 := Lib.hid hz1
  have HZ2 := Lib.hid hz2
  clear hi0 hz0 hz1 hz2
  go_enter Try.func6, Try.ntmps6
  go_wp2_with (at_make; go_loud (refine wpList_make_full _ rfl _ _ 22 rfl w.heap.size 5 i0 (.int .u8 0) 1 Try.underlying22 HI.out HZ.out HZ1.out .i64 .i64 _ _ k rfl rfl (by have := HK.out; omega) (by have := HK.out; omega) (by rw [HZ2.out]; have := HK.out; omega) (by unfold maxLen; have := HK.out; omega) (Nat.le_refl _) ?_); intro w1 qo qg; have O1 := Lib.hid qo; have G1 := Lib.hid qg; clear qo qg)
  have HB := Lib.hid (show Below w.heap.size w w1 from (Below.refl _ _).grown G1.out (Nat.le_refl _) (fun k e => by cases e))
  obtain ⟨g0, hg0⟩ : ∃ g, g = w.heap.size := ⟨_, rfl⟩
  have HG := Lib.hid (show w.heap.size ≤ g0 by omega)
  have HO := Lib.hid (show w1.ownsRow w.heap.size 5 1 (.slice (some ⟨g0, 0, none⟩) k k) k (laid 0 k) by
    rw [hg0]
    have h := O1.out
    rw [show (madeCells (Value.int .u8 0).cells (k * 1)).toList = laid 0 k by rw [Nat.mul_one]; show (madeCells #[Value.int .u8 0] k).toList = _; rw [toList_madeCells_one]; rfl] at h
    exact h)
  simp only [← hg0]
  clear hg0 O1 G1 l0
  go_loopg [7] k (fun g x wr => ∃ i : Nat, i + g = k ∧ x = .int .i64 (i : Int) ∧ Hid (wr.ownsRow w.heap.size 5 1 (.slice (some ⟨g0, 0, none⟩) k k) k (laid i k)) ∧ Hid (Below w.heap.size w wr))
  case atStart => exact ⟨0, by omega, rfl, HO, HB⟩
  case round =>
    clear HO HB
    obtain ⟨i, hi, rfl, HO, HB⟩ := hrel
    by_cases hlt : i < k
    · have n0 : (0 : Int) ≤ (i : Int) := by omega
      have n1 : (i : Int) < (k : Int) := by omega
      have w0 : IntKind.i64.wrap ((i : Int) + 1) = ((i + 1 : Nat) : Int) := IntWalk.i64_in _ (by have := HK.out; omega)
      obtain ⟨m, hm⟩ : ∃ m : Nat, m = i % 26 := ⟨_, rfl⟩
      have hm2 : m < 26 := by omega
      have m0 : (i : Int) % 26 = (m : Int) := by omega
      have HS := Lib.hid (show (laid i k).set i (.int .u8 (97 + (m : Int))) = laid (i + 1) k by rw [show (97 : Int) + (m : Int) = ((97 + i % 26 : Nat) : Int) by omega]; exact laid_set hlt)
      have m1 : IntKind.u8.wrap (m : Int) = (m : Int) := by simp [IntKind.wrap, IntKind.bits, IntKind.signed]; omega
      have m2 : IntKind.u8.wrap (97 + (m : Int)) = ((97 + m : Nat) : Int) := by simp [IntKind.wrap, IntKind.bits, IntKind.signed]; omega
      have c0 : wr.cell? ⟨g0, i, none⟩ = some (.int .u8 0) := by
        have h := HO.out.cells (g := g0) rfl i _ (laid_at hlt)
        rwa [Go.WideShapes.add_plain, Nat.zero_add] at h
      have f0 := HO.out.frozenAt i
      obtain ⟨o1, gr1⟩ := HO.out.stored i (.int .u8 (97 + (m : Int)))
      rw [HS.out] at o1
      have HO2 := Lib.hid o1
      have HB2 := Lib.hid (HB.out.grown gr1 HB.out.size (fun k e => by cases e; exact HG.out))
      clear o1 gr1 HO HB HS hm
      go_wp2
      go_roundg (k - (i + 1))
      case measure => omega
      case rel => exact ⟨i + 1, by omega, by first | rfl | simp, HO2, HB2⟩
    · have l4 : ¬ (i : Int) < (k : Int) := by omega
      obtain rfl : i = k := by omega
      have HO3 := Lib.hid (show wr.ownsRow w.heap.size 5 1 (.slice (some ⟨g0, 0, none⟩) i i) i (bcells (abc i)) by rw [← laid_all]; exact HO.out)
      clear HO
      cases both with
      | false =>
        have HL := Lib.hid (show RdC wr (.slice (some ⟨g0, 0, none⟩) i i) (abc i).length (bcells (abc i)) by rw [abc_len]; exact own_rdc HO3.out)
        have HB2 := HB
        clear HO3
        have hk := Lib.hid HL.out
        obtain ⟨LB, hLB⟩ : ∃ L, L = abc i := ⟨_, rfl⟩
        rw [← hLB] at hk
        have HLB := Lib.hid hLB
        have HLN := Lib.hid (show LB.length = i ∧ i ≤ 70005 by rw [hLB]; have := HK.out; simp [abc_len]; omega)
        clear hLB
        go_wp2_with fail
        refine (pnew_any _).mono ?_
        rintro e w3 ⟨P, rfl, ⟨own0, hlow, hr⟩, rr⟩
        have R := Lib.hid (hr w.heap.size HB2.out.size)
        have HO := Lib.hid hlow
        have B := Lib.hid rr
        clear hr rr hlow
        go_wp2_with fail
        have hav := Lib.hid (arg_keep hk.out B.out HO.out)
        have hw := pput_any (l := LB) R.out (by first | exact hav.out | (have h := hav.out; rw [HLN.out.1] at h ⊢; exact h)) (by rw [HLN.out.1]; have := HLN.out.2; omega) (by simp)
        refine hw.mono ?_
        clear hw
        rintro e w4 ⟨vl, vm, own1, rfl, A0⟩
        have A := Lib.hid A0
        clear A0
        have HN10 := Lib.hid (show Ln.lgo [] LB = ([], LB) by rw [HLB.out]; exact Ln.lgo_plain _ _ (Ln.no_ten (abc_fine i)))
        have HO1 := Lib.hid (show ∀ b, own1 b → wr.heap.size ≤ b from fun b hb => by
          rcases A.out.2.2.2.2.2.1 b hb with h | h
          · exact HO.out b h
          · exact Nat.le_trans B.out.size h)
        replace R := Lib.hid (A.out.rd LB (by rw [HN10.out]))
        have HRow := Lib.hid (hav.out w4 A.out.size A.out.2.2.2.2.1)
        have HFar := Lib.hid (show ∀ b off sp n c, (Value.slice (some ⟨g0, 0, none⟩) i i) = .slice (some ⟨b, off, sp⟩) n c → 0 < n → ¬ own1 b from fun b off sp n c e h0 hb => by
          obtain ⟨a2, c2, e2, _, h2⟩ := hk.out
          have e3 := e2.symm.trans e
          cases e3
          obtain ⟨b3, o3, e4, hlt, _⟩ := h2 (by have := HLN.out.1; have := HK.out; omega)
          cases e4
          have := HO1.out b hb
          omega)
        have HD := Lib.hid (show Held w4 (Value.slice (some ⟨g0, 0, none⟩) i i) LB.length (bcells LB) own1 from ⟨HRow.out, HFar.out⟩)
        have B0 := Lib.hid ((HB2.out.trans (B.out.mono HB2.out.size)).trans A.out.low)
        clear A B hk hav HN10 HO HRow HFar HO1 HB2
        obtain ⟨Z, hZ⟩ : ∃ Z : Int, Z = ((min LB.length 70002 : Nat) : Int) := ⟨_, rfl⟩
        have HZ5 := Lib.hid hZ
        clear hZ
        go_wp2_with fail
        refine (pleft_at R.out Z HZ5.out).mono ?_
        rintro e w5 ⟨rfl, rr⟩
        replace R := Lib.hid (R.out.below rr)
        replace HD := Lib.hid (HD.out.below rr)
        replace B0 := Lib.hid (then_below B0.out rr)
        clear rr
        have hcv := conv_mark w5 #[.int .u8 10, .int .u8 110, .int .u8 101, .int .u8 120, .int .u8 116, .int .u8 10] 6 6 6 rfl
        go_wp2_with fail
        clear hcv
        have hk := Lib.hid (lit_keep (6, 7) R.out (l := [10, 110, 101, 120, 116, 10]) (cs := #[.int .u8 10, .int .u8 110, .int .u8 101, .int .u8 120, .int .u8 116, .int .u8 10]) rfl (m := 6) rfl)
        have ba := alloc_below w5 (.cells #[.int .u8 10, .int .u8 110, .int .u8 101, .int .u8 120, .int .u8 116, .int .u8 10] 5 (6, 7))
        replace R := Lib.hid (R.out.below ba)
        replace HD := Lib.hid (HD.out.below ba)
        replace B0 := Lib.hid (then_below B0.out ba)
        clear ba
        refine (pput_any (l := [10, 110, 101, 120, 116, 10]) R.out hk.out (by simp) (by have := HLN.out; omega)).mono ?_
        rintro e w6 ⟨vx, vb2, own2, rfl, A0⟩
        have A := Lib.hid A0
        clear A0 hk
        obtain ⟨T0, b0, hT0⟩ : ∃ T b, Ln.line LB = (T, b) := ⟨_, _, rfl⟩
        have HT0 := Lib.hid hT0
        have La := Lib.hid (A.out.texts [T0, [110, 101, 120, 116]] (by rw [lgo_next, hT0]; rfl))
        have Lb := Lib.hid (A.out.truths [b0, false] (by rw [lgo_next, hT0]; rfl))
        replace HD := Lib.hid (A.out.held A.out.size HD.out)
        replace B0 := Lib.hid (B0.out.trans A.out.low)
        clear A R hT0
        obtain ⟨aLa, cLa, eLa⟩ := La.out.form
        subst eLa
        obtain ⟨aLb, cLb, eLb⟩ := Lb.out.form
        subst eLb
        go_wp2_with fail
        refine (l_alive _).mono ?_
        rintro e w7 ⟨rfl, rr⟩
        replace HD := Lib.hid (HD.out.below rr)
        replace La := Lib.hid (La.out.below rr)
        replace Lb := Lib.hid (Lb.out.below rr)
        replace B0 := Lib.hid (then_below B0.out rr)
        clear rr
        obtain ⟨al, cl, el, _, hla⟩ := La.out.rd
        cases el
        obtain ⟨bl, ol, rfl, _, hlx⟩ := hla (by simp)
        have x0 := hlx 0 _ rfl
        have x1 := hlx 1 _ rfl
        obtain ⟨am, cm, em, _, hma⟩ := Lb.out.rd
        cases em
        obtain ⟨bm, om, rfl, _, hmx⟩ := hma (by simp)
        have y0 := hmx 0 _ rfl
        have y1 := hmx 1 _ rfl
        rw [Nat.add_zero] at x0 y0
        unfold tcellB at y0 y1
        unfold scell at x0 x1
        obtain ⟨S0, hS0⟩ : ∃ S : ByteArray, S = ⟨T0.toArray⟩ := ⟨_, rfl⟩
        rw [← hS0] at x0
        have HS0 := Lib.hid hS0
        clear hla hlx hma hmx hS0 La Lb
        rcases Nat.lt_or_ge 70002 i with h7 | h7
        · have q1 : min (i : Int) 70002 = 70002 := by omega
          obtain rfl : Z = 70002 := by have := HZ5.out; rw [HLN.out.1] at this; omega
          rcases Nat.lt_or_ge 70000 i with h8 | h8
          · have q2 : (70000 : Int) < (i : Int) := by omega
            obtain ⟨rfl, rfl⟩ : T0 = [] ∧ b0 = true := by
              have h := HT0.out
              rw [HLB.out, line_abc i, if_neg (by omega)] at h
              cases h
              exact ⟨rfl, rfl⟩
            have e0 : S0.toList.isEmpty = true := by rw [HS0.out, Lib.toList_data]; rfl
            go_wp2
            go_ret
            exact ⟨by first | rfl | simp, B0.out⟩
          · exact absurd h8 (by omega)
        · have q1 : min (i : Int) 70002 = (i : Int) := by omega
          obtain rfl : Z = (i : Int) := by have := HZ5.out; rw [HLN.out.1] at this; omega
          rcases Nat.lt_or_ge 70000 i with h8 | h8
          · have q2 : (70000 : Int) < (i : Int) := by omega
            obtain ⟨rfl, rfl⟩ : T0 = [] ∧ b0 = true := by
              have h := HT0.out
              rw [HLB.out, line_abc i, if_neg (by omega)] at h
              cases h
              exact ⟨rfl, rfl⟩
            have e0 : S0.toList.isEmpty = true := by rw [HS0.out, Lib.toList_data]; rfl
            go_wp2
            go_ret
            exact ⟨by first | rfl | simp, B0.out⟩
          · have q2 : ¬ (70000 : Int) < (i : Int) := by omega
            obtain ⟨rfl, rfl⟩ : T0 = abc i ∧ b0 = false := by
              have h := HT0.out
              rw [HLB.out, line_abc i, if_pos (by omega)] at h
              cases h
              exact ⟨rfl, rfl⟩
            have hrd := HD.out.rd
            rw [HLN.out.1] at hrd
            obtain ⟨A1, sl1, r1⟩ := cut_front hrd (show i ≤ i by omega)
            have sl2 : ∀ W, (Instr.slice 22 (Value.slice (some ⟨g0, 0, none⟩) i i) none (some (.int .i64 (i : Int))) none).run Try.prog W = _ := fun W => (run_sliceAt_slice W 22 (Value.slice (some ⟨g0, 0, none⟩) i i) none (some (.int .i64 (i : Int))) none Try.underlying22).symm.trans (sl1 W)
            have cv := conv_all (show RdC w7 _ (abc i).length (bcells (abc i)) by
              rw [show (bcells LB).take i = bcells (abc i) by rw [HLB.out]; exact (by unfold bcells; rw [← List.map_take, List.take_of_length_le (by rw [abc_len]; exact Nat.le_refl _)])] at r1
              rw [abc_len]
              exact r1)
            have e0 : S0 = ⟨(abc i).toArray⟩ := HS0.out
            rw [← e0] at cv
            clear hrd r1 e0
            go_wp2
            go_region_held3 (fun w' => w'.heap = w7.heap ∧ w'.cell? ⟨bm, om, none⟩ = some (.bool false) ∧ w'.cell? ⟨bl, ol, none⟩ = some (.string S0)) (exact ⟨rfl, y0, x0⟩) (fail)
            all_goals
              go_wp2
              go_ret
              refine ⟨by first | rfl | simp, ?_⟩
              have := B0.out
              exact below_of_drew (by first | exact this | exact this.drew)
      | true =>
        obtain ⟨vb, W2, r1, f1, g1⟩ := row_plus HO3.out HB.out.size (by have := HK.out; omega) (abc_len i)
        have HL := Lib.hid (own_rdc f1)
        have HB2 := Lib.hid (g1.below (HB.out.alloc HB.out.size _) (Nat.le_trans HB.out.size (by simp)) (fun g e => by cases e; exact HG.out))
        have R1 := Lib.hid r1
        obtain ⟨NB, hNB⟩ : ∃ N, N = i + 1 := ⟨_, rfl⟩
        have HNB := Lib.hid hNB
        obtain ⟨ab, cb, eb⟩ : ∃ a c, vb = .slice a NB c := by obtain ⟨a, c, e, _⟩ := HL.out; exact ⟨a, c, by rw [e, hNB]; simp [abc_len]⟩
        subst eb
        clear r1 f1 g1 hNB
        go_wp2_with (first
          | (at_builtin; refine wpList_spread rfl _ _ _ rfl _ _ _ _ rfl rfl R1.out ?_)
          | fail)
        clear R1
        have hk := Lib.hid HL.out
        obtain ⟨LB, hLB⟩ : ∃ L, L = abc i ++ [13] := ⟨_, rfl⟩
        rw [← hLB] at hk
        have HLB := Lib.hid hLB
        have HLN := Lib.hid (show LB.length = NB ∧ NB ≤ 70005 by rw [hLB]; have := HK.out; have := HNB.out; simp [abc_len]; omega)
        clear hLB
        go_wp2_with fail
        refine (pnew_any _).mono ?_
        rintro e w3 ⟨P, rfl, ⟨own0, hlow, hr⟩, rr⟩
        have R := Lib.hid (hr w.heap.size HB2.out.size)
        have HO := Lib.hid hlow
        have B := Lib.hid rr
        clear hr rr hlow
        go_wp2_with fail
        have hav := Lib.hid (arg_keep hk.out B.out HO.out)
        have hw := pput_any (l := LB) R.out (by first | exact hav.out | (have h := hav.out; rw [HLN.out.1] at h ⊢; exact h)) (by rw [HLN.out.1]; have := HLN.out.2; omega) (by simp)
        refine hw.mono ?_
        clear hw
        rintro e w4 ⟨vl, vm, own1, rfl, A0⟩
        have A := Lib.hid A0
        clear A0
        have HN10 := Lib.hid (show Ln.lgo [] LB = ([], LB) by rw [HLB.out]; exact plus_ten i)
        have HO1 := Lib.hid (show ∀ b, own1 b → W2.heap.size ≤ b from fun b hb => by
          rcases A.out.2.2.2.2.2.1 b hb with h | h
          · exact HO.out b h
          · exact Nat.le_trans B.out.size h)
        replace R := Lib.hid (A.out.rd LB (by rw [HN10.out]))
        have HRow := Lib.hid (hav.out w4 A.out.size A.out.2.2.2.2.1)
        have HFar := Lib.hid (show ∀ b off sp n c, (Value.slice ab NB cb) = .slice (some ⟨b, off, sp⟩) n c → 0 < n → ¬ own1 b from fun b off sp n c e h0 hb => by
          obtain ⟨a2, c2, e2, _, h2⟩ := hk.out
          have e3 := e2.symm.trans e
          cases e3
          obtain ⟨b3, o3, e4, hlt, _⟩ := h2 (by have := HLN.out.1; have := HK.out; have := HNB.out; omega)
          cases e4
          have := HO1.out b hb
          omega)
        have HD := Lib.hid (show Held w4 (Value.slice ab NB cb) LB.length (bcells LB) own1 from ⟨HRow.out, HFar.out⟩)
        have B0 := Lib.hid ((HB2.out.trans (B.out.mono HB2.out.size)).trans A.out.low)
        clear A B hk hav HN10 HO HRow HFar HO1 HB2
        obtain ⟨Z, hZ⟩ : ∃ Z : Int, Z = ((min LB.length 70002 : Nat) : Int) := ⟨_, rfl⟩
        have HZ5 := Lib.hid hZ
        clear hZ
        go_wp2_with fail
        refine (pleft_at R.out Z HZ5.out).mono ?_
        rintro e w5 ⟨rfl, rr⟩
        replace R := Lib.hid (R.out.below rr)
        replace HD := Lib.hid (HD.out.below rr)
        replace B0 := Lib.hid (then_below B0.out rr)
        clear rr
        have hcv := conv_mark w5 #[.int .u8 10, .int .u8 110, .int .u8 101, .int .u8 120, .int .u8 116, .int .u8 10] 6 6 6 rfl
        go_wp2_with fail
        clear hcv
        have hk := Lib.hid (lit_keep (6, 7) R.out (l := [10, 110, 101, 120, 116, 10]) (cs := #[.int .u8 10, .int .u8 110, .int .u8 101, .int .u8 120, .int .u8 116, .int .u8 10]) rfl (m := 6) rfl)
        have ba := alloc_below w5 (.cells #[.int .u8 10, .int .u8 110, .int .u8 101, .int .u8 120, .int .u8 116, .int .u8 10] 5 (6, 7))
        replace R := Lib.hid (R.out.below ba)
        replace HD := Lib.hid (HD.out.below ba)
        replace B0 := Lib.hid (then_below B0.out ba)
        clear ba
        refine (pput_any (l := [10, 110, 101, 120, 116, 10]) R.out hk.out (by simp) (by have := HLN.out; omega)).mono ?_
        rintro e w6 ⟨vx, vb2, own2, rfl, A0⟩
        have A := Lib.hid A0
        clear A0 hk
        obtain ⟨T0, b0, hT0⟩ : ∃ T b, Ln.line LB = (T, b) := ⟨_, _, rfl⟩
        have HT0 := Lib.hid hT0
        have La := Lib.hid (A.out.texts [T0, [110, 101, 120, 116]] (by rw [lgo_next, hT0]; rfl))
        have Lb := Lib.hid (A.out.truths [b0, false] (by rw [lgo_next, hT0]; rfl))
        replace HD := Lib.hid (A.out.held A.out.size HD.out)
        replace B0 := Lib.hid (B0.out.trans A.out.low)
        clear A R hT0
        obtain ⟨aLa, cLa, eLa⟩ := La.out.form
        subst eLa
        obtain ⟨aLb, cLb, eLb⟩ := Lb.out.form
        subst eLb
        go_wp2_with fail
        refine (l_alive _).mono ?_
        rintro e w7 ⟨rfl, rr⟩
        replace HD := Lib.hid (HD.out.below rr)
        replace La := Lib.hid (La.out.below rr)
        replace Lb := Lib.hid (Lb.out.below rr)
        replace B0 := Lib.hid (then_below B0.out rr)
        clear rr
        obtain ⟨al, cl, el, _, hla⟩ := La.out.rd
        cases el
        obtain ⟨bl, ol, rfl, _, hlx⟩ := hla (by simp)
        have x0 := hlx 0 _ rfl
        have x1 := hlx 1 _ rfl
        obtain ⟨am, cm, em, _, hma⟩ := Lb.out.rd
        cases em
        obtain ⟨bm, om, rfl, _, hmx⟩ := hma (by simp)
        have y0 := hmx 0 _ rfl
        have y1 := hmx 1 _ rfl
        rw [Nat.add_zero] at x0 y0
        unfold tcellB at y0 y1
        unfold scell at x0 x1
        obtain ⟨S0, hS0⟩ : ∃ S : ByteArray, S = ⟨T0.toArray⟩ := ⟨_, rfl⟩
        rw [← hS0] at x0
        have HS0 := Lib.hid hS0
        clear hla hlx hma hmx hS0 La Lb
        rcases Nat.lt_or_ge 70002 NB with h7 | h7
        · have q1 : min (NB : Int) 70002 = 70002 := by omega
          obtain rfl : Z = 70002 := by have := HZ5.out; rw [HLN.out.1] at this; omega
          rcases Nat.lt_or_ge 70000 i with h8 | h8
          · have q2 : (70000 : Int) < (i : Int) := by omega
            obtain ⟨rfl, rfl⟩ : T0 = [] ∧ b0 = true := by
              have h := HT0.out
              rw [HLB.out, line_both i, if_neg (by omega)] at h
              cases h
              exact ⟨rfl, rfl⟩
            have e0 : S0.toList.isEmpty = true := by rw [HS0.out, Lib.toList_data]; rfl
            go_wp2
            go_ret
            exact ⟨by first | rfl | simp, B0.out⟩
          · exact absurd h8 (by have := HNB.out; omega)
        · have q1 : min (NB : Int) 70002 = (NB : Int) := by omega
          obtain rfl : Z = (NB : Int) := by have := HZ5.out; rw [HLN.out.1] at this; omega
          rcases Nat.lt_or_ge 70000 i with h8 | h8
          · have q2 : (70000 : Int) < (i : Int) := by omega
            obtain ⟨rfl, rfl⟩ : T0 = [] ∧ b0 = true := by
              have h := HT0.out
              rw [HLB.out, line_both i, if_neg (by omega)] at h
              cases h
              exact ⟨rfl, rfl⟩
            have e0 : S0.toList.isEmpty = true := by rw [HS0.out, Lib.toList_data]; rfl
            go_wp2
            go_ret
            exact ⟨by first | rfl | simp, B0.out⟩
          · have q2 : ¬ (70000 : Int) < (i : Int) := by omega
            obtain ⟨rfl, rfl⟩ : T0 = abc i ∧ b0 = false := by
              have h := HT0.out
              rw [HLB.out, line_both i, if_pos (by omega)] at h
              cases h
              exact ⟨rfl, rfl⟩
            have hrd := HD.out.rd
            rw [HLN.out.1] at hrd
            obtain ⟨A1, sl1, r1⟩ := cut_front hrd (show i ≤ NB by have := HNB.out; omega)
            have sl2 : ∀ W, (Instr.slice 22 (Value.slice ab NB cb) none (some (.int .i64 (i : Int))) none).run Try.prog W = _ := fun W => (run_sliceAt_slice W 22 (Value.slice ab NB cb) none (some (.int .i64 (i : Int))) none Try.underlying22).symm.trans (sl1 W)
            have cv := conv_all (show RdC w7 _ (abc i).length (bcells (abc i)) by
              rw [show (bcells LB).take i = bcells (abc i) by rw [HLB.out]; exact (by unfold bcells; rw [← List.map_take, List.take_append_of_le_length (by rw [abc_len]; exact Nat.le_refl _), List.take_of_length_le (by rw [abc_len]; exact Nat.le_refl _)])] at r1
              rw [abc_len]
              exact r1)
            have e0 : S0 = ⟨(abc i).toArray⟩ := HS0.out
            rw [← e0] at cv
            clear hrd r1 e0
            go_wp2
            go_region_held3 (fun w' => w'.heap = w7.heap ∧ w'.cell? ⟨bm, om, none⟩ = some (.bool false) ∧ w'.cell? ⟨bl, ol, none⟩ = some (.string S0)) (exact ⟨rfl, y0, x0⟩) (fail)
            all_goals
              go_wp2
              go_ret
              refine ⟨by first | rfl | simp, ?_⟩
              have := B0.out
              exact below_of_drew (by first | exact this | exact this.drew)
end Go.Proofs.Ytiofdlkdpmomlaa
