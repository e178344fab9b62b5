/- A number taken out of one of one part more, as often as it goes in. -/
import Derived.Test.YtbcipningfdgoaaGuess
import Derived.Test.YtbcipningfdgoaaSubT
import Derived.Test.YtbcipningfdgoaaTimes
namespace Go.Proofs.Ytbcipningfdgoaa
open Go Go.Proofs Go.RowKit Go.Shelf Nu

attribute [local go_sem] Oper.semAt_some

/-- guess, of a row in a block that is written -/
theorem guess_row {w : World} {g o cap n : Nat} {pre post : List Value} {row lb : List Nat} {vb : Value} (hb : Blk w g pre row post) (ho : pre.length = o) (hB : Reads w vb lb) (hl : lb.length = n + 2) (hr : row.length = n + 3) (hn : n ≤ 100000) (hsr : Sm row) (hsb : Sm lb) (hv : 2147483648 ≤ lb.getD (n + 1) 0) (h : val row < 4294967296 * val lb) :
    Calls Try.prog 62 #[.slice (some ⟨g, o, none⟩) row.length cap, vb] w fun e w' => ∃ T : Nat, e = .returned (.int .u32 T) ∧ T < 4294967296 ∧ (T - 1) * val lb ≤ val row ∧ val row < (T + 1) * val lb ∧ ∃ m, w' = w.drewN m := by
  rcases hB with ⟨_, e⟩ | ⟨bb, ob, cb, rfl, hbb, hcb, hc⟩
  · rw [e] at hl; simp at hl
  · rw [hr, hl]
    exact guess_any (fun j hj => hb.cell ho j (by omega)) (fun j hj => hc j (by omega)) hr hl hn hsr hsb hv h

/-- one time too much was taken -/
def R_take (T : Nat) (row lb : List Nat) : Prop := val row < T * val lb ∧ val row / val lb = T - 1 ∧ val row + val lb - T * val lb = val row % val lb ∧ 0 < T
theorem back_once {P r2 c z X u : Nat} (hx : X < P * 4294967296) (hu : u = r2 + P * ((z + c) % 4294967296)) (hul : u < P * 4294967296)
    (h2 : r2 + P * (c + z) = X + P * 4294967296) : u = X := by
  have e : P * (c + z) = P * ((z + c) % 4294967296) + P * 4294967296 * ((z + c) / 4294967296) := by
    rw [Nat.mul_assoc, ← Nat.mul_add]
    congr 1
    omega
  generalize (z + c) / 4294967296 = k at e
  generalize P * 4294967296 = M at *
  rcases Nat.lt_or_ge k 1 with h | h
  · obtain rfl : k = 0 := by omega
    omega
  · rcases Nat.lt_or_ge 1 k with h3 | h3
    · have : M * 2 ≤ M * k := Nat.mul_le_mul_left _ h3
      omega
    · obtain rfl : k = 1 := by omega
      omega

theorem take_less {T : Nat} (hT : T < 4294967296) (h : 0 < T) : IntKind.u32.wrap ((T : Int) - 1) = ((T - 1 : Nat) : Int) := by
  rw [IntKind.wrap_u32']; omega
theorem take_val {row row' lb r2 : List Nat} {n q z c T : Nat} (h1 : row'.length = row.length) (h2 : row.length = n + 3) (h3 : lb.length = n + 2) (h4 : q = lb.length) (h5 : z = row'.getD q 0) (hs : Sm row') (hsb : Sm lb) (s2 : Sm r2) (_hc : c < 4294967296)
    (l2 : r2.length = q) (e5 : val r2 + 4294967296 ^ q * c = val (row'.take q) + 1 * val lb) (hv : val row' + T * val lb = val row + 4294967296 ^ row.length) (hT : R_take T row lb) :
    val ((r2 ++ row'.drop q).set q ((z + c) % 4294967296)) = val row % val lb := by
  obtain ⟨t1, t2, t3, t4⟩ := hT
  have hq : row'.length = q + 1 := by omega
  have hzb : z < 4294967296 := by rw [h5]; exact hs.getD q
  have ed : row'.drop q = [z] := by
    rw [List.drop_eq_getElem_cons (by omega), List.drop_of_length_le (by omega), h5, List.getD_eq_getElem?_getD, List.getElem?_eq_getElem (by omega)]; rfl
  have es : (r2 ++ [z]).set q ((z + c) % 4294967296) = r2 ++ [(z + c) % 4294967296] := by
    rw [List.set_append_right _ _ (by omega), l2, Nat.sub_self]; rfl
  have ev := val_take_succ row' q
  rw [List.take_of_length_le (by omega), ← h5] at ev
  rw [ed, es, val_snoc, l2]
  have hD0 : 0 < val lb := by
    rcases Nat.eq_zero_or_pos (val lb) with h | h
    · rw [h] at t1; simp at t1
    · exact h
  have hdl := val_lt hsb
  rw [← h4] at hdl
  have hm := Nat.mod_lt (val row) hD0
  have hdiv := Nat.div_mul_le_self (val row) (val lb)
  rw [t2] at hdiv
  have hTD : T * val lb = (T - 1) * val lb + val lb := by
    obtain ⟨t, rfl⟩ : ∃ t, T = t + 1 := ⟨T - 1, by omega⟩
    rw [Nat.add_sub_cancel, Nat.add_mul, Nat.one_mul]
  have hlen : row.length = q + 1 := by omega
  rw [hlen, Nat.pow_succ] at hv
  have hul := val_lt (s2.snoc (x := (z + c) % 4294967296) (by omega))
  rw [List.length_append, l2, List.length_singleton, Nat.pow_succ, val_snoc, l2] at hul
  have hP : 0 < 4294967296 ^ q := Nat.pow_pos (by decide)
  refine back_once (P := 4294967296 ^ q) (r2 := val r2) (c := c) (z := z) ?_ rfl hul ?_
  · generalize 4294967296 ^ q = P at *; omega
  · rw [Nat.mul_add]
    generalize 4294967296 ^ q = P at *
    generalize P * z = a at *
    generalize P * c = b at *
    omega

set_option maxRecDepth 100000 in
set_option maxHeartbeats 4000000 in
theorem takeOut_any {w : World} {g o cap n : Nat} {pre post : List Value} {row lb : List Nat} {vb : Value} (hb : Blk w g pre row post) (ho : pre.length = o) (hcap : row.length ≤ cap) (hB : Reads w vb lb) (hne : vb.ownBlock ≠ some g) (hl : lb.length = n + 2) (hr : row.length = n + 3) (hn : n ≤ 90000) (hso : o ≤ 1000000)
    (hsr : Sm row) (hsb : Sm lb) (hv : 2147483648 ≤ lb.getD (n + 1) 0) (h : val row < 4294967296 * val lb) :
    Calls Try.prog 58 #[.slice (some ⟨g, o, none⟩) row.length cap, vb] w fun e w' => ∃ (row' : List Nat) (q : Nat), e = .returned (.int .u32 q) ∧ q = val row / val lb ∧ q < 4294967296 ∧ Blk w' g pre row' post ∧ row'.length = row.length ∧ Sm row' ∧ val row' = val row % val lb ∧ w.grownBy w' (some g) := by
  have kg := guess_row (cap := cap) hb ho hB hl hr (by omega) hsr hsb hv h
  have ks : ∀ (T m : Nat), T < 4294967296 → _ := fun T m hT => subTimes_any (w := w.drewN m) (cap := cap) (t := T) (hb.kept (row := none) ⟨rfl, rfl, rfl, Nat.le_refl _, fun _ _ _ => rfl⟩ (by simp)) ho hcap (hB.below (W' := w.drewN m) ⟨rfl, rfl, rfl, Nat.le_refl _, fun _ _ => rfl⟩) hne (by omega) (by omega) hso hsr hsb hT
  have hB0 := hB
  obtain ⟨b1, d1, rfl⟩ := hB.form
  have hgl : ∀ m, (w.drewN m).heap.size = w.heap.size := fun _ => rfl
  go_enter Try.func58, Try.ntmps58
  have HV := Lib.hid hv
  have HH := Lib.hid h
  have HR := Lib.hid hr
  have HL := Lib.hid hl
  have HB := Lib.hid hB0
  clear hv h hr hl hB hB0
  go_wp2_with (first
    | (go_at_call 62; refine kg.mono ?_; clear kg; rintro e w' ⟨T, rfl, hT, hlo, hhi, m, rfl⟩; have HTO := Lib.hid (take_out hlo hhi); clear hlo hhi)
    | (go_at_call 63; refine (ks T m hT).mono ?_; clear ks; rintro e w2 ⟨row', b, rfl, hb2, hlen, hs2, hval, hg2⟩; have HVAL := Lib.hid hval; have HLEN := Lib.hid hlen; clear hval hlen; cases b))
  · have hv2 := HVAL.out
    simp only [Bool.false_eq_true, if_false, Nat.add_zero] at hv2
    go_ret
    rcases HTO.out with ⟨h1, h2, h3⟩ | ⟨h1, h2, h3, h4⟩
    · exact ⟨row', T, rfl, h2.symm, hT, hb2, HLEN.out, hs2, by omega, ⟨hg2.os, hg2.tape, hg2.output, hg2.size, hg2.block⟩⟩
    · omega
  · have hv2 := HVAL.out
    simp only [if_true] at hv2
    have hT0 : R_take T row lb := by
      rcases HTO.out with ⟨h1, h2, h3⟩ | h
      · have := val_lt hs2
        rw [HLEN.out] at this
        omega
      · exact h
    have HV2 := Lib.hid hv2
    have HT0 := Lib.hid hT0
    obtain ⟨q, hq⟩ : ∃ q, q = lb.length := ⟨_, rfl⟩
    have hq1 : q < row'.length := by rw [HLEN.out, HR.out, hq, HL.out]; omega
    have hbT : Blk w2 g pre (row'.take q ++ row'.drop q) post := by rw [List.take_append_drop]; exact hb2
    have hbS : Blk w2 g pre (row'.take q) ((row'.drop q).map u32v ++ post) := by
      have := (Blk.split (a := []) (b := row'.take q) (c := row'.drop q)).1 (by simpa using hbT)
      simpa using this
    have htl : (row'.take q).length = q := by rw [List.length_take]; omega
    have hgw := hb2.lt
    have hg2s := hg2.size
    have kadd := addTimes_any (w := w2.drew) (cap := cap) (t := 1) (lb := lb) (vb := .slice b1 lb.length d1) (hbS.kept (row := none) ⟨rfl, rfl, rfl, Nat.le_refl _, fun _ _ _ => rfl⟩ (by simp)) ho (by rw [htl]; have := HLEN.out; omega)
      ((HB.out.below (W' := w.drewN m) ⟨rfl, rfl, rfl, Nat.le_refl _, fun _ _ => rfl⟩).grown (g := g) (W := w2.drew) ⟨hg2.os, hg2.tape, hg2.output, hg2.size, hg2.block⟩ hne) hne (by rw [htl, hq]) (by have := HL.out; omega) hso (hs2.take q) hsb (by decide)
    rw [htl] at kadd
    have c1 := hb2.cell ho q hq1
    obtain ⟨z, hz⟩ : ∃ z, z = row'.getD q 0 := ⟨_, rfl⟩
    rw [← hz] at c1
    rw [← hq] at kadd ⊢
    have HZ := Lib.hid hz
    have HQ := Lib.hid hq
    have HQ1 := Lib.hid hq1
    have HTL := Lib.hid htl
    clear hz hq hv2 hT0 hbT
    have hqr : (q : Int) < (row.length : Int) := by have := HLEN.out; have := HQ1.out; omega
    have hqc : ¬ (cap : Int) < (q : Int) := by have := HLEN.out; have := HQ1.out; omega
    have hqc2 : ¬ cap < q := by omega
    have hzb : z < 4294967296 := by rw [HZ.out]; exact hs2.getD q
    refine wp_region_held (S := fun _ => True) (by kernel_rfl) ?_
    change wpAnyH _ _ _ _ _ _ _ _ w2.drew
    have c2 : w2.drew.cell? ⟨g, o + q, none⟩ = some (.int .u32 z) := c1
    refine wpAnyH_take (i := 0) (v := .slice (some ⟨g, o, none⟩) row.length cap) rfl (by kernel_rfl) (by kernel_rfl) (by kernel_rfl) (fun _ _ _ h => h) (Or.inl ⟨by rfl, fun W3 _ => by go_simp⟩) trivial ?_
    refine wpAnyH_take (i := 1) (v := .slice b1 q d1) rfl (by kernel_rfl) (by kernel_rfl) (by kernel_rfl) (fun _ _ _ h => h) (Or.inl ⟨by rfl, fun W3 _ => by go_simp⟩) trivial ?_
    refine wpAnyH_take (i := 2) (v := .int .i64 q) rfl (by kernel_rfl) (by kernel_rfl) (by kernel_rfl) (fun _ _ _ h => h) (Or.inl ⟨by rfl, fun W3 _ => by go_simp⟩) trivial ?_
    refine wpAnyH_take (i := 3) (v := .pointer (some ⟨g, o + q, none⟩)) rfl (by kernel_rfl) (by kernel_rfl) (by kernel_rfl) (fun _ _ _ h => h) (Or.inl ⟨by rfl, fun W3 _ => by go_simp⟩) trivial ?_
    refine wpAnyH_take (i := 5) (v := .slice (some ⟨g, o, none⟩) row.length cap) rfl (by kernel_rfl) (by kernel_rfl) (by kernel_rfl) (fun _ _ _ h => h) (Or.inl ⟨by rfl, fun W3 _ => by go_simp⟩) trivial ?_
    refine wpAnyH_take (i := 6) (v := .slice b1 q d1) rfl (by kernel_rfl) (by kernel_rfl) (by kernel_rfl) (fun _ _ _ h => h) (Or.inl ⟨by rfl, fun W3 _ => by go_simp⟩) trivial ?_
    refine wpAnyH_take (i := 7) (v := .int .i64 q) rfl (by kernel_rfl) (by kernel_rfl) (by kernel_rfl) (fun _ _ _ h => h) (Or.inl ⟨by rfl, fun W3 _ => by go_simp⟩) trivial ?_
    refine wpAnyH_take (i := 8) (v := .slice (some ⟨g, o, none⟩) q cap) rfl (by kernel_rfl) (by kernel_rfl) (by kernel_rfl) (fun _ _ _ h => h) (Or.inl ⟨by rfl, fun W3 _ => by go_simp⟩) trivial ?_
    refine wpAnyH_take (i := 9) (v := .slice b1 q d1) rfl (by kernel_rfl) (by kernel_rfl) (by kernel_rfl) (fun _ _ _ h => h) (Or.inl ⟨by rfl, fun W3 _ => by go_simp⟩) trivial ?_
    refine wpAnyH_all (rs := [4, 10]) (by kernel_rfl) (by simp) ?_
    intro i hi
    have hi2 : i = 4 ∨ i = 10 := by simpa using hi
    clear hi
    rcases hi2 with rfl | rfl
    · refine wpOp_intro rfl (fun K4 hK => ?_)
      go_simp
      refine hK _ _ ⟨trivial, ?_⟩
      clear hK K4
      refine wpAnyH_all (rs := [10]) (by kernel_rfl) (by simp) ?_
      intro i hi
      obtain rfl : i = 10 := by simpa using hi
      refine wpOp_intro rfl (fun K10 hK => ?_)
      clear hi
      go_simp
      refine kadd.mono ?_
      rintro e w4 ⟨r2, c, rfl, q1, q2, q3, q4, q5, q6⟩
      have Q5 := Lib.hid q5
      have Q2 := Lib.hid q2
      have q7 : Blk w4 g pre (r2 ++ row'.drop q) post := by
        have := (Blk.split (W := w4) (g := g) (pre := pre) (post := post) (a := []) (b := r2) (c := row'.drop q)).2 (by simpa using q1)
        simpa using this
      have hl7 : q < (r2 ++ row'.drop q).length := by have := HQ1.out; rw [List.length_append, List.length_drop, q2]; omega
      have ez : (r2 ++ row'.drop q).getD q 0 = z := by
        rw [List.getD_eq_getElem?_getD, List.getElem?_append_right (by omega), q2, Nat.sub_self, List.getElem?_drop, Nat.add_zero, ← List.getD_eq_getElem?_getD]
        exact HZ.out.symm
      have c7 := q7.cell ho q hl7
      have f7 := q7.frozen (o + q)
      rw [ez] at c7
      have q8 := q7.set ho q ((z + c) % 4294967296) hl7
      have HL7 := Lib.hid hl7
      refine hK _ _ ⟨trivial, ?_⟩
      clear hK K10 kadd q5 q2 q7 hl7 ez
      refine wpAnyH_take (i := 11) (v := .int .u32 (((z : Int) + (c : Int)) % 4294967296)) rfl (by kernel_rfl) (by kernel_rfl) (by kernel_rfl) (fun _ _ _ h => h) (Or.inl ⟨by rfl, fun W3 _ => by go_simp; rw [IntKind.wrap_u32']⟩) trivial ?_
      refine wpAnyH_take (i := 12) (v := .pointer (some ⟨g, o + q, none⟩)) rfl (by kernel_rfl) (by kernel_rfl) (by kernel_rfl) (fun _ _ _ h => h) (Or.inl ⟨by rfl, fun W3 _ => by go_simp⟩) trivial ?_
      refine wpAnyH_all (rs := [13]) (by kernel_rfl) (by simp) ?_
      intro i hi
      obtain rfl : i = 13 := by simpa using hi
      refine wpOp_intro rfl (fun K13 hK => ?_)
      clear hi
      go_simp
      refine hK _ _ ⟨trivial, ?_⟩
      clear hK K13
      refine wpAnyH_done (by kernel_rfl) ?_ _
      have uT := take_less hT HT0.out.2.2.2
      go_wp2
      go_ret
      rw [show (((z + c) % 4294967296 : Nat) : Int) = ((z : Int) + (c : Int)) % 4294967296 by omega] at q8
      refine ⟨_, T - 1, rfl, HT0.out.2.1.symm, by omega, q8, ?_, (q3.append (hs2.drop q)).set _ _ (by omega), ?_, grown_setCell (show w.grownBy w4 (some g) from ⟨q6.os.trans hg2.os, q6.tape.trans hg2.tape, q6.output.trans hg2.output, Nat.le_trans hg2.size q6.size, fun k hk hne => (q6.block k (Nat.lt_of_lt_of_le hk hg2.size) hne).trans (hg2.block k hk hne)⟩) _ _⟩
      · rw [List.length_set, List.length_append, List.length_drop, Q2.out]; have := HQ1.out; have := HLEN.out; omega
      · exact take_val HLEN.out HR.out HL.out HQ.out HZ.out hs2 hsb q3 q4 Q2.out Q5.out HV2.out HT0.out
    · refine wpOp_intro rfl (fun K10 hK => ?_)
      go_simp
      refine kadd.mono ?_
      rintro e w4 ⟨r2, c, rfl, q1, q2, q3, q4, q5, q6⟩
      have Q5 := Lib.hid q5
      have Q2 := Lib.hid q2
      have q7 : Blk w4 g pre (r2 ++ row'.drop q) post := by
        have := (Blk.split (W := w4) (g := g) (pre := pre) (post := post) (a := []) (b := r2) (c := row'.drop q)).2 (by simpa using q1)
        simpa using this
      have hl7 : q < (r2 ++ row'.drop q).length := by have := HQ1.out; rw [List.length_append, List.length_drop, q2]; omega
      have ez : (r2 ++ row'.drop q).getD q 0 = z := by
        rw [List.getD_eq_getElem?_getD, List.getElem?_append_right (by omega), q2, Nat.sub_self, List.getElem?_drop, Nat.add_zero, ← List.getD_eq_getElem?_getD]
        exact HZ.out.symm
      have c7 := q7.cell ho q hl7
      have f7 := q7.frozen (o + q)
      rw [ez] at c7
      have q8 := q7.set ho q ((z + c) % 4294967296) hl7
      have HL7 := Lib.hid hl7
      refine hK _ _ ⟨trivial, ?_⟩
      clear hK K10 kadd q5 q2 q7 hl7 ez
      refine wpAnyH_all (rs := [4]) (by kernel_rfl) (by simp) ?_
      intro i hi
      obtain rfl : i = 4 := by simpa using hi
      refine wpOp_intro rfl (fun K4 hK => ?_)
      clear hi
      go_simp
      refine hK _ _ ⟨trivial, ?_⟩
      clear hK K4
      refine wpAnyH_take (i := 11) (v := .int .u32 (((z : Int) + (c : Int)) % 4294967296)) rfl (by kernel_rfl) (by kernel_rfl) (by kernel_rfl) (fun _ _ _ h => h) (Or.inl ⟨by rfl, fun W3 _ => by go_simp; rw [IntKind.wrap_u32']⟩) trivial ?_
      refine wpAnyH_take (i := 12) (v := .pointer (some ⟨g, o + q, none⟩)) rfl (by kernel_rfl) (by kernel_rfl) (by kernel_rfl) (fun _ _ _ h => h) (Or.inl ⟨by rfl, fun W3 _ => by go_simp⟩) trivial ?_
      refine wpAnyH_all (rs := [13]) (by kernel_rfl) (by simp) ?_
      intro i hi
      obtain rfl : i = 13 := by simpa using hi
      refine wpOp_intro rfl (fun K13 hK => ?_)
      clear hi
      go_simp
      refine hK _ _ ⟨trivial, ?_⟩
      clear hK K13
      refine wpAnyH_done (by kernel_rfl) ?_ _
      have uT := take_less hT HT0.out.2.2.2
      go_wp2
      go_ret
      rw [show (((z + c) % 4294967296 : Nat) : Int) = ((z : Int) + (c : Int)) % 4294967296 by omega] at q8
      refine ⟨_, T - 1, rfl, HT0.out.2.1.symm, by omega, q8, ?_, (q3.append (hs2.drop q)).set _ _ (by omega), ?_, grown_setCell (show w.grownBy w4 (some g) from ⟨q6.os.trans hg2.os, q6.tape.trans hg2.tape, q6.output.trans hg2.output, Nat.le_trans hg2.size q6.size, fun k hk hne => (q6.block k (Nat.lt_of_lt_of_le hk hg2.size) hne).trans (hg2.block k hk hne)⟩) _ _⟩
      · rw [List.length_set, List.length_append, List.length_drop, Q2.out]; have := HQ1.out; have := HLEN.out; omega
      · exact take_val HLEN.out HR.out HL.out HQ.out HZ.out hs2 hsb q3 q4 Q2.out Q5.out HV2.out HT0.out

end Go.Proofs.Ytbcipningfdgoaa
