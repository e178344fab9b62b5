/- Lines: some answers that the document fixes, walked. -/
import Derived.Test.YtiofdlkdpmomlaaLnD
import Derived.Test.YtiofdlkdpmomlaaLnP
namespace Go.Proofs.Ytiofdlkdpmomlaa
open Go Go.Proofs Go.RowKit Go.Shelf
set_option linter.unusedVariables false
set_option linter.unusedSimpArgs false
set_option linter.unnecessarySimpa false

attribute [local go_sem] Oper.semAt_some
theorem then_below {w W W' : World} (h : Below w.heap.size w W) (hb : Below W.heap.size W W') : Below w.heap.size w W' := h.trans (hb.mono h.size)
set_option maxRecDepth 100000 in
set_option maxHeartbeats 8000000 in
theorem l_alive (w : World) : Calls Try.prog 9 #[] w fun e w' => e = .returned (.bool true) ∧ Below w.heap.size w w' := by
  go_enter Try.func9, Try.ntmps9
  go_wp2_with fail
  refine (pnew_any _).mono ?_
  rintro e w1 ⟨P, rfl, ⟨own0, _, hr⟩, rr⟩
  have R := Lib.hid (hr w.heap.size (Nat.le_refl _))
  have B0 := Lib.hid rr
  clear hr rr
  have hcv := conv_mark w1 #[.int .u8 97, .int .u8 98] 2 2 2 rfl
  go_wp2_with fail
  clear hcv
  have hk := Lib.hid (lit_keep (2, 3) R.out (l := [97, 98]) (cs := #[.int .u8 97, .int .u8 98]) rfl (m := 2) rfl)
  have ba := alloc_below w1 (.cells #[.int .u8 97, .int .u8 98] 5 (2, 3))
  replace R := Lib.hid (R.out.below ba)
  replace B0 := Lib.hid (then_below B0.out ba)
  clear ba
  refine (pput_any (l := [97, 98]) R.out hk.out (by simp) (by simp)).mono ?_
  rintro e w2 ⟨vLa, vLb, own2, rfl, A0⟩
  have A := Lib.hid A0
  clear A0 hk
  replace R := Lib.hid (A.out.rd [97, 98] (by decide))
  replace B0 := Lib.hid (B0.out.trans A.out.low)
  have La := Lib.hid (A.out.texts [] (by decide))
  have Lb := Lib.hid (A.out.truths [] (by decide))
  clear A
  obtain ⟨aLa, cLa, eLa⟩ := La.out.form
  subst eLa
  obtain ⟨aLb, cLb, eLb⟩ := Lb.out.form
  subst eLb
  go_wp2_with fail
  refine (pleft_at R.out 2 (by decide)).mono ?_
  rintro e w3 ⟨rfl, rr⟩
  replace R := Lib.hid (R.out.below rr)
  replace La := Lib.hid (La.out.below rr)
  replace Lb := Lib.hid (Lb.out.below rr)
  replace B0 := Lib.hid (then_below B0.out rr)
  clear rr
  have hcv := conv_mark w3 #[.int .u8 99, .int .u8 13, .int .u8 10, .int .u8 100, .int .u8 10, .int .u8 10] 6 6 6 rfl
  go_wp2_with fail
  clear hcv
  have hk := Lib.hid (lit_keep (6, 7) R.out (l := [99, 13, 10, 100, 10, 10]) (cs := #[.int .u8 99, .int .u8 13, .int .u8 10, .int .u8 100, .int .u8 10, .int .u8 10]) rfl (m := 6) rfl)
  have ba := alloc_below w3 (.cells #[.int .u8 99, .int .u8 13, .int .u8 10, .int .u8 100, .int .u8 10, .int .u8 10] 5 (6, 7))
  replace R := Lib.hid (R.out.below ba)
  replace La := Lib.hid (La.out.below ba)
  replace Lb := Lib.hid (Lb.out.below ba)
  replace B0 := Lib.hid (then_below B0.out ba)
  clear ba
  refine (pput_any (l := [99, 13, 10, 100, 10, 10]) R.out hk.out (by simp) (by simp)).mono ?_
  rintro e w4 ⟨vLc, vLd, own4, rfl, A0⟩
  have A := Lib.hid A0
  clear A0 hk
  replace La := Lib.hid (A.out.held A.out.size La.out)
  replace Lb := Lib.hid (A.out.held A.out.size Lb.out)
  replace R := Lib.hid (A.out.rd [] (by decide))
  replace B0 := Lib.hid (B0.out.trans A.out.low)
  have Lc := Lib.hid (A.out.texts [[97, 98, 99], [100], []] (by decide))
  have Ld := Lib.hid (A.out.truths [false, false, false] (by decide))
  clear A
  obtain ⟨aLc, cLc, eLc⟩ := Lc.out.form
  subst eLc
  obtain ⟨aLd, cLd, eLd⟩ := Ld.out.form
  subst eLd
  have hcv := conv_mark w4 #[.int .u8 97, .int .u8 0, .int .u8 10, .int .u8 98, .int .u8 13, .int .u8 99, .int .u8 10, .int .u8 9, .int .u8 10] 9 9 9 rfl
  go_wp2_with fail
  clear hcv
  have hk := Lib.hid (lit_keep (9, 10) R.out (l := [97, 0, 10, 98, 13, 99, 10, 9, 10]) (cs := #[.int .u8 97, .int .u8 0, .int .u8 10, .int .u8 98, .int .u8 13, .int .u8 99, .int .u8 10, .int .u8 9, .int .u8 10]) rfl (m := 9) rfl)
  have ba := alloc_below w4 (.cells #[.int .u8 97, .int .u8 0, .int .u8 10, .int .u8 98, .int .u8 13, .int .u8 99, .int .u8 10, .int .u8 9, .int .u8 10] 5 (9, 10))
  replace R := Lib.hid (R.out.below ba)
  replace La := Lib.hid (La.out.below ba)
  replace Lb := Lib.hid (Lb.out.below ba)
  replace Lc := Lib.hid (Lc.out.below ba)
  replace Ld := Lib.hid (Ld.out.below ba)
  replace B0 := Lib.hid (then_below B0.out ba)
  clear ba
  refine (pput_any (l := [97, 0, 10, 98, 13, 99, 10, 9, 10]) R.out hk.out (by simp) (by simp)).mono ?_
  rintro e w5 ⟨vLe, vLf, own5, rfl, A0⟩
  have A := Lib.hid A0
  clear A0 hk
  replace La := Lib.hid (A.out.held A.out.size La.out)
  replace Lb := Lib.hid (A.out.held A.out.size Lb.out)
  replace Lc := Lib.hid (A.out.held A.out.size Lc.out)
  replace Ld := Lib.hid (A.out.held A.out.size Ld.out)
  replace R := Lib.hid (A.out.rd [] (by decide))
  replace B0 := Lib.hid (B0.out.trans A.out.low)
  have Le := Lib.hid (A.out.texts [[], [], [9]] (by decide))
  have Lf := Lib.hid (A.out.truths [true, true, false] (by decide))
  clear A
  obtain ⟨aLe, cLe, eLe⟩ := Le.out.form
  subst eLe
  obtain ⟨aLf, cLf, eLf⟩ := Lf.out.form
  subst eLf
  go_wp2_with fail
  have hl := Lib.hid (lit_rdc w5 (t := 9) (xs := scells [[97, 98, 99], [100], []]) (cs := #[.string ⟨#[97, 98, 99]⟩, .string ⟨#[100]⟩, .string ⟨#[]⟩]) rfl (m := 3) rfl)
  have ba := alloc_below w5 (.cells #[.string ⟨#[97, 98, 99]⟩, .string ⟨#[100]⟩, .string ⟨#[]⟩] 9)
  replace R := Lib.hid (R.out.below ba)
  replace La := Lib.hid (La.out.below ba)
  replace Lb := Lib.hid (Lb.out.below ba)
  replace Lc := Lib.hid (Lc.out.below ba)
  replace Ld := Lib.hid (Ld.out.below ba)
  replace Le := Lib.hid (Le.out.below ba)
  replace Lf := Lib.hid (Lf.out.below ba)
  replace B0 := Lib.hid (then_below B0.out ba)
  clear ba
  refine (sameTexts_any (ws := [[97, 98, 99], [100], []]) Lc.out.rd hl.out (by simp)).mono ?_
  rintro e w6 ⟨rfl, rr⟩
  replace R := Lib.hid (R.out.below rr)
  replace La := Lib.hid (La.out.below rr)
  replace Lb := Lib.hid (Lb.out.below rr)
  replace Lc := Lib.hid (Lc.out.below rr)
  replace Ld := Lib.hid (Ld.out.below rr)
  replace Le := Lib.hid (Le.out.below rr)
  replace Lf := Lib.hid (Lf.out.below rr)
  replace B0 := Lib.hid (then_below B0.out rr)
  clear rr
  clear hl
  go_wp2_with fail
  have hl := Lib.hid (lit_rdc w6 (t := 4) (xs := ([false, false, false] : List Bool).map tcellB) (cs := #[.bool false, .bool false, .bool false]) rfl (m := 3) rfl)
  have ba := alloc_below w6 (.cells #[.bool false, .bool false, .bool false] 4)
  replace R := Lib.hid (R.out.below ba)
  replace La := Lib.hid (La.out.below ba)
  replace Lb := Lib.hid (Lb.out.below ba)
  replace Lc := Lib.hid (Lc.out.below ba)
  replace Ld := Lib.hid (Ld.out.below ba)
  replace Le := Lib.hid (Le.out.below ba)
  replace Lf := Lib.hid (Lf.out.below ba)
  replace B0 := Lib.hid (then_below B0.out ba)
  clear ba
  refine (sameBools_any (bs := [false, false, false]) Ld.out.rd hl.out (by simp)).mono ?_
  rintro e w7 ⟨rfl, rr⟩
  replace R := Lib.hid (R.out.below rr)
  replace La := Lib.hid (La.out.below rr)
  replace Lb := Lib.hid (Lb.out.below rr)
  replace Lc := Lib.hid (Lc.out.below rr)
  replace Ld := Lib.hid (Ld.out.below rr)
  replace Le := Lib.hid (Le.out.below rr)
  replace Lf := Lib.hid (Lf.out.below rr)
  replace B0 := Lib.hid (then_below B0.out rr)
  clear rr
  clear hl
  go_wp2_with fail
  have hl := Lib.hid (lit_rdc w7 (t := 9) (xs := scells [[], [], [9]]) (cs := #[.string ⟨#[]⟩, .string ⟨#[]⟩, .string ⟨#[9]⟩]) rfl (m := 3) rfl)
  have ba := alloc_below w7 (.cells #[.string ⟨#[]⟩, .string ⟨#[]⟩, .string ⟨#[9]⟩] 9)
  replace R := Lib.hid (R.out.below ba)
  replace La := Lib.hid (La.out.below ba)
  replace Lb := Lib.hid (Lb.out.below ba)
  replace Lc := Lib.hid (Lc.out.below ba)
  replace Ld := Lib.hid (Ld.out.below ba)
  replace Le := Lib.hid (Le.out.below ba)
  replace Lf := Lib.hid (Lf.out.below ba)
  replace B0 := Lib.hid (then_below B0.out ba)
  clear ba
  refine (sameTexts_any (ws := [[], [], [9]]) Le.out.rd hl.out (by simp)).mono ?_
  rintro e w8 ⟨rfl, rr⟩
  replace R := Lib.hid (R.out.below rr)
  replace La := Lib.hid (La.out.below rr)
  replace Lb := Lib.hid (Lb.out.below rr)
  replace Lc := Lib.hid (Lc.out.below rr)
  replace Ld := Lib.hid (Ld.out.below rr)
  replace Le := Lib.hid (Le.out.below rr)
  replace Lf := Lib.hid (Lf.out.below rr)
  replace B0 := Lib.hid (then_below B0.out rr)
  clear rr
  clear hl
  go_wp2_with fail
  have hl := Lib.hid (lit_rdc w8 (t := 4) (xs := ([true, true, false] : List Bool).map tcellB) (cs := #[.bool true, .bool true, .bool false]) rfl (m := 3) rfl)
  have ba := alloc_below w8 (.cells #[.bool true, .bool true, .bool false] 4)
  replace R := Lib.hid (R.out.below ba)
  replace La := Lib.hid (La.out.below ba)
  replace Lb := Lib.hid (Lb.out.below ba)
  replace Lc := Lib.hid (Lc.out.below ba)
  replace Ld := Lib.hid (Ld.out.below ba)
  replace Le := Lib.hid (Le.out.below ba)
  replace Lf := Lib.hid (Lf.out.below ba)
  replace B0 := Lib.hid (then_below B0.out ba)
  clear ba
  refine (sameBools_any (bs := [true, true, false]) Lf.out.rd hl.out (by simp)).mono ?_
  rintro e w9 ⟨rfl, rr⟩
  replace R := Lib.hid (R.out.below rr)
  replace La := Lib.hid (La.out.below rr)
  replace Lb := Lib.hid (Lb.out.below rr)
  replace Lc := Lib.hid (Lc.out.below rr)
  replace Ld := Lib.hid (Ld.out.below rr)
  replace Le := Lib.hid (Le.out.below rr)
  replace Lf := Lib.hid (Lf.out.below rr)
  replace B0 := Lib.hid (then_below B0.out rr)
  clear rr
  clear hl
  go_wp2_with fail
  refine (pleft_at R.out 0 (by decide)).mono ?_
  rintro e w10 ⟨rfl, rr⟩
  replace R := Lib.hid (R.out.below rr)
  replace La := Lib.hid (La.out.below rr)
  replace Lb := Lib.hid (Lb.out.below rr)
  replace Lc := Lib.hid (Lc.out.below rr)
  replace Ld := Lib.hid (Ld.out.below rr)
  replace Le := Lib.hid (Le.out.below rr)
  replace Lf := Lib.hid (Lf.out.below rr)
  replace B0 := Lib.hid (then_below B0.out rr)
  clear rr
  go_wp2_with fail
  have hw := pwords_any ⟨#[32, 97, 32, 32, 98, 9, 99, 32]⟩ w10 (by decide)
  refine hw.mono ?_
  clear hw
  rintro e w11 ⟨vw, rfl, g, rr⟩
  have LW := Lib.hid (show RdC w11 vw 3 (scells [[97], [98], [99]]) from own_rdc g)
  replace R := Lib.hid (R.out.below rr)
  replace La := Lib.hid (La.out.below rr)
  replace Lb := Lib.hid (Lb.out.below rr)
  replace Lc := Lib.hid (Lc.out.below rr)
  replace Ld := Lib.hid (Ld.out.below rr)
  replace Le := Lib.hid (Le.out.below rr)
  replace Lf := Lib.hid (Lf.out.below rr)
  replace B0 := Lib.hid (then_below B0.out rr)
  clear rr g
  go_wp2_with fail
  have hl := Lib.hid (lit_rdc w11 (t := 9) (xs := scells [[97], [98], [99]]) (cs := #[.string ⟨#[97]⟩, .string ⟨#[98]⟩, .string ⟨#[99]⟩]) rfl (m := 3) rfl)
  have ba := alloc_below w11 (.cells #[.string ⟨#[97]⟩, .string ⟨#[98]⟩, .string ⟨#[99]⟩] 9)
  replace R := Lib.hid (R.out.below ba)
  replace La := Lib.hid (La.out.below ba)
  replace Lb := Lib.hid (Lb.out.below ba)
  replace Lc := Lib.hid (Lc.out.below ba)
  replace Ld := Lib.hid (Ld.out.below ba)
  replace Le := Lib.hid (Le.out.below ba)
  replace Lf := Lib.hid (Lf.out.below ba)
  replace LW := Lib.hid (LW.out.below ba)
  replace B0 := Lib.hid (then_below B0.out ba)
  clear ba
  refine (sameTexts_any (ws := [[97], [98], [99]]) LW.out hl.out (by simp)).mono ?_
  rintro e w12 ⟨rfl, rr⟩
  replace R := Lib.hid (R.out.below rr)
  replace La := Lib.hid (La.out.below rr)
  replace Lb := Lib.hid (Lb.out.below rr)
  replace Lc := Lib.hid (Lc.out.below rr)
  replace Ld := Lib.hid (Ld.out.below rr)
  replace Le := Lib.hid (Le.out.below rr)
  replace Lf := Lib.hid (Lf.out.below rr)
  replace LW := Lib.hid (LW.out.below rr)
  replace B0 := Lib.hid (then_below B0.out rr)
  clear rr
  go_wp2_with fail
  go_ret
  exact ⟨rfl, B0.out⟩
end Go.Proofs.Ytiofdlkdpmomlaa
