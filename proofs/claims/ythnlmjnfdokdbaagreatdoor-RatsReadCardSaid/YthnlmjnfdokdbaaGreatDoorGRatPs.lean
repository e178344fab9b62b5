/- Fractions: what any text is read as: the program's split and Parse, case by case. -/
import Derived.Test.YthnlmjnfdokdbaaGreatDoorGRatLit
set_option linter.unusedSimpArgs false
set_option linter.unusedVariables false
namespace Go.Proofs.YthnlmjnfdokdbaaGreatDoor
open Go Go.Proofs Go.RowKit Go.Shelf Nu

attribute [local go_sem] Oper.semAt_some

theorem not_nought {d : ByteArray} (h : d ≠ ⟨#[48]⟩) : (d.toList == [48]) = false ∧ (¬ d.toList = [48]) ∧ (decide (d = ⟨#[48]⟩) = false) := by
  have h2 : ¬ d.toList = [48] := fun e => h (ext_lit _ _ (by rw [← Lib.toList_data]; exact e))
  exact ⟨beq_eq_false_iff_ne.2 h2, h2, decide_eq_false h⟩
theorem no_bytesR (d : ByteArray) (h : d.size = 0) : d = ⟨#[]⟩ := by
  rcases d with ⟨⟨l⟩⟩
  cases l with
  | nil => rfl
  | cons a l => simp [ByteArray.size] at h
theorem some_bytesR (d : ByteArray) (h : d.size ≠ 0) : (d.toList == ([] : List UInt8)) = false ∧ d.toList.isEmpty = false ∧ (¬ d.toList = []) ∧ ¬ d = ⟨#[]⟩ := by
  rcases d with ⟨⟨l⟩⟩
  cases l with
  | nil => simp [ByteArray.size] at h
  | cons a l => refine ⟨by rw [Lib.toList_data]; rfl, by rw [Lib.toList_data]; rfl, by rw [Lib.toList_data]; simp, by simp⟩

section
variable {w : World} {s rest num den : ByteArray} {neg : Bool}
set_option maxRecDepth 100000 in
set_option maxHeartbeats 2000000 in
theorem ps_f1 {E2 : Int} (hk : ∀ W, Calls Tryz.prog 119 #[.string s, .string ⟨#[45]⟩] W fun e w' => e = .returned (.tuple #[.string rest, .bool neg]) ∧ w' = W)
    (hs : ∀ W, Calls Tryz.prog 120 #[.string rest] W fun e w' => e = .returned (.tuple #[.string num, .string den]) ∧ Below W.heap.size W w')
    (k1 : ∀ W, Calls Tryz.prog 121 #[.string num] W fun e w' => ∃ a n c, e = .returned (.tuple #[.slice a n c, .int .i64 4]) ∧ Below W.heap.size W w')
    (k2 : ∀ W, Calls Tryz.prog 121 #[.string den] W fun e w' => ∃ a n c, e = .returned (.tuple #[.slice a n c, .int .i64 E2]) ∧ Below W.heap.size W w') :
    Calls Tryz.prog 34 #[.string s] w fun e w' => e = .returned (.tuple #[.agg #[.bool false, .slice none 0 0, .slice none 0 0], .int .i64 4]) ∧ Below w.heap.size w w' := by
  have HK := Lib.hid hk
  have HS := Lib.hid hs
  have K1 := Lib.hid k1
  have K2 := Lib.hid k2
  have M : Mem w [(w.heap.size, 27, [.bool false, .slice none 0 0, .slice none 0 0])] [] (w.alloc (.cells #[.bool false, .slice none 0 0, .slice none 0 0] 27)) := (Mem.start w).new _ _
  clear hk hs k1 k2
  go_enter Tryz.func34, Tryz.ntmps34
  go_wp2_with fail
  refine (HK.out _).mono ?_
  rintro e w0 ⟨rfl, hw⟩
  subst w0
  go_wp2_with fail
  refine (HS.out _).mono ?_
  rintro e w1 ⟨rfl, rr⟩
  have M' := M.up rr; clear M rr; have M := M'; clear M'
  go_wp2_with fail
  refine (K1.out _).mono ?_
  rintro e w2 ⟨a1, n1, c1, rfl, rr⟩
  have M' := M.up rr; clear M rr; have M := M'; clear M'
  go_wp2_with fail
  refine (K2.out _).mono ?_
  rintro e w3 ⟨a2, n2, c2, rfl, rr⟩
  have M' := M.up rr; clear M rr; have M := M'; clear M'
  have z0 := M.cell 0 rfl 0 rfl; have z1 := M.cell 0 rfl 1 rfl; have z2 := M.cell 0 rfl 2 rfl; have f0 := M.fr 0 rfl 0; have f1 := M.fr 0 rfl 1; have f2 := M.fr 0 rfl 2
  go_wp2_with fail
  have M' := ((M.put 0 rfl rfl 0 (.bool false)).put 0 rfl rfl 1 (.slice none 0 0)).put 0 rfl rfl 2 (.slice none 0 0)
  refine ret_boxN_tmp rfl rfl rfl (M'.box 0 rfl) Tryz.underlying27 size_rat rfl ?_
  exact ⟨rfl, M'.below⟩
set_option maxRecDepth 100000 in
set_option maxHeartbeats 2000000 in
theorem ps_f2 {E1 : Int} (h1 : (E1 == 4) = false) (hk : ∀ W, Calls Tryz.prog 119 #[.string s, .string ⟨#[45]⟩] W fun e w' => e = .returned (.tuple #[.string rest, .bool neg]) ∧ w' = W)
    (hs : ∀ W, Calls Tryz.prog 120 #[.string rest] W fun e w' => e = .returned (.tuple #[.string num, .string den]) ∧ Below W.heap.size W w')
    (k1 : ∀ W, Calls Tryz.prog 121 #[.string num] W fun e w' => ∃ a n c, e = .returned (.tuple #[.slice a n c, .int .i64 E1]) ∧ Below W.heap.size W w')
    (k2 : ∀ W, Calls Tryz.prog 121 #[.string den] W fun e w' => ∃ a n c, e = .returned (.tuple #[.slice a n c, .int .i64 4]) ∧ Below W.heap.size W w') :
    Calls Tryz.prog 34 #[.string s] w fun e w' => e = .returned (.tuple #[.agg #[.bool false, .slice none 0 0, .slice none 0 0], .int .i64 4]) ∧ Below w.heap.size w w' := by
  have HK := Lib.hid hk
  have HS := Lib.hid hs
  have K1 := Lib.hid k1
  have K2 := Lib.hid k2
  have M : Mem w [(w.heap.size, 27, [.bool false, .slice none 0 0, .slice none 0 0])] [] (w.alloc (.cells #[.bool false, .slice none 0 0, .slice none 0 0] 27)) := (Mem.start w).new _ _
  clear hk hs k1 k2
  go_enter Tryz.func34, Tryz.ntmps34
  go_wp2_with fail
  refine (HK.out _).mono ?_
  rintro e w0 ⟨rfl, hw⟩
  subst w0
  go_wp2_with fail
  refine (HS.out _).mono ?_
  rintro e w1 ⟨rfl, rr⟩
  have M' := M.up rr; clear M rr; have M := M'; clear M'
  go_wp2_with fail
  refine (K1.out _).mono ?_
  rintro e w2 ⟨a1, n1, c1, rfl, rr⟩
  have M' := M.up rr; clear M rr; have M := M'; clear M'
  go_wp2_with fail
  refine (K2.out _).mono ?_
  rintro e w3 ⟨a2, n2, c2, rfl, rr⟩
  have M' := M.up rr; clear M rr; have M := M'; clear M'
  have z0 := M.cell 0 rfl 0 rfl; have z1 := M.cell 0 rfl 1 rfl; have z2 := M.cell 0 rfl 2 rfl; have f0 := M.fr 0 rfl 0; have f1 := M.fr 0 rfl 1; have f2 := M.fr 0 rfl 2
  go_wp2_with fail
  have M' := ((M.put 0 rfl rfl 0 (.bool false)).put 0 rfl rfl 1 (.slice none 0 0)).put 0 rfl rfl 2 (.slice none 0 0)
  refine ret_boxN_tmp rfl rfl rfl (M'.box 0 rfl) Tryz.underlying27 size_rat rfl ?_
  exact ⟨rfl, M'.below⟩
set_option maxRecDepth 100000 in
set_option maxHeartbeats 2000000 in
theorem ps_f3 {E1 E2 : Int} (h1 : (E1 == 4) = false) (h2 : (E2 == 4) = false) (hk : ∀ W, Calls Tryz.prog 119 #[.string s, .string ⟨#[45]⟩] W fun e w' => e = .returned (.tuple #[.string rest, .bool neg]) ∧ w' = W)
    (hs : ∀ W, Calls Tryz.prog 120 #[.string rest] W fun e w' => e = .returned (.tuple #[.string num, .string ⟨#[48]⟩]) ∧ Below W.heap.size W w')
    (k1 : ∀ W, Calls Tryz.prog 121 #[.string num] W fun e w' => ∃ a n c, e = .returned (.tuple #[.slice a n c, .int .i64 E1]) ∧ Below W.heap.size W w')
    (k2 : ∀ W, Calls Tryz.prog 121 #[.string ⟨#[48]⟩] W fun e w' => ∃ a n c, e = .returned (.tuple #[.slice a n c, .int .i64 E2]) ∧ Below W.heap.size W w') :
    Calls Tryz.prog 34 #[.string s] w fun e w' => e = .returned (.tuple #[.agg #[.bool false, .slice none 0 0, .slice none 0 0], .int .i64 4]) ∧ Below w.heap.size w w' := by
  have HK := Lib.hid hk
  have HS := Lib.hid hs
  have K1 := Lib.hid k1
  have K2 := Lib.hid k2
  have M : Mem w [(w.heap.size, 27, [.bool false, .slice none 0 0, .slice none 0 0])] [] (w.alloc (.cells #[.bool false, .slice none 0 0, .slice none 0 0] 27)) := (Mem.start w).new _ _
  clear hk hs k1 k2
  go_enter Tryz.func34, Tryz.ntmps34
  go_wp2_with fail
  refine (HK.out _).mono ?_
  rintro e w0 ⟨rfl, hw⟩
  subst w0
  go_wp2_with fail
  refine (HS.out _).mono ?_
  rintro e w1 ⟨rfl, rr⟩
  have M' := M.up rr; clear M rr; have M := M'; clear M'
  go_wp2_with fail
  refine (K1.out _).mono ?_
  rintro e w2 ⟨a1, n1, c1, rfl, rr⟩
  have M' := M.up rr; clear M rr; have M := M'; clear M'
  go_wp2_with fail
  refine (K2.out _).mono ?_
  rintro e w3 ⟨a2, n2, c2, rfl, rr⟩
  have M' := M.up rr; clear M rr; have M := M'; clear M'
  have z0 := M.cell 0 rfl 0 rfl; have z1 := M.cell 0 rfl 1 rfl; have z2 := M.cell 0 rfl 2 rfl; have f0 := M.fr 0 rfl 0; have f1 := M.fr 0 rfl 1; have f2 := M.fr 0 rfl 2
  go_wp2_with fail
  have M' := ((M.put 0 rfl rfl 0 (.bool false)).put 0 rfl rfl 1 (.slice none 0 0)).put 0 rfl rfl 2 (.slice none 0 0)
  refine ret_boxN_tmp rfl rfl rfl (M'.box 0 rfl) Tryz.underlying27 size_rat rfl ?_
  exact ⟨rfl, M'.below⟩
set_option maxRecDepth 100000 in
set_option maxHeartbeats 2000000 in
theorem ps_f4 {E1 E2 : Int} (h1 : (E1 == 4) = false) (h2 : (E2 == 4) = false) (hd : den ≠ ⟨#[48]⟩) (hk : ∀ W, Calls Tryz.prog 119 #[.string s, .string ⟨#[45]⟩] W fun e w' => e = .returned (.tuple #[.string rest, .bool true]) ∧ w' = W)
    (hs : ∀ W, Calls Tryz.prog 120 #[.string rest] W fun e w' => e = .returned (.tuple #[.string ⟨#[48]⟩, .string den]) ∧ Below W.heap.size W w')
    (k1 : ∀ W, Calls Tryz.prog 121 #[.string ⟨#[48]⟩] W fun e w' => ∃ a n c, e = .returned (.tuple #[.slice a n c, .int .i64 E1]) ∧ Below W.heap.size W w')
    (k2 : ∀ W, Calls Tryz.prog 121 #[.string den] W fun e w' => ∃ a n c, e = .returned (.tuple #[.slice a n c, .int .i64 E2]) ∧ Below W.heap.size W w') :
    Calls Tryz.prog 34 #[.string s] w fun e w' => e = .returned (.tuple #[.agg #[.bool false, .slice none 0 0, .slice none 0 0], .int .i64 4]) ∧ Below w.heap.size w w' := by
  obtain ⟨d1, d2, d3⟩ := not_nought hd
  have HK := Lib.hid hk
  have HS := Lib.hid hs
  have K1 := Lib.hid k1
  have K2 := Lib.hid k2
  have M : Mem w [(w.heap.size, 27, [.bool false, .slice none 0 0, .slice none 0 0])] [] (w.alloc (.cells #[.bool false, .slice none 0 0, .slice none 0 0] 27)) := (Mem.start w).new _ _
  clear hk hs k1 k2
  go_enter Tryz.func34, Tryz.ntmps34
  go_wp2_with fail
  refine (HK.out _).mono ?_
  rintro e w0 ⟨rfl, hw⟩
  subst w0
  go_wp2_with fail
  refine (HS.out _).mono ?_
  rintro e w1 ⟨rfl, rr⟩
  have M' := M.up rr; clear M rr; have M := M'; clear M'
  go_wp2_with fail
  refine (K1.out _).mono ?_
  rintro e w2 ⟨a1, n1, c1, rfl, rr⟩
  have M' := M.up rr; clear M rr; have M := M'; clear M'
  go_wp2_with fail
  refine (K2.out _).mono ?_
  rintro e w3 ⟨a2, n2, c2, rfl, rr⟩
  have M' := M.up rr; clear M rr; have M := M'; clear M'
  have z0 := M.cell 0 rfl 0 rfl; have z1 := M.cell 0 rfl 1 rfl; have z2 := M.cell 0 rfl 2 rfl; have f0 := M.fr 0 rfl 0; have f1 := M.fr 0 rfl 1; have f2 := M.fr 0 rfl 2
  go_wp2_with fail
  have M' := ((M.put 0 rfl rfl 0 (.bool false)).put 0 rfl rfl 1 (.slice none 0 0)).put 0 rfl rfl 2 (.slice none 0 0)
  refine ret_boxN_tmp rfl rfl rfl (M'.box 0 rfl) Tryz.underlying27 size_rat rfl ?_
  exact ⟨rfl, M'.below⟩
set_option maxRecDepth 100000 in
set_option maxHeartbeats 2000000 in
theorem ps_l1p {E1 E2 : Int} (h1 : (E1 == 4) = false) (h2 : (E2 == 4) = false) (h3 : (E1 != 0) = true) (hd : den ≠ ⟨#[48]⟩) (hk : ∀ W, Calls Tryz.prog 119 #[.string s, .string ⟨#[45]⟩] W fun e w' => e = .returned (.tuple #[.string rest, .bool false]) ∧ w' = W)
    (hs : ∀ W, Calls Tryz.prog 120 #[.string rest] W fun e w' => e = .returned (.tuple #[.string num, .string den]) ∧ Below W.heap.size W w')
    (k1 : ∀ W, Calls Tryz.prog 121 #[.string num] W fun e w' => ∃ a n c, e = .returned (.tuple #[.slice a n c, .int .i64 E1]) ∧ Below W.heap.size W w')
    (k2 : ∀ W, Calls Tryz.prog 121 #[.string den] W fun e w' => ∃ a n c, e = .returned (.tuple #[.slice a n c, .int .i64 E2]) ∧ Below W.heap.size W w') :
    Calls Tryz.prog 34 #[.string s] w fun e w' => e = .returned (.tuple #[.agg #[.bool false, .slice none 0 0, .slice none 0 0], .int .i64 3]) ∧ Below w.heap.size w w' := by
  obtain ⟨d1, d2, d3⟩ := not_nought hd
  have HK := Lib.hid hk
  have HS := Lib.hid hs
  have K1 := Lib.hid k1
  have K2 := Lib.hid k2
  have M : Mem w [(w.heap.size, 27, [.bool false, .slice none 0 0, .slice none 0 0])] [] (w.alloc (.cells #[.bool false, .slice none 0 0, .slice none 0 0] 27)) := (Mem.start w).new _ _
  clear hk hs k1 k2
  go_enter Tryz.func34, Tryz.ntmps34
  go_wp2_with fail
  refine (HK.out _).mono ?_
  rintro e w0 ⟨rfl, hw⟩
  subst w0
  go_wp2_with fail
  refine (HS.out _).mono ?_
  rintro e w1 ⟨rfl, rr⟩
  have M' := M.up rr; clear M rr; have M := M'; clear M'
  go_wp2_with fail
  refine (K1.out _).mono ?_
  rintro e w2 ⟨a1, n1, c1, rfl, rr⟩
  have M' := M.up rr; clear M rr; have M := M'; clear M'
  go_wp2_with fail
  refine (K2.out _).mono ?_
  rintro e w3 ⟨a2, n2, c2, rfl, rr⟩
  have M' := M.up rr; clear M rr; have M := M'; clear M'
  have z0 := M.cell 0 rfl 0 rfl; have z1 := M.cell 0 rfl 1 rfl; have z2 := M.cell 0 rfl 2 rfl; have f0 := M.fr 0 rfl 0; have f1 := M.fr 0 rfl 1; have f2 := M.fr 0 rfl 2
  go_wp2_with fail
  have M' := ((M.put 0 rfl rfl 0 (.bool false)).put 0 rfl rfl 1 (.slice none 0 0)).put 0 rfl rfl 2 (.slice none 0 0)
  refine ret_boxN_tmp rfl rfl rfl (M'.box 0 rfl) Tryz.underlying27 size_rat rfl ?_
  exact ⟨rfl, M'.below⟩
set_option maxRecDepth 100000 in
set_option maxHeartbeats 2000000 in
theorem ps_l1n {E1 E2 : Int} (h1 : (E1 == 4) = false) (h2 : (E2 == 4) = false) (h3 : (E1 != 0) = true) (hd : den ≠ ⟨#[48]⟩) (hn : num ≠ ⟨#[48]⟩) (hk : ∀ W, Calls Tryz.prog 119 #[.string s, .string ⟨#[45]⟩] W fun e w' => e = .returned (.tuple #[.string rest, .bool true]) ∧ w' = W)
    (hs : ∀ W, Calls Tryz.prog 120 #[.string rest] W fun e w' => e = .returned (.tuple #[.string num, .string den]) ∧ Below W.heap.size W w')
    (k1 : ∀ W, Calls Tryz.prog 121 #[.string num] W fun e w' => ∃ a n c, e = .returned (.tuple #[.slice a n c, .int .i64 E1]) ∧ Below W.heap.size W w')
    (k2 : ∀ W, Calls Tryz.prog 121 #[.string den] W fun e w' => ∃ a n c, e = .returned (.tuple #[.slice a n c, .int .i64 E2]) ∧ Below W.heap.size W w') :
    Calls Tryz.prog 34 #[.string s] w fun e w' => e = .returned (.tuple #[.agg #[.bool false, .slice none 0 0, .slice none 0 0], .int .i64 3]) ∧ Below w.heap.size w w' := by
  obtain ⟨d1, d2, d3⟩ := not_nought hd
  obtain ⟨n1, n2, n3⟩ := not_nought hn
  have HK := Lib.hid hk
  have HS := Lib.hid hs
  have K1 := Lib.hid k1
  have K2 := Lib.hid k2
  have M : Mem w [(w.heap.size, 27, [.bool false, .slice none 0 0, .slice none 0 0])] [] (w.alloc (.cells #[.bool false, .slice none 0 0, .slice none 0 0] 27)) := (Mem.start w).new _ _
  clear hk hs k1 k2
  go_enter Tryz.func34, Tryz.ntmps34
  go_wp2_with fail
  refine (HK.out _).mono ?_
  rintro e w0 ⟨rfl, hw⟩
  subst w0
  go_wp2_with fail
  refine (HS.out _).mono ?_
  rintro e w1 ⟨rfl, rr⟩
  have M' := M.up rr; clear M rr; have M := M'; clear M'
  go_wp2_with fail
  refine (K1.out _).mono ?_
  rintro e w2 ⟨a1, n1, c1, rfl, rr⟩
  have M' := M.up rr; clear M rr; have M := M'; clear M'
  go_wp2_with fail
  refine (K2.out _).mono ?_
  rintro e w3 ⟨a2, n2, c2, rfl, rr⟩
  have M' := M.up rr; clear M rr; have M := M'; clear M'
  have z0 := M.cell 0 rfl 0 rfl; have z1 := M.cell 0 rfl 1 rfl; have z2 := M.cell 0 rfl 2 rfl; have f0 := M.fr 0 rfl 0; have f1 := M.fr 0 rfl 1; have f2 := M.fr 0 rfl 2
  go_wp2_with fail
  have M' := ((M.put 0 rfl rfl 0 (.bool false)).put 0 rfl rfl 1 (.slice none 0 0)).put 0 rfl rfl 2 (.slice none 0 0)
  refine ret_boxN_tmp rfl rfl rfl (M'.box 0 rfl) Tryz.underlying27 size_rat rfl ?_
  exact ⟨rfl, M'.below⟩
set_option maxRecDepth 100000 in
set_option maxHeartbeats 2000000 in
theorem ps_l2p {E2 : Int} (h2 : (E2 == 4) = false) (h3 : (E2 != 0) = true) (hd : den ≠ ⟨#[48]⟩) (hk : ∀ W, Calls Tryz.prog 119 #[.string s, .string ⟨#[45]⟩] W fun e w' => e = .returned (.tuple #[.string rest, .bool false]) ∧ w' = W)
    (hs : ∀ W, Calls Tryz.prog 120 #[.string rest] W fun e w' => e = .returned (.tuple #[.string num, .string den]) ∧ Below W.heap.size W w')
    (k1 : ∀ W, Calls Tryz.prog 121 #[.string num] W fun e w' => ∃ a n c, e = .returned (.tuple #[.slice a n c, .int .i64 0]) ∧ Below W.heap.size W w')
    (k2 : ∀ W, Calls Tryz.prog 121 #[.string den] W fun e w' => ∃ a n c, e = .returned (.tuple #[.slice a n c, .int .i64 E2]) ∧ Below W.heap.size W w') :
    Calls Tryz.prog 34 #[.string s] w fun e w' => e = .returned (.tuple #[.agg #[.bool false, .slice none 0 0, .slice none 0 0], .int .i64 3]) ∧ Below w.heap.size w w' := by
  obtain ⟨d1, d2, d3⟩ := not_nought hd
  have HK := Lib.hid hk
  have HS := Lib.hid hs
  have K1 := Lib.hid k1
  have K2 := Lib.hid k2
  have M : Mem w [(w.heap.size, 27, [.bool false, .slice none 0 0, .slice none 0 0])] [] (w.alloc (.cells #[.bool false, .slice none 0 0, .slice none 0 0] 27)) := (Mem.start w).new _ _
  clear hk hs k1 k2
  go_enter Tryz.func34, Tryz.ntmps34
  go_wp2_with fail
  refine (HK.out _).mono ?_
  rintro e w0 ⟨rfl, hw⟩
  subst w0
  go_wp2_with fail
  refine (HS.out _).mono ?_
  rintro e w1 ⟨rfl, rr⟩
  have M' := M.up rr; clear M rr; have M := M'; clear M'
  go_wp2_with fail
  refine (K1.out _).mono ?_
  rintro e w2 ⟨a1, n1, c1, rfl, rr⟩
  have M' := M.up rr; clear M rr; have M := M'; clear M'
  go_wp2_with fail
  refine (K2.out _).mono ?_
  rintro e w3 ⟨a2, n2, c2, rfl, rr⟩
  have M' := M.up rr; clear M rr; have M := M'; clear M'
  have z0 := M.cell 0 rfl 0 rfl; have z1 := M.cell 0 rfl 1 rfl; have z2 := M.cell 0 rfl 2 rfl; have f0 := M.fr 0 rfl 0; have f1 := M.fr 0 rfl 1; have f2 := M.fr 0 rfl 2
  go_wp2_with fail
  have M' := ((M.put 0 rfl rfl 0 (.bool false)).put 0 rfl rfl 1 (.slice none 0 0)).put 0 rfl rfl 2 (.slice none 0 0)
  refine ret_boxN_tmp rfl rfl rfl (M'.box 0 rfl) Tryz.underlying27 size_rat rfl ?_
  exact ⟨rfl, M'.below⟩
set_option maxRecDepth 100000 in
set_option maxHeartbeats 2000000 in
theorem ps_l2n {E2 : Int} (h2 : (E2 == 4) = false) (h3 : (E2 != 0) = true) (hd : den ≠ ⟨#[48]⟩) (hn : num ≠ ⟨#[48]⟩) (hk : ∀ W, Calls Tryz.prog 119 #[.string s, .string ⟨#[45]⟩] W fun e w' => e = .returned (.tuple #[.string rest, .bool true]) ∧ w' = W)
    (hs : ∀ W, Calls Tryz.prog 120 #[.string rest] W fun e w' => e = .returned (.tuple #[.string num, .string den]) ∧ Below W.heap.size W w')
    (k1 : ∀ W, Calls Tryz.prog 121 #[.string num] W fun e w' => ∃ a n c, e = .returned (.tuple #[.slice a n c, .int .i64 0]) ∧ Below W.heap.size W w')
    (k2 : ∀ W, Calls Tryz.prog 121 #[.string den] W fun e w' => ∃ a n c, e = .returned (.tuple #[.slice a n c, .int .i64 E2]) ∧ Below W.heap.size W w') :
    Calls Tryz.prog 34 #[.string s] w fun e w' => e = .returned (.tuple #[.agg #[.bool false, .slice none 0 0, .slice none 0 0], .int .i64 3]) ∧ Below w.heap.size w w' := by
  obtain ⟨d1, d2, d3⟩ := not_nought hd
  obtain ⟨n1, n2, n3⟩ := not_nought hn
  have HK := Lib.hid hk
  have HS := Lib.hid hs
  have K1 := Lib.hid k1
  have K2 := Lib.hid k2
  have M : Mem w [(w.heap.size, 27, [.bool false, .slice none 0 0, .slice none 0 0])] [] (w.alloc (.cells #[.bool false, .slice none 0 0, .slice none 0 0] 27)) := (Mem.start w).new _ _
  clear hk hs k1 k2
  go_enter Tryz.func34, Tryz.ntmps34
  go_wp2_with fail
  refine (HK.out _).mono ?_
  rintro e w0 ⟨rfl, hw⟩
  subst w0
  go_wp2_with fail
  refine (HS.out _).mono ?_
  rintro e w1 ⟨rfl, rr⟩
  have M' := M.up rr; clear M rr; have M := M'; clear M'
  go_wp2_with fail
  refine (K1.out _).mono ?_
  rintro e w2 ⟨a1, n1, c1, rfl, rr⟩
  have M' := M.up rr; clear M rr; have M := M'; clear M'
  go_wp2_with fail
  refine (K2.out _).mono ?_
  rintro e w3 ⟨a2, n2, c2, rfl, rr⟩
  have M' := M.up rr; clear M rr; have M := M'; clear M'
  have z0 := M.cell 0 rfl 0 rfl; have z1 := M.cell 0 rfl 1 rfl; have z2 := M.cell 0 rfl 2 rfl; have f0 := M.fr 0 rfl 0; have f1 := M.fr 0 rfl 1; have f2 := M.fr 0 rfl 2
  go_wp2_with fail
  have M' := ((M.put 0 rfl rfl 0 (.bool false)).put 0 rfl rfl 1 (.slice none 0 0)).put 0 rfl rfl 2 (.slice none 0 0)
  refine ret_boxN_tmp rfl rfl rfl (M'.box 0 rfl) Tryz.underlying27 size_rat rfl ?_
  exact ⟨rfl, M'.below⟩
set_option maxRecDepth 100000 in
set_option maxHeartbeats 2000000 in
theorem ps_okp {s' : Bool} {LZ DZ : List Nat} {N D : Nat} {Z : Rat} (kZ : RCan s' LZ DZ Z) (eZ : Z = (((N : Nat) : Int) : Rat) / (((D : Nat) : Int) : Rat)) (D0 : 0 < D) (l1 : (digs N).length ≤ 10000) (l2 : (digs D).length ≤ 10000) (hd : den ≠ ⟨#[48]⟩)
    (hk : ∀ W, Calls Tryz.prog 119 #[.string s, .string ⟨#[45]⟩] W fun e w' => e = .returned (.tuple #[.string rest, .bool false]) ∧ w' = W)
    (hs : ∀ W, Calls Tryz.prog 120 #[.string rest] W fun e w' => e = .returned (.tuple #[.string num, .string den]) ∧ Below W.heap.size W w')
    (k1 : ∀ W, Calls Tryz.prog 121 #[.string num] W fun e w' => ∃ a c, e = .returned (.tuple #[.slice a (digs N).length c, .int .i64 0]) ∧ Reads w' (.slice a (digs N).length c) (digs N) ∧ Below W.heap.size W w')
    (k2 : ∀ W, Calls Tryz.prog 121 #[.string den] W fun e w' => ∃ a c, e = .returned (.tuple #[.slice a (digs D).length c, .int .i64 0]) ∧ Reads w' (.slice a (digs D).length c) (digs D) ∧ Below W.heap.size W w') :
    Calls Tryz.prog 34 #[.string s] w fun e w' => ∃ a c a' c', e = .returned (.tuple #[.agg #[.bool s', .slice a LZ.length c, .slice a' DZ.length c'], .int .i64 0]) ∧ Reads w' (.slice a LZ.length c) LZ ∧ Reads w' (.slice a' DZ.length c') DZ ∧ Below w.heap.size w w' := by
  obtain ⟨d1, d2, d3⟩ := not_nought hd
  obtain ⟨Ln, hLn⟩ : ∃ L, L = digs N := ⟨_, rfl⟩
  obtain ⟨Ld, hLd⟩ : ∃ L, L = digs D := ⟨_, rfl⟩
  rw [← hLn] at k1 l1
  rw [← hLd] at k2 l2
  have cn : Can false Ln ((N : Nat)) := ⟨by simp, by rw [hLn]; simp⟩
  have cd : Can false Ld ((D : Nat) : Int) := ⟨by simp, by rw [hLd]; simp⟩
  have K5 := Lib.hid (fun (W : World) {a b : Option Addr} {c d : Nat} (g1 : Reads W (.slice a Ln.length c) Ln) (g2 : Reads W (.slice b Ld.length d) Ld) => r_make_pos cn cd (by omega) kZ eZ (by omega) (by omega) g1 g2)
  have HK := Lib.hid hk
  have HS := Lib.hid hs
  have K1 := Lib.hid k1
  have K2 := Lib.hid k2
  have M : Mem w [(w.heap.size, 27, [.bool false, .slice none 0 0, .slice none 0 0])] [] (w.alloc (.cells #[.bool false, .slice none 0 0, .slice none 0 0] 27)) := (Mem.start w).new _ _
  clear hk hs k1 k2 cn cd l1 l2 hLn hLd kZ eZ D0 hd
  go_enter Tryz.func34, Tryz.ntmps34
  go_wp2_with fail
  refine (HK.out _).mono ?_
  rintro e w0 ⟨rfl, hw⟩
  subst w0
  go_wp2_with fail
  refine (HS.out _).mono ?_
  rintro e w1 ⟨rfl, rr⟩
  have M' := M.up rr; clear M rr; have M := M'; clear M'
  go_wp2_with fail
  refine (K1.out _).mono ?_
  rintro e w2 ⟨a1, c1, rfl, g, rr⟩
  have M' := (M.up rr).add g; clear M rr g; have M := M'; clear M'
  go_wp2_with fail
  refine (K2.out _).mono ?_
  rintro e w3 ⟨a2, c2, rfl, g, rr⟩
  have M' := (M.up rr).add g; clear M rr g; have M := M'; clear M'
  go_wp2_with fail
  refine (K5.out _ (M.get 1 rfl) (M.get 0 rfl)).mono ?_
  rintro e w5 ⟨a, c, a', c', rfl, g, g', rr⟩
  have M' := ((M.up rr).add g).add g'; clear M rr g g'; have M := M'; clear M'
  have z0 := M.cell 0 rfl 0 rfl; have z1 := M.cell 0 rfl 1 rfl; have z2 := M.cell 0 rfl 2 rfl; have f0 := M.fr 0 rfl 0; have f1 := M.fr 0 rfl 1; have f2 := M.fr 0 rfl 2
  go_wp2_with fail
  have M' := ((M.put 0 rfl rfl 0 (.bool s')).put 0 rfl rfl 1 (.slice a LZ.length c)).put 0 rfl rfl 2 (.slice a' DZ.length c')
  refine ret_boxN_tmp rfl rfl rfl (M'.box 0 rfl) Tryz.underlying27 size_rat rfl ?_
  exact ⟨a, c, a', c', rfl, M'.get 1 rfl, M'.get 0 rfl, M'.below⟩
set_option maxRecDepth 100000 in
set_option maxHeartbeats 2000000 in
theorem ps_okn {s' : Bool} {LZ DZ : List Nat} {N D : Nat} {Z : Rat} (kZ : RCan s' LZ DZ Z) (eZ : Z = ((-(N : Int) : Int) : Rat) / (((D : Nat) : Int) : Rat)) (D0 : 0 < D) (l1 : (digs N).length ≤ 10000) (l2 : (digs D).length ≤ 10000) (hd : den ≠ ⟨#[48]⟩) (N0 : 0 < N) (hn : num ≠ ⟨#[48]⟩)
    (hk : ∀ W, Calls Tryz.prog 119 #[.string s, .string ⟨#[45]⟩] W fun e w' => e = .returned (.tuple #[.string rest, .bool true]) ∧ w' = W)
    (hs : ∀ W, Calls Tryz.prog 120 #[.string rest] W fun e w' => e = .returned (.tuple #[.string num, .string den]) ∧ Below W.heap.size W w')
    (k1 : ∀ W, Calls Tryz.prog 121 #[.string num] W fun e w' => ∃ a c, e = .returned (.tuple #[.slice a (digs N).length c, .int .i64 0]) ∧ Reads w' (.slice a (digs N).length c) (digs N) ∧ Below W.heap.size W w')
    (k2 : ∀ W, Calls Tryz.prog 121 #[.string den] W fun e w' => ∃ a c, e = .returned (.tuple #[.slice a (digs D).length c, .int .i64 0]) ∧ Reads w' (.slice a (digs D).length c) (digs D) ∧ Below W.heap.size W w') :
    Calls Tryz.prog 34 #[.string s] w fun e w' => ∃ a c a' c', e = .returned (.tuple #[.agg #[.bool s', .slice a LZ.length c, .slice a' DZ.length c'], .int .i64 0]) ∧ Reads w' (.slice a LZ.length c) LZ ∧ Reads w' (.slice a' DZ.length c') DZ ∧ Below w.heap.size w w' := by
  obtain ⟨d1, d2, d3⟩ := not_nought hd
  obtain ⟨n1, n2, n3⟩ := not_nought hn
  obtain ⟨Ln, hLn⟩ : ∃ L, L = digs N := ⟨_, rfl⟩
  obtain ⟨Ld, hLd⟩ : ∃ L, L = digs D := ⟨_, rfl⟩
  rw [← hLn] at k1 l1
  rw [← hLd] at k2 l2
  have cn : Can true Ln (-(N : Int)) := ⟨by simp; omega, by rw [hLn]; simp⟩
  have cd : Can false Ld ((D : Nat) : Int) := ⟨by simp, by rw [hLd]; simp⟩
  have K5 := Lib.hid (fun (W : World) {a b : Option Addr} {c d : Nat} (g1 : Reads W (.slice a Ln.length c) Ln) (g2 : Reads W (.slice b Ld.length d) Ld) => r_make_pos cn cd (by omega) kZ eZ (by omega) (by omega) g1 g2)
  have HK := Lib.hid hk
  have HS := Lib.hid hs
  have K1 := Lib.hid k1
  have K2 := Lib.hid k2
  have M : Mem w [(w.heap.size, 27, [.bool false, .slice none 0 0, .slice none 0 0])] [] (w.alloc (.cells #[.bool false, .slice none 0 0, .slice none 0 0] 27)) := (Mem.start w).new _ _
  clear hk hs k1 k2 cn cd l1 l2 hLn hLd kZ eZ D0 hd N0 hn
  go_enter Tryz.func34, Tryz.ntmps34
  go_wp2_with fail
  refine (HK.out _).mono ?_
  rintro e w0 ⟨rfl, hw⟩
  subst w0
  go_wp2_with fail
  refine (HS.out _).mono ?_
  rintro e w1 ⟨rfl, rr⟩
  have M' := M.up rr; clear M rr; have M := M'; clear M'
  go_wp2_with fail
  refine (K1.out _).mono ?_
  rintro e w2 ⟨a1, c1, rfl, g, rr⟩
  have M' := (M.up rr).add g; clear M rr g; have M := M'; clear M'
  go_wp2_with fail
  refine (K2.out _).mono ?_
  rintro e w3 ⟨a2, c2, rfl, g, rr⟩
  have M' := (M.up rr).add g; clear M rr g; have M := M'; clear M'
  go_wp2_with fail
  refine (K5.out _ (M.get 1 rfl) (M.get 0 rfl)).mono ?_
  rintro e w5 ⟨a, c, a', c', rfl, g, g', rr⟩
  have M' := ((M.up rr).add g).add g'; clear M rr g g'; have M := M'; clear M'
  have z0 := M.cell 0 rfl 0 rfl; have z1 := M.cell 0 rfl 1 rfl; have z2 := M.cell 0 rfl 2 rfl; have f0 := M.fr 0 rfl 0; have f1 := M.fr 0 rfl 1; have f2 := M.fr 0 rfl 2
  go_wp2_with fail
  have M' := ((M.put 0 rfl rfl 0 (.bool s')).put 0 rfl rfl 1 (.slice a LZ.length c)).put 0 rfl rfl 2 (.slice a' DZ.length c')
  refine ret_boxN_tmp rfl rfl rfl (M'.box 0 rfl) Tryz.underlying27 size_rat rfl ?_
  exact ⟨a, c, a', c', rfl, M'.get 1 rfl, M'.get 0 rfl, M'.below⟩
end

section
variable {w : World} {s a b : ByteArray}
set_option maxHeartbeats 2000000 in
theorem sp_up (k : ∀ W, Calls Tryz.prog 185 #[.string s, .string ⟨#[47]⟩] W fun e w' => e = .returned (.tuple #[.string a, .string b, .bool true]) ∧ Below W.heap.size W w') :
    Calls Tryz.prog 120 #[.string s] w fun e w' => e = .returned (.tuple #[.string a, .string b]) ∧ Below w.heap.size w w' := by
  have K := Lib.hid k
  clear k
  go_enter Tryz.func120, Tryz.ntmps120
  go_wp2_with fail
  refine (K.out _).mono ?_
  rintro e w1 ⟨rfl, rr⟩
  go_wp2_with fail
  go_ret2
  exact ⟨rfl, rr⟩
set_option maxHeartbeats 2000000 in
theorem sp_none (k : ∀ W, Calls Tryz.prog 185 #[.string s, .string ⟨#[47]⟩] W fun e w' => e = .returned (.tuple #[.string s, .string ⟨#[]⟩, .bool false]) ∧ Below W.heap.size W w')
    (k2 : ∀ W, Calls Tryz.prog 185 #[.string s, .string ⟨#[46]⟩] W fun e w' => e = .returned (.tuple #[.string s, .string ⟨#[]⟩, .bool false]) ∧ Below W.heap.size W w') :
    Calls Tryz.prog 120 #[.string s] w fun e w' => e = .returned (.tuple #[.string s, .string ⟨#[49]⟩]) ∧ Below w.heap.size w w' := by
  have K := Lib.hid k
  have K2 := Lib.hid k2
  clear k k2
  go_enter Tryz.func120, Tryz.ntmps120
  go_wp2_with fail
  refine (K.out _).mono ?_
  rintro e w1 ⟨rfl, r1⟩
  go_wp2_with fail
  refine (K2.out _).mono ?_
  rintro e w2 ⟨rfl, r2⟩
  go_wp2_with fail
  go_ret2
  exact ⟨rfl, then_below r1 r2⟩
set_option maxHeartbeats 2000000 in
theorem sp_pt {x y : ByteArray} (k : ∀ W, Calls Tryz.prog 185 #[.string s, .string ⟨#[47]⟩] W fun e w' => e = .returned (.tuple #[.string s, .string ⟨#[]⟩, .bool false]) ∧ Below W.heap.size W w')
    (k2 : ∀ W, Calls Tryz.prog 185 #[.string s, .string ⟨#[46]⟩] W fun e w' => e = .returned (.tuple #[.string a, .string b, .bool true]) ∧ Below W.heap.size W w')
    (k3 : ∀ W, Calls Tryz.prog 186 #[.string a, .string b] W fun e w' => e = .returned (.tuple #[.string x, .string y]) ∧ Below W.heap.size W w') :
    Calls Tryz.prog 120 #[.string s] w fun e w' => e = .returned (.tuple #[.string x, .string y]) ∧ Below w.heap.size w w' := by
  have K := Lib.hid k
  have K2 := Lib.hid k2
  have K3 := Lib.hid k3
  clear k k2 k3
  go_enter Tryz.func120, Tryz.ntmps120
  go_wp2_with fail
  refine (K.out _).mono ?_
  rintro e w1 ⟨rfl, r1⟩
  go_wp2_with fail
  refine (K2.out _).mono ?_
  rintro e w2 ⟨rfl, r2⟩
  go_wp2_with fail
  refine (K3.out _).mono ?_
  rintro e w3 ⟨rfl, r3⟩
  go_wp2_with fail
  go_ret2
  exact ⟨rfl, then_below (then_below r1 r2) r3⟩
set_option maxHeartbeats 2000000 in
theorem ap_form (k : ∀ W, Calls Tryz.prog 121 #[.string a] W fun e w' => ∃ p n c, e = .returned (.tuple #[.slice p n c, .int .i64 4]) ∧ Below W.heap.size W w') :
    Calls Tryz.prog 186 #[.string a, .string b] w fun e w' => e = .returned (.tuple #[.string ⟨#[]⟩, .string ⟨#[49]⟩]) ∧ Below w.heap.size w w' := by
  have K := Lib.hid k
  clear k
  go_enter Tryz.func186, Tryz.ntmps186
  go_wp2_with fail
  refine (K.out _).mono ?_
  rintro e w1 ⟨p, n, c, rfl, r1⟩
  go_wp2_with fail
  go_ret2
  exact ⟨rfl, r1⟩
set_option maxHeartbeats 2000000 in
theorem ap_empty {E : Int} (hE : (E == 4) = false) (k : ∀ W, Calls Tryz.prog 121 #[.string a] W fun e w' => ∃ p n c, e = .returned (.tuple #[.slice p n c, .int .i64 E]) ∧ Below W.heap.size W w') :
    Calls Tryz.prog 186 #[.string a, .string ⟨#[]⟩] w fun e w' => e = .returned (.tuple #[.string ⟨#[]⟩, .string ⟨#[49]⟩]) ∧ Below w.heap.size w w' := by
  have K := Lib.hid k
  clear k
  go_enter Tryz.func186, Tryz.ntmps186
  go_wp2_with fail
  refine (K.out _).mono ?_
  rintro e w1 ⟨p, n, c, rfl, r1⟩
  go_wp2_with fail
  go_ret2
  exact ⟨rfl, r1⟩
set_option maxHeartbeats 4000000 in
theorem ap_zero {E : Int} {z : ByteArray} (hE : (E == 4) = false) (hb : b.size ≠ 0) (hab : ∀ W : World, (Op.stringOp .add a b).run Tryz.prog W = .ok (.string (a ++ b)) W) (h1z : ∀ W : World, (Op.stringOp .add ⟨#[49]⟩ z).run Tryz.prog W = .ok (.string (⟨#[49]⟩ ++ z)) W)
    (k : ∀ W, Calls Tryz.prog 121 #[.string a] W fun e w' => ∃ p n c, e = .returned (.tuple #[.slice p n c, .int .i64 E]) ∧ Below W.heap.size W w')
    (k2 : ∀ W, Calls Tryz.prog 216 #[.string (a ++ b), .string ⟨#[48]⟩] W fun e w' => e = .returned (.string ⟨#[]⟩) ∧ W = w')
    (k3 : ∀ W, Calls Tryz.prog 217 #[.string ⟨#[48]⟩, .int .i64 (b.size : Int)] W fun e w' => e = .returned (.string z) ∧ Below W.heap.size W w') :
    Calls Tryz.prog 186 #[.string a, .string b] w fun e w' => e = .returned (.tuple #[.string ⟨#[48]⟩, .string (⟨#[49]⟩ ++ z)]) ∧ Below w.heap.size w w' := by
  obtain ⟨b1, b2, b3, b4⟩ := some_bytesR b hb
  have hlen : ∀ W : World, (Builtin.len_ #[9] 3 #[.string b]).run Tryz.prog W = .ok (.int .i64 (b.size : Int)) W := fun W => by rw [run_len_string W _ _ b (by kernel_rfl)]; rfl
  have K := Lib.hid k
  have K2 := Lib.hid k2
  have K3 := Lib.hid k3
  clear k k2 k3 hb
  go_enter Tryz.func186, Tryz.ntmps186
  go_wp2_with fail
  refine (K.out _).mono ?_
  rintro e w1 ⟨p, n, c, rfl, r1⟩
  go_wp2_with fail
  refine (K2.out _).mono ?_
  rintro e w2 ⟨rfl, hw⟩
  subst w2
  go_wp2_with fail
  refine (K3.out _).mono ?_
  rintro e w3 ⟨rfl, r3⟩
  go_wp2_with fail
  go_ret2
  exact ⟨rfl, then_below r1 r3⟩
set_option maxHeartbeats 4000000 in
theorem ap_some {E : Int} {z x : ByteArray} (hE : (E == 4) = false) (hb : b.size ≠ 0) (hx : x.size ≠ 0) (hab : ∀ W : World, (Op.stringOp .add a b).run Tryz.prog W = .ok (.string (a ++ b)) W) (h1z : ∀ W : World, (Op.stringOp .add ⟨#[49]⟩ z).run Tryz.prog W = .ok (.string (⟨#[49]⟩ ++ z)) W)
    (k : ∀ W, Calls Tryz.prog 121 #[.string a] W fun e w' => ∃ p n c, e = .returned (.tuple #[.slice p n c, .int .i64 E]) ∧ Below W.heap.size W w')
    (k2 : ∀ W, Calls Tryz.prog 216 #[.string (a ++ b), .string ⟨#[48]⟩] W fun e w' => e = .returned (.string x) ∧ W = w')
    (k3 : ∀ W, Calls Tryz.prog 217 #[.string ⟨#[48]⟩, .int .i64 (b.size : Int)] W fun e w' => e = .returned (.string z) ∧ Below W.heap.size W w') :
    Calls Tryz.prog 186 #[.string a, .string b] w fun e w' => e = .returned (.tuple #[.string x, .string (⟨#[49]⟩ ++ z)]) ∧ Below w.heap.size w w' := by
  obtain ⟨b1, b2, b3, b4⟩ := some_bytesR b hb
  obtain ⟨x1, x2, x3, x4⟩ := some_bytesR x hx
  have hlen : ∀ W : World, (Builtin.len_ #[9] 3 #[.string b]).run Tryz.prog W = .ok (.int .i64 (b.size : Int)) W := fun W => by rw [run_len_string W _ _ b (by kernel_rfl)]; rfl
  have K := Lib.hid k
  have K2 := Lib.hid k2
  have K3 := Lib.hid k3
  clear k k2 k3 hb hx
  go_enter Tryz.func186, Tryz.ntmps186
  go_wp2_with fail
  refine (K.out _).mono ?_
  rintro e w1 ⟨p, n, c, rfl, r1⟩
  go_wp2_with fail
  refine (K2.out _).mono ?_
  rintro e w2 ⟨rfl, hw⟩
  subst w2
  go_wp2_with fail
  refine (K3.out _).mono ?_
  rintro e w3 ⟨rfl, r3⟩
  go_wp2_with fail
  go_ret2
  exact ⟨rfl, then_below r1 r3⟩
end

end Go.Proofs.YthnlmjnfdokdbaaGreatDoor
