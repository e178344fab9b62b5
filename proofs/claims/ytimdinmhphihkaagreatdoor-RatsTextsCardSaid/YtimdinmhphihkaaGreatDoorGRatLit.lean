/- Fractions: the fraction of a number and 0. Fractions: the fraction of two, the second one above 0. strings.Cut at one byte. Fractions: what some texts are read as. -/
import Derived.BigQuiet
import Derived.RegionTactic
import Derived.Deep.QuietTactic
import Derived.Test.YtimdinmhphihkaaGreatDoorGRatMul
import Derived.Test.YtimdinmhphihkaaGreatDoorGInts
import Derived.Test.YtimdinmhphihkaaGreatDoorLayC
import Derived.Test.YtimdinmhphihkaaGreatDoorGMathG
set_option linter.unusedSimpArgs false
set_option linter.unusedVariables false
namespace Go.Proofs.YtimdinmhphihkaaGreatDoor
open Go Go.Proofs Go.RowKit Go.Shelf Nu

attribute [local go_sem] Oper.semAt_some

theorem ret_boxN_tmp {fn : Func} {p q : Tmp} {ty t : TypeId} {R : Ending → World → Prop} {a : Act} {w : World} {B : Nat} {cs : Array Value} {x : Value} {fs : Array Field} (h : fn.results = #[.cell p ty, .tmp q]) (hp : a.tmps.getD p undef = .pointer (some ⟨B, 0, none⟩)) (hx : a.tmps.getD q undef = x) (hg : BoxN w B t cs)
    (hu : Tryz.prog.underlying ty = some (.struct fs)) (hi : (Tryz.prog.info? ty).map (·.size) = some cs.size) (hde : a.defers = []) (hR : R (.returned (.tuple #[.agg cs, x])) w) : bodyPost Tryz.prog fn R .ret a w := by
  refine bodyPost_ret (v := .tuple #[.agg cs, x]) ?_ hde hR
  rw [results_cell_tmp h, hp, hx]
  simp [asAddr, run_loadVar_row (P := Tryz.prog) w B t ty cs (0, 0) (.struct fs) hg hu rfl hi, Result.andThen]

end Go.Proofs.YtimdinmhphihkaaGreatDoor

namespace Go.Proofs.YtimdinmhphihkaaGreatDoor
open Go Go.Proofs Go.RowKit Go.Shelf Nu

attribute [local go_sem] Oper.semAt_some

end Go.Proofs.YtimdinmhphihkaaGreatDoor

namespace Go.Proofs.YtimdinmhphihkaaGreatDoor
open Go Go.Proofs Go.RowKit Go.Shelf Nu

theorem lcut_miss (s : ByteArray) (c : UInt8) (w : World) (h : Lib.indexByte s.data.toList c = -1) :
    Calls Tryz.prog 206 #[.string s, .string ⟨#[c]⟩] w fun e w' => e = .returned (.tuple #[.string s, .string ⟨#[]⟩, .bool false]) ∧ Below w.heap.size w w' := by
  have ki := Any.stringslite_Index_one YtimdinmhphihkaaGreatDoor.idxL s c w
  rw [h] at ki
  clear h
  go_enter Tryz.func206, Tryz.ntmps206
  go_wp2_with (go_at_call 230; refine ki.mono ?_; rintro e w' ⟨rfl, rfl⟩)
  go_ret3
  exact ⟨rfl, Below.refl _ _⟩
theorem lcut_hit (s : ByteArray) (c : UInt8) (i : Nat) (w : World) (h : Lib.indexByte s.data.toList c = i) (hi : i < s.size) (hs : s.size ≤ maxLen) :
    Calls Tryz.prog 206 #[.string s, .string ⟨#[c]⟩] w fun e w' => e = .returned (.tuple #[.string (s.extract 0 i), .string (s.extract (i + 1) s.size), .bool true]) ∧ Below w.heap.size w w' := by
  have ki := Any.stringslite_Index_one YtimdinmhphihkaaGreatDoor.idxL s c w
  rw [h] at ki
  unfold maxLen at hs
  have c1 : (0 : Int) ≤ (i : Int) := by omega
  have c2 : (i : Int) ≤ (s.size : Int) := by omega
  have c3 : (0 : Int) ≤ (i : Int) + 1 := by omega
  have c4 : (i : Int) + 1 ≤ (s.size : Int) := by omega
  clear h
  go_enter Tryz.func206, Tryz.ntmps206
  go_wp2_with (go_at_call 230; refine ki.mono ?_; rintro e w' ⟨rfl, rfl⟩)
  go_region
  all_goals
    go_wp2
    go_ret3
    exact ⟨rfl, (Below.refl _ _).drew⟩
theorem scut_any (s : ByteArray) (c : UInt8) (w : World) {a b : ByteArray} {f : Bool} (k : Calls Tryz.prog 206 #[.string s, .string ⟨#[c]⟩] w fun e w' => e = .returned (.tuple #[.string a, .string b, .bool f]) ∧ Below w.heap.size w w') :
    Calls Tryz.prog 129 #[.string s, .string ⟨#[c]⟩] w fun e w' => e = .returned (.tuple #[.string a, .string b, .bool f]) ∧ Below w.heap.size w w' := by
  go_enter Tryz.func129, Tryz.ntmps129
  go_wp2_with (go_at_call 206; refine k.mono ?_; clear k; rintro e w' ⟨rfl, hb⟩)
  go_ret3
  exact ⟨rfl, hb⟩
end Go.Proofs.YtimdinmhphihkaaGreatDoor

namespace Go.Proofs.YtimdinmhphihkaaGreatDoor
open Go Go.Proofs Go.RowKit Go.Shelf Nu

attribute [local go_sem] Oper.semAt_some

theorem ext_lit (s t : ByteArray) (h : s.data.toList = t.data.toList) : s = t := by
  cases s; cases t; simp only [ByteArray.mk.injEq]; exact Array.toList_inj.1 h
instance (s : ByteArray) : Decidable (isNum s) := by unfold isNum; infer_instance
theorem p_lit (s : ByteArray) (N : Nat) (w : World) (h : isNum s) (hl : s.size ≤ 200) (hN : numv s s.size = N) :
    Calls Tryz.prog 47 #[.string s] w fun e w' => ∃ a c, e = .returned (.tuple #[.slice a (digs N).length c, .int .i64 0]) ∧ Reads w' (.slice a (digs N).length c) (digs N) ∧ Below w.heap.size w w' := by
  refine (parse_ok s w h hl).mono ?_
  rintro e w' ⟨v, rfl, f, hb⟩
  rw [hN] at f
  obtain ⟨a, c, rfl⟩ := f.reads.form
  exact ⟨a, c, rfl, f.reads, hb⟩
theorem trim_lit (s t : ByteArray) (w : World) (h : Lib.trimLeftB s.data.toList 48 = t.data.toList) : Calls Tryz.prog 207 #[.string s, .string ⟨#[48]⟩] w fun e w' => e = .returned (.string t) ∧ w = w' := by
  refine (Any.strings_TrimLeft_one YtimdinmhphihkaaGreatDoor.tlL s 48 (by decide) w).mono ?_
  rintro e w' ⟨rfl, rfl⟩
  exact ⟨by rw [h], rfl⟩
theorem bextra : Go.Proofs.Builder.Extra Tryz.prog YtimdinmhphihkaaGreatDoor.repL_ren := { sizeBuilder := by kernel_rfl, liesBuilder := by kernel_rfl, t5 := Tryz.underlying5, a5 := Tryz.isAgg5, z5 := Tryz.sizeOf5, v5 := Tryz.zeroValue5, infoByte := by kernel_rfl, cellsByte := by kernel_rfl, sizeByte := by kernel_rfl, neB5 := by decide }
theorem hit_lit (s a b : ByteArray) (c : UInt8) (i : Nat) (w : World) (h : Lib.indexByte s.data.toList c = i) (hi : i < s.size) (hs : s.size ≤ 1000000) (ha : s.extract 0 i = a) (hb : s.extract (i + 1) s.size = b) :
    Calls Tryz.prog 129 #[.string s, .string ⟨#[c]⟩] w fun e w' => e = .returned (.tuple #[.string a, .string b, .bool true]) ∧ Below w.heap.size w w' := by
  have k := lcut_hit s c i w h hi (small_max (by omega))
  rw [ha, hb] at k
  exact scut_any s c w k
theorem miss_lit (s : ByteArray) (c : UInt8) (w : World) (h : Lib.indexByte s.data.toList c = -1) :
    Calls Tryz.prog 129 #[.string s, .string ⟨#[c]⟩] w fun e w' => e = .returned (.tuple #[.string s, .string ⟨#[]⟩, .bool false]) ∧ Below w.heap.size w w' := scut_any s c w (lcut_miss s c w h)

end Go.Proofs.YtimdinmhphihkaaGreatDoor
