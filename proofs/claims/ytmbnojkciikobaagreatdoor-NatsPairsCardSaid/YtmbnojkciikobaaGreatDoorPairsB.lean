/- NatsPairs: all numbers. -/
import Derived.Test.YtmbnojkciikobaaGreatDoorPairs
namespace Go.Proofs.YtmbnojkciikobaaGreatDoor
open Go Go.Proofs Go.RowKit Go.Shelf Nu

attribute [local go_sem] Oper.semAt_some

set_option maxRecDepth 100000 in
set_option maxHeartbeats 2000000 in
theorem pairs_great {w : World} {a1 b1 : Option Addr} {na nb ca cb : Nat} (h : 300 < na ∨ 300 < nb) :
    Calls Tryz.prog 3 #[.slice a1 na ca, .slice b1 nb cb] w fun e w' => e = .returned (.bool true) ∧ Below w.heap.size w w' := by
  have hG : Hid (true = [(a1, na, ca), (b1, nb, cb)].any (fun t => decide (300 < t.2.1))) := Lib.hid (by simpa using h)
  clear h
  go_enter Tryz.func3, Tryz.ntmps3
  go_wp2_with fail
  go_at_call 8
  refine (great_lit w [(a1, na, ca), (b1, nb, cb)] (vs := #[.slice a1 na ca, .slice b1 nb cb]) rfl (m := 2) rfl (by simp) true hG.out).mono ?_
  rintro e w1 ⟨rfl, r⟩
  go_wp2_with fail
  go_ret
  exact ⟨rfl, r⟩
theorem pairs_all {w : World} {a1 b1 : Option Addr} {ca cb : Nat} {la lb : List Nat} (hSA : Sm la) (hSB : Sm lb) (hA : Reads w (.slice a1 la.length ca) la) (hB : Reads w (.slice b1 lb.length cb) lb) :
    Calls Tryz.prog 3 #[.slice a1 la.length ca, .slice b1 lb.length cb] w fun e w' => e = .returned (.bool true) ∧ Below w.heap.size w w' := by
  by_cases h : la.length ≤ 300 ∧ lb.length ≤ 300
  · exact pairs_walk hA hB h.1 h.2 hSA hSB
  · exact pairs_great (by omega)

end Go.Proofs.YtmbnojkciikobaaGreatDoor
