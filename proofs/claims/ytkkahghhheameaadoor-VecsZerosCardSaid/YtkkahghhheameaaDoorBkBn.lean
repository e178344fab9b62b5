/- A book's lists: what all kinds want. -/
import Derived.Test.YtkkahghhheameaaDoorBkN
import Derived.Deep.RegionHeld3
import Derived.Deep.RegionLaw
import Derived.Deep.AppendLies
import Derived.Deep.LoopGhost
import Derived.BigQuiet
import Derived.Deep.QuietTactic
import Derived.Laws.Strings
import Derived.Laws.Concat
import Derived.Laws.ResultCell
namespace Go.Proofs.YtkkahghhheameaaDoor
open Go Go.Proofs Go.RowKit Go.Shelf

attribute [local go_sem] Oper.semAt_some
set_option maxRecDepth 100000
theorem unflipQ {P : Program} {f : Nat} {args : Array Value} {W : World} {Q : Ending → Prop} (h : Calls P f args W fun e w' => Q e ∧ W = w') : Calls P f args W fun e w' => Q e ∧ w' = W := h.mono fun _ _ h => ⟨h.1, h.2.symm⟩
theorem i64q (n : Nat) (h : n < 9223372036854775808) : IntKind.i64.wrap (n : Int) = (n : Int) := IntWalk.i64_in _ (by omega)
theorem q_bg {W W' : World} (h : Below W.heap.size W W') : W.grownBy W' none := ⟨h.os, h.tape, h.output, h.size, fun k hk _ => h.block k hk⟩
end Go.Proofs.YtkkahghhheameaaDoor
