/- Both arguments' boxes. -/
import Derived.Test.YtgmbaamfobhceaaGreatGIntsB
set_option linter.unusedSimpArgs false
set_option linter.unusedVariables false
namespace Go.Proofs.YtgmbaamfobhceaaGreat
open Go Go.Proofs Go.RowKit Go.Shelf Nu
def BoxS (s : Nat) (t : TypeId) (n1 : Bool) (s1 : Option Addr) (t1 c1 : Nat) (n2 : Bool) (s2 : Option Addr) (t2 c2 : Nat) (res : Bool) (W : World) : Prop :=
 Box2 W s t (.bool n1) (.slice s1 t1 c1) ∧ Box2 W (s + 1) t (.bool n2) (.slice s2 t2 c2) ∧ (res = true → Box2 W (s + 1 + 1) t (.bool false) (.slice none 0 0)) ∧ s + 1 + (if res then 1 else 0) < W.heap.size
section
variable {s : Nat} {t : TypeId} {n1 n2 : Bool} {s1 s2 : Option Addr} {t1 c1 t2 c2 : Nat} {res : Bool} {W : World}
theorem BoxS.alloc (h : BoxS s t n1 s1 t1 c1 n2 s2 t2 c2 res W) (o : Obj) : BoxS s t n1 s1 t1 c1 n2 s2 t2 c2 res (W.alloc o) := ⟨h.1.alloc o, h.2.1.alloc o, fun e => (h.2.2.1 e).alloc o, by have := h.2.2.2; rw [World.size_alloc]; omega⟩
theorem BoxS.below (h : BoxS s t n1 s1 t1 c1 n2 s2 t2 c2 res W) {W' : World} (hb : Below W.heap.size W W') : BoxS s t n1 s1 t1 c1 n2 s2 t2 c2 res W' := ⟨h.1.below hb, h.2.1.below hb, fun e => (h.2.2.1 e).below hb, by have := h.2.2.2; have := hb.size; omega⟩
theorem BoxS.other (h : BoxS s t n1 s1 t1 c1 n2 s2 t2 c2 res W) {B o : Nat} (hB : s + 1 + (if res then 1 else 0) < B) (x : Value) : BoxS s t n1 s1 t1 c1 n2 s2 t2 c2 res (W.setCell ⟨B, o, none⟩ x) :=
 ⟨h.1.other (by omega) _, h.2.1.other (by omega) _, fun e => (h.2.2.1 e).other (by simp [e] at hB; omega) _, by rw [World.size_setCell]; exact h.2.2.2⟩
theorem BoxS.lt (h : BoxS s t n1 s1 t1 c1 n2 s2 t2 c2 res W) : s + 1 + (if res then 1 else 0) < W.heap.size := h.2.2.2
theorem bsC (h : BoxS s t n1 s1 t1 c1 n2 s2 t2 c2 res W) : W.cell? ⟨s, 0, none⟩ = some (.bool n1) ∧ W.cell? ⟨s, 1, none⟩ = some (.slice s1 t1 c1) ∧ W.cell? ⟨s + 1, 0, none⟩ = some (.bool n2) ∧ W.cell? ⟨s + 1, 1, none⟩ = some (.slice s2 t2 c2) := ⟨h.1.c0, h.1.c1, h.2.1.c0, h.2.1.c1⟩
end
end Go.Proofs.YtgmbaamfobhceaaGreat
