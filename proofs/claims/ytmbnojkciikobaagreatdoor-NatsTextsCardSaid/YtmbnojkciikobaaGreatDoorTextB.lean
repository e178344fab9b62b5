/- The closure is made; Text. -/
import Derived.Test.YtmbnojkciikobaaGreatDoorText
namespace Go.Proofs.YtmbnojkciikobaaGreatDoor
open Go Go.Proofs Go.RowKit Go.Shelf Nu

theorem Fresh.allocs {W : World} {base : Nat} {v : Value} {l : List Nat} (h : Fresh W base v l) (o : Obj) : Fresh (W.alloc o) base v l :=
  World.ownsRow.kept h (World.grownBy_alloc W o none) (by by_cases e : v.ownBlock = none; exact .inl e; exact .inr e)
theorem Fresh.below_size {W : World} {base : Nat} {v : Value} {l : List Nat} (h : Fresh W base v l) : v.ownBlock = none ∨ ∃ g, v.ownBlock = some g ∧ g < W.heap.size := by
  rcases h.form with ⟨rfl, _⟩ | ⟨g, cap, rfl, _⟩
  · exact .inl rfl
  · obtain ⟨_, hb, _⟩ := h.blk rfl
    exact .inr ⟨g, rfl, hb.lt⟩

theorem maker_inv {W : World} {base : Nat} {v : Value} {L : List Nat} (h : Fresh W base v L) (hs : Sm L) (hc : chk L = true) (hL : L.length ≤ 100000) :
    DigInv (((W.alloc (.cells #[v] 23)).alloc (.cells #[.int .u32 (0 : Nat)] 78)).alloc (.cells #[.int .i64 (0 : Nat)] 3)) base W.heap.size (val L) :=
  ⟨v, L, 0, 0, ((Boxed.new W _ _).alloc _).alloc _, (boxed_new1 W _ _ _).alloc _, boxed_new2 W _ _ _ _, ((h.allocs _).allocs _).allocs _, hs, hc, hL, by decide, by decide, by simp,
    h.below_size.imp id fun ⟨g, h1, h2⟩ => ⟨g, h1, h2⟩⟩
theorem maker_below {w W : World} {B : Nat} (h : Below B w W) (hB : B ≤ W.heap.size) (a b c : Obj) : Below B w (((W.alloc a).alloc b).alloc c) :=
  ((h.alloc hB a).alloc (by rw [World.size_alloc]; omega) b).alloc (by rw [World.size_alloc, World.size_alloc]; omega) c

set_option maxHeartbeats 4000000 in
theorem digits_any {w : World} {v : Value} {L : List Nat} (h : Reads w v L) (hs : Sm L) (hc : chk L = true) (hL : L.length ≤ 100000) :
    Calls Tryz.prog 129 #[v] w fun e w' => ∃ s, w.heap.size ≤ s ∧ e = .returned (.func (.func 171) #[] #[.pointer (some ⟨s + 1 + 1, 0, none⟩), .pointer (some ⟨s, 0, none⟩), .pointer (some ⟨s + 1, 0, none⟩)]) ∧ DigInv w' w.heap.size s (val L) ∧ Below w.heap.size w w' := by
  have kt := clone_any h (by omega)
  obtain ⟨a0, c0, rfl⟩ := h.form
  have hmf : ∀ (fn : Fn) (first cap : Array Value) (w : World), (Instr.makeFunc fn first cap).run Tryz.prog w = .ok (.func fn first cap) w := fun _ _ _ _ => rfl
  have H := Lib.hid h
  clear h
  go_enter Tryz.func129, Tryz.ntmps129
  go_wp2_with (go_at_call 115; refine kt.mono ?_; clear kt; rintro e w' ⟨v', rfl, hF', hB'⟩; obtain ⟨a1, c1, rfl⟩ := hF'.reads.form)
  all_goals
    go_ret
    have hsz : w.heap.size ≤ w'.heap.size := hB'.size
    exact ⟨w'.heap.size, hsz, rfl, maker_inv hF' hs hc hL, maker_below hB' hsz _ _ _⟩

end Go.Proofs.YtmbnojkciikobaaGreatDoor
