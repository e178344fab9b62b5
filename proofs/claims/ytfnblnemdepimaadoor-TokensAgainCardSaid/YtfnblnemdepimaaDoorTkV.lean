/- Tokens: some answers that the document fixes. -/
import Derived.Test.YtfnblnemdepimaaDoorTkS
namespace Go.Proofs.YtfnblnemdepimaaDoor
open Go Go.Proofs Go.RowKit Go.Shelf

theorem then_below {w a b : World} (h : Below w.heap.size w a) (k : Below a.heap.size a b) : Below w.heap.size w b := h.trans (k.mono h.size)
theorem below_drewN {w a : World} (h : Below w.heap.size w a) (n : Nat) : Below w.heap.size w (a.drewN n) := ⟨h.os, h.tape, h.output, h.size, h.block⟩
theorem name_is (s : ByteArray) (w : World) (b : Bool) (hs : s.size ≤ 1000000) (h : nameB s.data.toList = b) : Calls Tryd.prog 12 #[.string s] w fun e w' => e = .returned (.bool b) ∧ w = w' := by
  have := name_any s w hs
  rwa [h] at this
def ts1 : List Tk.Tok := [⟨2, [51], 0⟩, ⟨1, [120], 1⟩, ⟨3, [60, 61], 2⟩, ⟨3, [45], 4⟩, ⟨2, [50, 46, 53, 48], 5⟩]
theorem rd1 : Tk.Rd [51, 120, 60, 61, 45, 50, 46, 53, 48, 32, 35, 32, 121] 0 ts1 none := Tk.rdF_sound 20 _ _ _ _ (by rfl)
theorem rd2 : Tk.Rd [97, 32, 60, 32, 98] 0 [⟨1, [97], 0⟩] (some 2) := Tk.rdF_sound 20 _ _ _ _ (by rfl)
theorem rd3 : Tk.Rd [48, 49, 46, 50, 46, 51] 0 [⟨2, [48, 49, 46, 50], 0⟩] (some 4) := Tk.rdF_sound 20 _ _ _ _ (by rfl)
set_option maxRecDepth 100000 in
set_option maxHeartbeats 4000000 in
theorem alive_any {w : World} (hT : HasTab w) : Calls Tryd.prog 9 #[] w fun e w' => e = .returned (.bool true) ∧ Below w.heap.size w w' := by
  have HT := Lib.hid hT
  have hlt := hT.lt
  clear hT
  have k1 := fun (W : World) (h : HasTab W) => read_any (s := ⟨#[51, 120, 60, 61, 45, 50, 46, 53, 48, 32, 35, 32, 121]⟩) (w := W) (by decide) h rd1
  have k2 := fun (W : World) (h : HasTab W) => read_any (s := ⟨#[97, 32, 60, 32, 98]⟩) (w := W) (by decide) h rd2
  have k3 := fun (W : World) (h : HasTab W) => read_any (s := ⟨#[48, 49, 46, 50, 46, 51]⟩) (w := W) (by decide) h rd3
  have n1 := fun (W : World) => name_is ⟨#[120, 95, 49]⟩ W true (by decide) (by rfl)
  have n2 := fun (W : World) => name_is ⟨#[95, 120]⟩ W false (by decide) (by rfl)
  have n3 := fun (W : World) => name_is ⟨#[114, 111, 119, 115]⟩ W false (by decide) (by rfl)
  go_enter Tryd.func9, Tryd.ntmps9
  go_wp2_with fail
  refine (k1 w HT.out).mono ?_
  rintro e w1 ⟨v1, rfl, g1, b1⟩
  have G1 := Lib.hid g1.reads
  have B1 := Lib.hid b1
  clear k1 g1 b1
  go_wp2_with fail
  refine (k2 w1 (HT.out.below B1.out hlt)).mono ?_
  rintro e w2 ⟨rfl, b2⟩
  have B2 := Lib.hid (then_below B1.out b2)
  have G2 := Lib.hid (G1.out.below b2)
  clear k2 b2 G1 B1
  go_wp2_with fail
  refine (k3 w2 (HT.out.below B2.out hlt)).mono ?_
  rintro e w3 ⟨rfl, b3⟩
  have B3 := Lib.hid (then_below B2.out b3)
  have G3 := Lib.hid (G2.out.below b3)
  clear k3 b3 G2 B2
  go_wp2_with fail
  refine (same_yes (ts := ts1) (G3.out.below ((Below.refl _ _).alloc (Nat.le_refl _) _)) (TReads.laid (heap_alloc_new w3 _) (by rfl) rfl) (by decide)).mono ?_
  rintro e w4 ⟨rfl, nq, rfl⟩
  have B4 := Lib.hid (below_drewN (B3.out.alloc B3.out.size (.cells #[.int .u8 2, .string ⟨#[51]⟩, .int .i64 0, .int .u8 1, .string ⟨#[120]⟩, .int .i64 1, .int .u8 3, .string ⟨#[60, 61]⟩, .int .i64 2, .int .u8 3, .string ⟨#[45]⟩, .int .i64 4, .int .u8 2, .string ⟨#[50, 46, 53, 48]⟩, .int .i64 5] 28)) nq)
  clear G3 B3
  go_wp2_with (first
    | (go_at_call 12; (with_reducible refine (n1 _).mono ?_); clear n1; rintro e w5 ⟨rfl, rfl⟩)
    | (go_at_call 12; (with_reducible refine (n2 _).mono ?_); clear n2; rintro e w5 ⟨rfl, rfl⟩)
    | (go_at_call 12; (with_reducible refine (n3 _).mono ?_); clear n3; rintro e w5 ⟨rfl, rfl⟩))
  go_ret
  exact ⟨rfl, B4.out⟩
end Go.Proofs.YtfnblnemdepimaaDoor
