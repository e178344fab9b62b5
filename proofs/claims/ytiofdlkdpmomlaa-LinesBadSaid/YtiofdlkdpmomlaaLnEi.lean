/- Lines: rows of bytes and of texts that a law lays: memory. -/
import Derived.Test.YtiofdlkdpmomlaaLnPa
import Derived.Test.YtiofdlkdpmomlaaLnLo
import Derived.Test.YtiofdlkdpmomlaaLnFr
namespace Go.Proofs.Ytiofdlkdpmomlaa
open Go Go.Proofs Go.RowKit Go.Shelf
set_option linter.unusedVariables false
set_option linter.unusedSimpArgs false
set_option linter.unnecessarySimpa false

attribute [local go_sem] Oper.semAt_some
theorem info_strP : (Try.prog.info? 9).map (fun i => (i.zero, i.size, i.bytes)) = some (some (.string ⟨#[]⟩), 1, 16) := by kernel_rfl
theorem lform3 {W : World} {base e size n : Nat} {v : Value} {xs : List Value} (h : W.ownsRow base e size v n xs) : ∃ a k c, v = .slice a k c ∧ k = n := by
  obtain ⟨a, c, e⟩ := lform_row h
  exact ⟨a, n, c, e, rfl⟩
/-- a row of bytes and a row of texts, both of the call's own -/
structure EnI (w W : World) (vb vw : Value) (B : List UInt8) (ws : List (List UInt8)) : Prop where
  b : W.ownsRow w.heap.size 5 1 vb B.length (bcells B)
  t : SFresh W w.heap.size vw ws
  bel : Below w.heap.size w W
  ne : ∀ g, vb.ownBlock = some g → vw.ownBlock ≠ some g
section
variable {w W W' : World} {vb vw v' : Value} {B L : List UInt8} {ws : List (List UInt8)}
theorem EnI.below (h : EnI w W vb vw B ws) (hb : Below W.heap.size W W') : EnI w W' vb vw B ws :=
  ⟨own_keep h.b (fun g _ hg => hb.block g hg), h.t.below hb, then_below h.bel hb, h.ne⟩
theorem EnI.start (w W : World) (hb : Below w.heap.size w W) : EnI w W (.slice none 0 0) (.slice none 0 0) [] [] :=
  ⟨World.ownsRow_nil W _ _ 1, SFresh.nil _ _, hb, fun g e => by cases e⟩
/-- bytes put behind, whatever is read of them -/
theorem EnI.more (h : EnI w W vb vw B ws) {u : Value} (hu : RdC W u L.length (bcells L)) (hf : Form u L.length) (hl : B.length + L.length ≤ 1000000) (t : TypeId) :
    ∃ v' W', (Builtin.append_ #[22, 22] t #[vb, u]).run Try.prog W = .ok v' W' ∧ EnI w W' v' vw (B ++ L) ws ∧ Grew W W' vb v' := by
  obtain ⟨i0, hi0, hz0, hz1, hz2⟩ := q_info info_u8P
  obtain ⟨v', W', r1, r2, r3⟩ := spread_run (P := Try.prog) w.heap.size 22 t 5 i0 (.int .u8 0) 1 Try.underlying22 hi0 hz0 hz1 hz2 rfl h.b hu hf (bcells_length _) (bcells_one L) (by simp only [maxLen]; omega) (by omega) h.bel.size
  have hG : Grew W W' vb v' := r3
  refine ⟨v', W', r1, ⟨by rw [bcells_append, List.length_append]; exact r2, ?_, hG.below h.bel h.bel.size (fun g e => (World.ownsRow.lt h.b g e).1), fun g e e2 => ?_⟩, hG⟩
  · exact own_keep h.t (fun g hg hlt => hG.keep.2 g hlt (fun e => h.ne g e hg))
  · rcases hG.own e with h1 | h1
    · exact h.ne g h1 e2
    · have := (World.ownsRow.lt h.t g e2).2; omega
/-- a byte put behind -/
theorem EnI.byte (h : EnI w W vb vw B ws) (c : UInt8) (hl : B.length ≤ 900000) {X : Int} (hX : X = (c.toNat : Int)) (t : TypeId) :
    ∃ v' W', (Builtin.append_ #[22, 22] t #[vb, .slice (some ⟨W.heap.size, 0, none⟩) 1 1]).run Try.prog (W.alloc (.cells #[.int .u8 X] 5)) = .ok v' W' ∧ EnI w W' v' vw (B ++ [c]) ws := by
  subst hX
  obtain ⟨v', W', h1, h2, _⟩ := (h.below (alloc_below W (.cells #[.int .u8 (c.toNat : Int)] 5))).more (L := [c]) (lit_rdc W (t := 5) (xs := bcells [c]) (cs := #[.int .u8 (c.toNat : Int)]) rfl (m := 1) rfl) (.inr ⟨_, _, rfl⟩) (by simp; omega) t
  exact ⟨v', W', h1, h2⟩
/-- a text put behind -/
theorem EnI.text (h : EnI w W vb vw B ws) (x : List UInt8) (hl : ws.length ≤ 900000) {S : ByteArray} (hS : Value.string S = scell x) (t : TypeId) :
    ∃ v' W', (Builtin.append_ #[27, 27] t #[vw, .slice (some ⟨W.heap.size, 0, none⟩) 1 1]).run Try.prog (W.alloc (.cells #[.string S] 9)) = .ok v' W' ∧ EnI w W' vb v' B (ws ++ [x]) := by
  obtain ⟨i0, hi0, hz0, hz1, hz2⟩ := q_info info_strP
  have h' := h.below (alloc_below W (.cells #[.string S] 9))
  obtain ⟨v', W', r1, r2, r3⟩ := spread_run (P := Try.prog) w.heap.size 27 t 9 i0 (.string ⟨#[]⟩) 16 Try.underlying27 hi0 hz0 hz1 hz2 rfl h'.t (lit_rdc W (t := 9) (xs := scells [x]) (cs := #[.string S]) (by rw [hS]; rfl) (m := 1) rfl) (.inr ⟨_, _, rfl⟩) (scells_len [x]) (scells_one) (by simp only [maxLen]; omega) (by omega) h'.bel.size
  have hG : Grew (W.alloc (.cells #[.string S] 9)) W' vw v' := r3
  refine ⟨v', W', r1, ⟨?_, ?_, hG.below h'.bel h'.bel.size (fun g e => (World.ownsRow.lt h'.t g e).1), fun g e e2 => ?_⟩⟩
  · exact own_keep h'.b (fun g hg hlt => hG.keep.2 g hlt (h'.ne g hg))
  · refine SFresh.snoc ?_
    unfold scells at *
    exact r2
  · rcases hG.own e2 with h1 | h1
    · exact h'.ne g e h1
    · have := (World.ownsRow.lt h'.b g e).2; omega
/-- the row of bytes, read over a reader's calls -/
theorem EnI.seen (h : EnI w W vb vw B ws) {own : Nat → Prop} {W2 : World} (hb : Below W.heap.size W W2) (ho : ∀ b, own b → W.heap.size ≤ b) : ∀ W', W2.heap.size ≤ W'.heap.size → (∀ b, b < W2.heap.size → ¬ own b → W'.heap[b]? = W2.heap[b]?) → RdC W' vb B.length (bcells B) :=
  arg_keep (own_rdc h.b) hb ho
end
/-- one of the rows of a list of lists -/
theorem rowb_at {w W : World} {ls : List (List UInt8)} {b off : Nat} (h : ∀ (j : Nat) (l : List UInt8), ls[j]? = some l → ∃ u, w.cell? ⟨b, off + j, none⟩ = some u ∧ RdC w u l.length (bcells l) ∧ l.length ≤ 140737488355328) (hlt : b < w.heap.size) (hb : Below w.heap.size w W) {j : Nat} {l : List UInt8} (hj : ls[j]? = some l) :
    ∃ a c, W.cell? ⟨b, off + j, none⟩ = some (.slice a l.length c) ∧ RdC W (.slice a l.length c) l.length (bcells l) ∧ l.length ≤ 140737488355328 := by
  obtain ⟨u, h1, h2, h3⟩ := h j l hj
  have h4 := h2
  obtain ⟨a, c, rfl, _⟩ := h4
  exact ⟨a, c, (hb.cell (p := ⟨b, off + j, none⟩) hlt).trans h1, h2.below hb, h3⟩
namespace Ln
theorem ink_nat (c : UInt8) : (ink c).toNat = 32 + c.toNat % 95 := by
  have h : ∀ n, n < 256 → (ink (UInt8.ofNat n)).toNat = 32 + (UInt8.ofNat n).toNat % 95 := by decide +kernel
  have := h c.toNat c.toNat_lt
  rwa [UInt8.ofNat_toNat] at this
end Ln
end Go.Proofs.Ytiofdlkdpmomlaa
