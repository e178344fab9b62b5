/- LinesBad: three rows of bytes and one of texts that a law lays: memory; what its lines are: mathematics. -/
import Derived.Test.YtiofdlkdpmomlaaLnEn
namespace Go.Proofs.Ytiofdlkdpmomlaa
open Go Go.Proofs Go.RowKit Go.Shelf
set_option linter.unusedVariables false
set_option linter.unusedSimpArgs false
set_option linter.unnecessarySimpa false

attribute [local go_sem] Oper.semAt_some
/-- three rows of bytes and one of texts, all of the call's own and apart -/
structure Bd (w W : World) (v1 v2 v3 vw : Value) (B1 B2 B3 : List UInt8) (ws : List (List UInt8)) : Prop where
  r1 : W.ownsRow w.heap.size 5 1 v1 B1.length (bcells B1)
  r2 : W.ownsRow w.heap.size 5 1 v2 B2.length (bcells B2)
  r3 : W.ownsRow w.heap.size 5 1 v3 B3.length (bcells B3)
  t : SFresh W w.heap.size vw ws
  bel : Below w.heap.size w W
  n12 : ∀ g, v1.ownBlock = some g → v2.ownBlock ≠ some g
  n13 : ∀ g, v1.ownBlock = some g → v3.ownBlock ≠ some g
  n23 : ∀ g, v2.ownBlock = some g → v3.ownBlock ≠ some g
  n1 : ∀ g, v1.ownBlock = some g → vw.ownBlock ≠ some g
  n2 : ∀ g, v2.ownBlock = some g → vw.ownBlock ≠ some g
  n3 : ∀ g, v3.ownBlock = some g → vw.ownBlock ≠ some g
section
variable {w W W' : World} {v1 v2 v3 vw v' : Value} {B1 B2 B3 L : List UInt8} {ws : List (List UInt8)}
theorem Bd.start (hb : Below w.heap.size w W) : Bd w W (.slice none 0 0) (.slice none 0 0) (.slice none 0 0) (.slice none 0 0) [] [] [] [] :=
  ⟨World.ownsRow_nil W _ _ 1, World.ownsRow_nil W _ _ 1, World.ownsRow_nil W _ _ 1, SFresh.nil _ _, hb, fun g e => (by cases e), fun g e => (by cases e), fun g e => (by cases e), fun g e => (by cases e), fun g e => (by cases e), fun g e => (by cases e)⟩
theorem Bd.below (h : Bd w W v1 v2 v3 vw B1 B2 B3 ws) (hb : Below W.heap.size W W') : Bd w W' v1 v2 v3 vw B1 B2 B3 ws :=
  ⟨own_keep h.r1 (fun g _ hg => hb.block g hg), own_keep h.r2 (fun g _ hg => hb.block g hg), own_keep h.r3 (fun g _ hg => hb.block g hg), h.t.below hb, then_below h.bel hb, h.n12, h.n13, h.n23, h.n1, h.n2, h.n3⟩
theorem Bd.drew (h : Bd w W v1 v2 v3 vw B1 B2 B3 ws) : Bd w W.drew v1 v2 v3 vw B1 B2 B3 ws := h.below ⟨rfl, rfl, rfl, Nat.le_refl _, fun _ _ => rfl⟩
theorem Bd.undrew (h : Bd w W.drew v1 v2 v3 vw B1 B2 B3 ws) : Bd w W v1 v2 v3 vw B1 B2 B3 ws :=
  ⟨h.r1, h.r2, h.r3, h.t, ⟨h.bel.os, h.bel.tape, h.bel.output, h.bel.size, h.bel.block⟩, h.n12, h.n13, h.n23, h.n1, h.n2, h.n3⟩
theorem Bd.s12 (h : Bd w W v1 v2 v3 vw B1 B2 B3 ws) : Bd w W v2 v1 v3 vw B2 B1 B3 ws :=
  ⟨h.r2, h.r1, h.r3, h.t, h.bel, fun g e e2 => h.n12 g e2 e, h.n23, h.n13, h.n2, h.n1, h.n3⟩
theorem Bd.s13 (h : Bd w W v1 v2 v3 vw B1 B2 B3 ws) : Bd w W v3 v2 v1 vw B3 B2 B1 ws :=
  ⟨h.r3, h.r2, h.r1, h.t, h.bel, fun g e e2 => h.n23 g e2 e, fun g e e2 => h.n13 g e2 e, fun g e e2 => h.n12 g e2 e, h.n3, h.n2, h.n1⟩
/-- the third row let go -/
theorem Bd.nil3 (h : Bd w W v1 v2 v3 vw B1 B2 B3 ws) : Bd w W v1 v2 (.slice none 0 0) vw B1 B2 [] ws :=
  ⟨h.r1, h.r2, World.ownsRow_nil W _ _ 1, h.t, h.bel, h.n12, fun g e e2 => (by cases e2), fun g e e2 => (by cases e2), h.n1, h.n2, fun g e => (by cases e)⟩
/-- bytes put behind the first row -/
theorem Bd.more (h : Bd w W v1 v2 v3 vw B1 B2 B3 ws) {u : Value} (hu : RdC W u L.length (bcells L)) (hf : Form u L.length) (hl : B1.length + L.length ≤ 1000000) (t : TypeId) :
    ∃ v' W', (Builtin.append_ #[22, 22] t #[v1, u]).run Try.prog W = .ok v' W' ∧ Bd w W' v' v2 v3 vw (B1 ++ L) B2 B3 ws ∧ Grew W W' v1 v' := by
  obtain ⟨i0, hi0, hz0, hz1, hz2⟩ := q_info info_u8P
  obtain ⟨v', W', r1, r2, r3⟩ := spread_run (P := Try.prog) w.heap.size 22 t 5 i0 (.int .u8 0) 1 Try.underlying22 hi0 hz0 hz1 hz2 rfl h.r1 hu hf (bcells_length _) (bcells_one L) (by simp only [maxLen]; omega) (by omega) h.bel.size
  have hG : Grew W W' v1 v' := r3
  refine ⟨v', W', r1, ⟨by rw [bcells_append, List.length_append]; exact r2, ?_, ?_, ?_, hG.below h.bel h.bel.size (fun g e => (World.ownsRow.lt h.r1 g e).1), fun g e e2 => ?_, fun g e e2 => ?_, h.n23, fun g e e2 => ?_, h.n2, h.n3⟩, hG⟩
  · exact own_keep h.r2 (fun g hg hlt => hG.keep.2 g hlt (fun e => h.n12 g e hg))
  · exact own_keep h.r3 (fun g hg hlt => hG.keep.2 g hlt (fun e => h.n13 g e hg))
  · exact own_keep h.t (fun g hg hlt => hG.keep.2 g hlt (fun e => h.n1 g e hg))
  · rcases hG.own e with h1 | h1
    · exact h.n12 g h1 e2
    · have := (World.ownsRow.lt h.r2 g e2).2; omega
  · rcases hG.own e with h1 | h1
    · exact h.n13 g h1 e2
    · have := (World.ownsRow.lt h.r3 g e2).2; omega
  · rcases hG.own e with h1 | h1
    · exact h.n1 g h1 e2
    · have := (World.ownsRow.lt h.t g e2).2; omega
theorem Bd.byte (h : Bd w W v1 v2 v3 vw B1 B2 B3 ws) (c : UInt8) (hl : B1.length ≤ 900000) {X : Int} (hX : X = (c.toNat : Int)) (t : TypeId) :
    ∃ v' W', (Builtin.append_ #[22, 22] t #[v1, .slice (some ⟨W.heap.size, 0, none⟩) 1 1]).run Try.prog (W.alloc (.cells #[.int .u8 X] 5)) = .ok v' W' ∧ Bd w W' v' v2 v3 vw (B1 ++ [c]) B2 B3 ws := by
  subst hX
  obtain ⟨v', W', h1, h2, _⟩ := (h.below (alloc_below W (.cells #[.int .u8 (c.toNat : Int)] 5))).more (L := [c]) (lit_rdc W (t := 5) (xs := bcells [c]) (cs := #[.int .u8 (c.toNat : Int)]) rfl (m := 1) rfl) (.inr ⟨_, _, rfl⟩) (by simp; omega) t
  exact ⟨v', W', h1, h2⟩
theorem Bd.text (h : Bd w W v1 v2 v3 vw B1 B2 B3 ws) (x : List UInt8) (hl : ws.length ≤ 900000) {S : ByteArray} (hS : Value.string S = scell x) (t : TypeId) :
    ∃ v' W', (Builtin.append_ #[27, 27] t #[vw, .slice (some ⟨W.heap.size, 0, none⟩) 1 1]).run Try.prog (W.alloc (.cells #[.string S] 9)) = .ok v' W' ∧ Bd w W' v1 v2 v3 v' B1 B2 B3 (ws ++ [x]) := by
  obtain ⟨i0, hi0, hz0, hz1, hz2⟩ := q_info info_strP
  have h' := h.below (alloc_below W (.cells #[.string S] 9))
  obtain ⟨v', W', r1, r2, r3⟩ := spread_run (P := Try.prog) w.heap.size 27 t 9 i0 (.string ⟨#[]⟩) 16 Try.underlying27 hi0 hz0 hz1 hz2 rfl h'.t (lit_rdc W (t := 9) (xs := scells [x]) (cs := #[.string S]) (by rw [hS]; rfl) (m := 1) rfl) (.inr ⟨_, _, rfl⟩) (scells_len [x]) (scells_one) (by simp only [maxLen]; omega) (by omega) h'.bel.size
  have hG : Grew (W.alloc (.cells #[.string S] 9)) W' vw v' := r3
  have hn : ∀ {v : Value} {n : Nat} {xs : List Value}, (W.alloc (.cells #[.string S] 9)).ownsRow w.heap.size 5 1 v n xs → (∀ g, v.ownBlock = some g → vw.ownBlock ≠ some g) → ∀ g, v.ownBlock = some g → v'.ownBlock ≠ some g := by
    intro v n xs ho hne g e e2
    rcases hG.own e2 with h1 | h1
    · exact hne g e h1
    · have := (World.ownsRow.lt ho g e).2; omega
  refine ⟨v', W', r1, ⟨own_keep h'.r1 (fun g hg hlt => hG.keep.2 g hlt (h'.n1 g hg)), own_keep h'.r2 (fun g hg hlt => hG.keep.2 g hlt (h'.n2 g hg)), own_keep h'.r3 (fun g hg hlt => hG.keep.2 g hlt (h'.n3 g hg)), ?_, hG.below h'.bel h'.bel.size (fun g e => (World.ownsRow.lt h'.t g e).1), h.n12, h.n13, h.n23, hn h'.r1 h'.n1, hn h'.r2 h'.n2, hn h'.r3 h'.n3⟩⟩
  refine SFresh.snoc ?_
  unfold scells at *
  exact r2
theorem Bd.seen (h : Bd w W v1 v2 v3 vw B1 B2 B3 ws) {own : Nat → Prop} {W2 : World} (hb : Below W.heap.size W W2) (ho : ∀ b, own b → W.heap.size ≤ b) : ∀ W', W2.heap.size ≤ W'.heap.size → (∀ b, b < W2.heap.size → ¬ own b → W'.heap[b]? = W2.heap[b]?) → RdC W' v1 B1.length (bcells B1) :=
  arg_keep (own_rdc h.r1) hb ho
end
namespace Ln
/-- a byte put in, and one more behind a byte 13 -/
def spoil (n : Nat) (c : UInt8) (y : List UInt8) : List UInt8 := y.take n ++ [c] ++ y.drop n ++ (if c == 13 then [120] else [])
/-- the j-th line that the law lays -/
def badline (k m : Nat) (c : UInt8) (j : Nat) (x : List UInt8) : List UInt8 := if j = k then spoil (m % (x.length + 1)) c (x.map ink) else x.map ink
def badlines (k m : Nat) (c : UInt8) (ls : List (List UInt8)) : List (List UInt8) := ls.mapIdx (badline k m c)
theorem badlines_snoc {k m : Nat} {c : UInt8} {ls : List (List UInt8)} {i : Nat} {x : List UInt8} (h : ls[i]? = some x) : badlines k m c (ls.take (i + 1)) = badlines k m c (ls.take i) ++ [badline k m c i x] := by
  have hlt := (List.getElem?_eq_some_iff.1 h).1
  unfold badlines
  rw [List.take_add_one, h]
  show List.mapIdx _ (ls.take i ++ [x]) = _
  rw [List.mapIdx_concat, List.length_take, Nat.min_eq_left (by omega)]
theorem spoil_fine {n : Nat} {c : UInt8} {y : List UInt8} (hy : ∀ z ∈ y, ill z = false) (hl : y.length ≤ 60000) : line (spoil n c y) = if ill c then ([], true) else (spoil n c y, false) := by
  have e : spoil n c y = y.take n ++ c :: (y.drop n ++ (if c == 13 then [120] else [])) := by unfold spoil; simp
  rw [e]
  refine line_spoilt (fun x hx => hy x (List.mem_of_mem_take hx)) (fun x hx => ?_) ?_ ?_
  · rcases List.mem_append.1 hx with hx | hx
    · exact hy x (List.mem_of_mem_drop hx)
    · split at hx
      · obtain rfl : x = 120 := by simpa using hx
        decide
      · cases hx
  · have h1 : (if c == 13 then ([120] : List UInt8) else []).length ≤ 1 := by split <;> simp
    simp only [List.length_append, List.length_take, List.length_drop]
    omega
  · by_cases h13 : c = 13
    · subst h13
      have : (y.take n ++ (13 : UInt8) :: (y.drop n ++ (if (13 : UInt8) == 13 then [120] else []))).getLast? = some 120 := by
        simp only [beq_self_eq_true, if_true]
        rw [show y.take n ++ (13 : UInt8) :: (y.drop n ++ [120]) = (y.take n ++ 13 :: y.drop n) ++ [120] by simp]
        exact List.getLast?_concat ..
      rw [this]
      simp
    · rw [if_neg (by simpa using h13), List.append_nil]
      intro h
      rw [List.getLast?_append] at h
      cases hd : y.drop n with
      | nil => rw [hd] at h; simp at h; exact h13 h
      | cons z t =>
        rw [hd] at h
        rw [show (c :: z :: t).getLast? = (z :: t).getLast? by simp [List.getLast?_cons_cons]] at h
        have h2 : (z :: t).getLast? = some 13 := by
          cases hq : (z :: t).getLast? with
          | none => simp at hq
          | some q => rw [hq] at h; simpa using h
        have h3 := hy 13 (List.mem_of_mem_drop (hd ▸ List.mem_of_getLast? h2))
        rw [ill_13] at h3
        cases h3
theorem ink_line {x : List UInt8} (hl : x.length ≤ 60000) : line (x.map ink) = (x.map ink, false) := by
  unfold line
  rw [cut_plain (last_ill (ink_not13 x)), if_pos (may_of (ink_not13 x) (by rw [List.length_map]; omega))]
/-- what is told of the j-th line -/
theorem badline_told {k m : Nat} {c : UInt8} {j : Nat} {x : List UInt8} (hl : x.length ≤ 100) : line (badline k m c j x) = if (ill c && decide (j = k)) = true then ([], true) else (badline k m c j x, false) := by
  unfold badline
  by_cases h : j = k
  · rw [if_pos h, decide_eq_true h, Bool.and_true, spoil_fine (ink_not13 x) (by rw [List.length_map]; omega)]
  · rw [if_neg h, decide_eq_false h, Bool.and_false, ink_line (by omega)]
    rfl
theorem badline_ten {k m : Nat} {c : UInt8} (hc : c ≠ 10) {j : Nat} {x : List UInt8} : ∀ z ∈ badline k m c j x, (z == 10) = false := by
  intro z hz
  have hi := no_ten (ink_not13 x)
  unfold badline at hz
  split at hz
  · unfold spoil at hz
    rcases List.mem_append.1 hz with hz | hz
    · rcases List.mem_append.1 hz with hz | hz
      · rcases List.mem_append.1 hz with hz | hz
        · exact hi z (List.mem_of_mem_take hz)
        · obtain rfl : z = c := by simpa using hz
          exact beq_eq_false_iff_ne.2 hc
      · exact hi z (List.mem_of_mem_drop hz)
    · split at hz
      · obtain rfl : z = 120 := by simpa using hz
        rfl
      · cases hz
  · exact hi z hz
/-- what the lines so far are read as -/
def BdL (k m : Nat) (c : UInt8) (ls : List (List UInt8)) (i : Nat) (B : List UInt8) : Prop := lgo [] B = ((badlines k m c (ls.take i)).map line, []) ∧ B.length ≤ 103 * i
theorem BdL.next {k m : Nat} {c : UInt8} {ls : List (List UInt8)} {i : Nat} {B x : List UInt8} (h : BdL k m c ls i B) (hc : c ≠ 10) (hx : ls[i]? = some x) (hl : x.length ≤ 100) : BdL k m c ls (i + 1) (B ++ badline k m c i x ++ [10]) := by
  refine ⟨?_, ?_⟩
  · rw [List.append_assoc, lgo_append, h.1, lgo_one (badline_ten hc), badlines_snoc hx, List.map_append]
    rfl
  · have h2 := h.2
    have h3 : (badline k m c i x).length ≤ 102 := by
      unfold badline spoil
      split
      · have h1 : (if c == 13 then ([120] : List UInt8) else []).length ≤ 1 := by split <;> simp
        simp only [List.length_append, List.length_take, List.length_drop, List.length_map, List.length_singleton]
        omega
      · rw [List.length_map]; omega
    simp only [List.length_append, List.length_singleton]
    omega
end Ln
end Go.Proofs.Ytiofdlkdpmomlaa
