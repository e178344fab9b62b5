/- LinesPieces: its walk. -/
import Derived.Test.YtiofdlkdpmomlaaLnMy
import Derived.Test.YtiofdlkdpmomlaaLnE
namespace Go.Proofs.Ytiofdlkdpmomlaa
open Go Go.Proofs Go.RowKit Go.Shelf
set_option linter.unusedVariables false
set_option linter.unusedSimpArgs false
set_option linter.unnecessarySimpa false

attribute [local go_sem] Oper.semAt_some
theorem Ln.behind_le (l : List UInt8) : Ln.behind 0 l ≤ l.length := by
  have h : ∀ (l : List UInt8) (n : Nat), Ln.behind n l ≤ n + l.length := by
    intro l
    induction l with
    | nil => intro n; exact Nat.le_refl _
    | cons c t ih =>
      intro n
      show Ln.behind (if c == 10 then 0 else n + 1) t ≤ _
      have h0 := ih 0
      have h1 := ih (n + 1)
      rw [List.length_cons]
      by_cases h : (c == 10) = true
      · rw [if_pos h]; omega
      · rw [if_neg h]; omega
  have := h l 0
  omega
theorem info_u8P : (Try.prog.info? 5).map (fun i => (i.zero, i.size, i.bytes)) = some (some (.int .u8 0), 1, 1) := by kernel_rfl
theorem info_boolP : (Try.prog.info? 4).map (fun i => (i.zero, i.size, i.bytes)) = some (some (.bool false), 1, 1) := by kernel_rfl
def ncells (l : List UInt16) : List Value := l.map (fun c => .int .u16 (c.toNat : Int))
/-- a part ahead of a slice -/
theorem cut_front {W0 : World} {a : Option Addr} {n c k : Nat} {xs : List Value} (h : RdC W0 (.slice a n c) n xs) (hk : k ≤ n) :
    ∃ a', (∀ W, (Instr.sliceAt 22 (.slice a n c) none (some (.int .i64 (k : Int))) none).run Try.prog W = .ok (.slice a' k c) W) ∧ RdC W0 (.slice a' k c) k (xs.take k) := by
  obtain ⟨a0, c0, e, hc, h⟩ := h
  cases e
  refine ⟨a, fun W => ?_, a, c, rfl, by omega, fun h0 => ?_⟩
  · rw [run_sliceAt_slice W _ _ _ _ _ Try.underlying22, run_slice_h W _ a n c Try.underlying22 .i64 (k : Int) (by omega) (by omega)]
    obtain ⟨i0, hi0, _, hz1, _⟩ := q_info info_u8P
    have he : Try.prog.elem 22 = 5 := by kernel_rfl
    have ha : ∀ y : Option Addr, y.map (fun x => x) = y := fun y => by cases y <;> rfl
    simp [he, sizeOf, typeInfo, hi0, hz1, sliced, Addr.add, ha, Result.andThen]
  · obtain ⟨b, off, e, hb, hx⟩ := h (by omega)
    refine ⟨b, off, e, hb, fun o u hu => hx o u ?_⟩
    rw [List.getElem?_take] at hu
    split at hu
    · exact hu
    · cases hu
theorem cut_back {W0 : World} {a : Option Addr} {n c k : Nat} {xs : List Value} (h : RdC W0 (.slice a n c) n xs) (hk : k ≤ n) :
    ∃ a', (∀ W, (Instr.sliceAt 22 (.slice a n c) (some (.int .i64 (k : Int))) none none).run Try.prog W = .ok (.slice a' (n - k) (c - k)) W) ∧ RdC W0 (.slice a' (n - k) (c - k)) (n - k) (xs.drop k) := by
  obtain ⟨a0, c0, e, hc, h⟩ := h
  cases e
  refine ⟨if c = k then a else a.map (·.add (k * 1)), fun W => ?_, _, _, rfl, by omega, fun h0 => ?_⟩
  · rw [run_sliceAt_slice W _ _ _ _ _ Try.underlying22, run_slice_l W _ a n c Try.underlying22 .i64 (k : Int) (by omega) (by omega)]
    obtain ⟨i0, hi0, _, hz1, _⟩ := q_info info_u8P
    have he : Try.prog.elem 22 = 5 := by kernel_rfl
    simp [he, sizeOf, typeInfo, hi0, hz1, sliced, Addr.add, Result.andThen]
  · obtain ⟨b, off, rfl, hb, hx⟩ := h (by omega)
    refine ⟨b, off + k, ?_, hb, fun o u hu => ?_⟩
    · rw [if_neg (by omega)]; simp [Addr.add]
    · rw [List.getElem?_drop] at hu
      have := hx (k + o) u hu
      rw [← this]; congr 2; omega
/-- a row of the call's own stays while its block does -/
theorem own_keep {W W' : World} {base e size n : Nat} {v : Value} {xs : List Value} (h : W.ownsRow base e size v n xs) (hk : ∀ g, v.ownBlock = some g → g < W.heap.size → W'.heap[g]? = W.heap[g]?) : W'.ownsRow base e size v n xs := by
  refine ⟨h.1, ?_⟩
  rcases h.2 with h2 | ⟨g, cap, cur, e2, hb', hg, hr⟩
  · exact .inl h2
  · refine .inr ⟨g, cap, cur, e2, hb', ?_, hr⟩
    subst e2
    rw [hk g rfl (Array.getElem?_eq_some_iff.1 hg).1]
    exact hg
structure PcI (w w4 W : World) (P2 : Nat) (own20 own2 : Nat → Prop) (l : List UInt8) (d N : Nat) (A : Option Addr) (c : Nat) (vy vo : Value) : Prop where
  le : d ≤ N
  rest : RdC w (.slice A (N - d) c) (N - d) (bcells (l.drop d))
  b : Below w.heap.size w W
  low : w.heap.size ≤ w4.heap.size
  hs : w4.heap.size ≤ W.heap.size
  hk : ∀ b, b < w4.heap.size → ¬ own20 b → W.heap[b]? = w4.heap[b]?
  r2 : PRd W P2 w.heap.size own2 (Ln.lgo [] (l.take d)).2
  ow : ∀ b, own2 b → own20 b ∨ w4.heap.size ≤ b
  y : SFresh W w4.heap.size vy ((Ln.lgo [] (l.take d)).1.map (·.1))
  o : BFresh W w4.heap.size vo ((Ln.lgo [] (l.take d)).1.map (·.2))
  yo : ∀ g, vy.ownBlock = some g → ¬ own2 g ∧ vo.ownBlock ≠ some g
  oo : ∀ g, vo.ownBlock = some g → ¬ own2 g
/-- what append leaves -/
def Grew (W W' : World) (v v' : Value) : Prop := (v'.ownBlock = v.ownBlock ∧ W.grownBy W' v.ownBlock) ∨ (v'.ownBlock = some W.heap.size ∧ W.grownBy W' none)
theorem Grew.keep {W W' : World} {v v' : Value} (h : Grew W W' v v') : W.heap.size ≤ W'.heap.size ∧ ∀ b, b < W.heap.size → v.ownBlock ≠ some b → W'.heap[b]? = W.heap[b]? := by
  rcases h with ⟨_, h⟩ | ⟨_, h⟩
  · exact ⟨h.size, fun b hb hn => h.block b hb (fun e => hn e.symm)⟩
  · exact ⟨h.size, fun b hb hn => h.block b hb (by simp)⟩
theorem Grew.own {W W' : World} {v v' : Value} (h : Grew W W' v v') {g : Nat} (hg : v'.ownBlock = some g) : v.ownBlock = some g ∨ g = W.heap.size := by
  rcases h with ⟨e, _⟩ | ⟨e, _⟩
  · exact .inl (by rw [← e, hg])
  · rw [e] at hg; cases hg; exact .inr rfl
theorem Grew.then {W W' W'' : World} {v v' : Value} (h : Grew W W' v v') (hb : Below W'.heap.size W' W'') : Grew W W'' v v' := by
  have hk : ∀ k, k < W'.heap.size → W''.heap[k]? = W'.heap[k]? := hb.block
  rcases h with ⟨e, h⟩ | ⟨e, h⟩
  · exact .inl ⟨e, ⟨hb.os.trans h.os, hb.tape.trans h.tape, hb.output.trans h.output, Nat.le_trans h.size hb.size, fun k h1 h2 => (hk k (Nat.lt_of_lt_of_le h1 h.size)).trans (h.block k h1 h2)⟩⟩
  · exact .inr ⟨e, ⟨hb.os.trans h.os, hb.tape.trans h.tape, hb.output.trans h.output, Nat.le_trans h.size hb.size, fun k h1 h2 => (hk k (Nat.lt_of_lt_of_le h1 h.size)).trans (h.block k h1 h2)⟩⟩
theorem Grew.below {W W' : World} {v v' : Value} (h : Grew W W' v v') {B : Nat} {a : World} (hb : Below B a W) (hB : B ≤ W.heap.size) (hr : ∀ g, v.ownBlock = some g → B ≤ g) : Below B a W' := by
  rcases h with ⟨_, h⟩ | ⟨_, h⟩
  · exact hb.grown h hB hr
  · exact hb.grown h hB (fun k hk => by cases hk)
section
variable {w w4 W W1 W2 W3 : World} {P2 : Nat} {own20 own2 own2' : Nat → Prop} {l : List UInt8} {d N k : Nat} {A A' : Option Addr} {c c' : Nat} {vy vo vl vm vy' vo' : Value}
/-- the next piece told, both rows grown by it -/
theorem pc_next (hN : N = l.length) (I : PcI w w4 W P2 own20 own2 l d N A c vy vo) (hk : k ≤ N - d) (An : PutAns PRd W P2 w.heap.size own2 (Ln.lgo [] (l.take d)).2 ((l.drop d).take k) vl vm own2' W1)
    (y1 : W2.ownsRow w4.heap.size 9 1 vy' ((Ln.lgo [] (l.take (d + k))).1.map (·.1)).length (scells ((Ln.lgo [] (l.take (d + k))).1.map (·.1)))) (g1 : Grew W1 W2 vy vy')
    (o1 : W3.ownsRow w4.heap.size 4 1 vo' ((Ln.lgo [] (l.take (d + k))).1.map (·.2)).length (((Ln.lgo [] (l.take (d + k))).1.map (·.2)).map tcellB)) (g2 : Grew W2 W3 vo vo')
    (hr : RdC w (.slice A' (N - (d + k)) c') (N - (d + k)) (bcells (l.drop (d + k)))) : PcI w w4 W3 P2 own20 own2' l (d + k) N A' c' vy' vo' := by
  obtain ⟨a1, a2, a3, a4, a5, a6, a7, a8⟩ := An
  have s1 := a4.size
  obtain ⟨s2, k2⟩ := g1.keep
  obtain ⟨s3, k3⟩ := g2.keep
  have hy := World.ownsRow.lt I.y
  have ho := World.ownsRow.lt I.o
  have hcur : (Ln.lgo (Ln.lgo [] (l.take d)).2 ((l.drop d).take k)).2 = (Ln.lgo [] (l.take (d + k))).2 := by
    rw [List.take_add, Ln.lgo_append]
  rw [hcur] at a1
  have n2 : ∀ b, own2' b → vy.ownBlock ≠ some b := fun b hb e => by
    rcases a6 b hb with h | h
    · exact (I.yo b e).1 h
    · have := (hy b e).2; omega
  have n3 : ∀ b, own2' b → vo.ownBlock ≠ some b := fun b hb e => by
    rcases a6 b hb with h | h
    · exact I.oo b e h
    · have := (ho b e).2; omega
  have lt1 : ∀ b, own2' b → b < W1.heap.size := fun b hb => (a1.lt hb).2
  refine ⟨by have := I.le; omega, hr, ?_, I.low, by have := I.hs; omega, ?_, ?_, ?_, own_keep y1 (fun g e hg => k3 g hg (fun e2 => ?_)), o1, ?_, ?_⟩
  · refine g2.below (g1.below (I.b.trans a4) (by have := I.b.size; omega) fun g e => ?_) (by have := I.b.size; omega) fun g e => ?_
    · have := (hy g e).1; have := I.low; omega
    · have := (ho g e).1; have := I.low; omega
  · intro b hb hn
    have h1 : W3.heap[b]? = W2.heap[b]? := k3 b (by have := I.hs; omega) (fun e => by have := (ho b e).1; omega)
    have h2 : W2.heap[b]? = W1.heap[b]? := k2 b (by have := I.hs; omega) (fun e => by have := (hy b e).1; omega)
    have h3 : W1.heap[b]? = W.heap[b]? := a5 b (by have := I.hs; omega) (fun e => by
      rcases I.ow b e with h | h
      · exact hn h
      · omega)
    rw [h1, h2, h3, I.hk b hb hn]
  · refine (a1.keep s2 (fun b hb => k2 b (lt1 b hb) (n2 b hb))).keep s3 (fun b hb => k3 b (by have := lt1 b hb; omega) (n3 b hb))
  · intro b hb
    rcases a6 b hb with h | h
    · exact I.ow b h
    · exact .inr (by have := I.hs; omega)
  · rcases g1.own e with h | h
    · exact (I.yo g h).2 e2
    · have := (ho g e2).2; omega
  · intro g e
    have o2 : vy.ownBlock = some g ∨ g = W1.heap.size := g1.own e
    refine ⟨fun hb => ?_, fun e2 => ?_⟩
    · rcases o2 with h | h
      · exact n2 g hb h
      · have := lt1 g hb; omega
    · rcases g2.own e2 with h | h
      · rcases o2 with h3 | h3
        · exact (I.yo g h3).2 h
        · have := (ho g h).2; omega
      · have := (World.ownsRow.lt y1 g e).2; omega
  · intro g e hb
    rcases g2.own e with h | h
    · exact n3 g hb h
    · have := lt1 g hb; omega
/-- what was there ahead of the loop, when the first row has grown -/
theorem pc_mid (I : PcI w w4 W P2 own20 own2 l d N A c vy vo) (An : PutAns PRd W P2 w.heap.size own2 (Ln.lgo [] (l.take d)).2 ((l.drop d).take k) vl vm own2' W1) (g1 : Grew W1 W2 vy vy') :
    w4.heap.size ≤ W2.heap.size ∧ ∀ b, b < w4.heap.size → ¬ own20 b → W2.heap[b]? = w4.heap[b]? := by
  obtain ⟨a1, a2, a3, a4, a5, a6, a7, a8⟩ := An
  have s1 := a4.size
  have s0 := I.hs
  obtain ⟨s2, k2⟩ := g1.keep
  have hy := World.ownsRow.lt I.y
  refine ⟨by omega, fun b hb hn => ?_⟩
  rw [k2 b (by omega) (fun e => by have := (hy b e).1; omega), a5 b (by omega) (fun e => by
      rcases I.ow b e with h | h
      · exact hn h
      · omega), I.hk b hb hn]
/-- one row grown by what was told -/
theorem pc_texts (hN : N = l.length) (hl : l.length ≤ 200000) (I : PcI w w4 W P2 own20 own2 l d N A c vy vo) (An : PutAns PRd W P2 w.heap.size own2 (Ln.lgo [] (l.take d)).2 ((l.drop d).take k) vl vm own2' W1) :
    ∃ vy' W2, (Builtin.append_ #[27, 27] 27 #[vy, vl]).run Try.prog W1 = .ok vy' W2 ∧
      W2.ownsRow w4.heap.size 9 1 vy' ((Ln.lgo [] (l.take (d + k))).1.map (·.1)).length (scells ((Ln.lgo [] (l.take (d + k))).1.map (·.1))) ∧ Grew W1 W2 vy vy' := by
  obtain ⟨a1, a2, a3, a4, a5, a6, a7, a8⟩ := An
  have hy := World.ownsRow.lt I.y
  have hy1 : W1.ownsRow w4.heap.size 9 1 vy ((Ln.lgo [] (l.take d)).1.map (·.1)).length (scells ((Ln.lgo [] (l.take d)).1.map (·.1))) := own_keep I.y (fun g e hg => a5 g hg (I.yo g e).1)
  have hL : (Ln.lgo [] (l.take (d + k))).1 = (Ln.lgo [] (l.take d)).1 ++ (Ln.lgo (Ln.lgo [] (l.take d)).2 ((l.drop d).take k)).1 := by rw [List.take_add, Ln.lgo_append]
  obtain ⟨i0, hi0, hz0, hz1, hz2⟩ := q_info info_str
  have hle : (Ln.lgo [] (l.take (d + k))).1.length ≤ 200000 := by
    rw [Ln.lgo_tens]
    have := List.length_filter_le (fun c => c == 10) (l.take (d + k))
    have h2 : (l.take (d + k)).length ≤ l.length := by rw [List.length_take]; omega
    unfold Ln.tens; omega
  rw [hL, List.length_append] at hle
  obtain ⟨v', W2, r1, r2, r3⟩ := spread_run (P := Try.prog) w4.heap.size 27 27 9 i0 (.string ⟨#[]⟩) 16 Try.underlying27 hi0 hz0 hz1 hz2 rfl hy1 (own_rdc a2) (form_own a2) (by rw [scells_len]) scells_one (by simp only [List.length_map, maxLen]; omega) (by simp only [List.length_map]; omega) (by have := I.hs; have := a4.size; omega)
  refine ⟨v', W2, r1, ?_, r3⟩
  rw [hL, List.map_append, List.length_append]
  unfold scells at r2 ⊢
  rw [List.map_append]
  exact r2
theorem pc_truths (hN : N = l.length) (hl : l.length ≤ 200000) (I : PcI w w4 W P2 own20 own2 l d N A c vy vo) (An : PutAns PRd W P2 w.heap.size own2 (Ln.lgo [] (l.take d)).2 ((l.drop d).take k) vl vm own2' W1) (g1 : Grew W1 W2 vy vy') :
    ∃ vo' W3, (Builtin.append_ #[28, 28] 28 #[vo, vm]).run Try.prog W2 = .ok vo' W3 ∧
      W3.ownsRow w4.heap.size 4 1 vo' ((Ln.lgo [] (l.take (d + k))).1.map (·.2)).length (((Ln.lgo [] (l.take (d + k))).1.map (·.2)).map tcellB) ∧ Grew W2 W3 vo vo' := by
  obtain ⟨a1, a2, a3, a4, a5, a6, a7, a8⟩ := An
  have hy := World.ownsRow.lt I.y
  obtain ⟨s2, k2⟩ := g1.keep
  have hm := World.ownsRow.lt a3
  have ho1 : W1.ownsRow w4.heap.size 4 1 vo ((Ln.lgo [] (l.take d)).1.map (·.2)).length (((Ln.lgo [] (l.take d)).1.map (·.2)).map tcellB) := own_keep I.o (fun g e hg => a5 g hg (I.oo g e))
  have ho2 := own_keep (W' := W2) ho1 (fun g e hg => k2 g hg (fun e2 => (I.yo g e2).2 e))
  have hm2 := own_keep (W' := W2) a3 (fun g e hg => k2 g hg (fun e2 => by have := (hy g e2).2; have := (hm g e).1; omega))
  have hL : (Ln.lgo [] (l.take (d + k))).1 = (Ln.lgo [] (l.take d)).1 ++ (Ln.lgo (Ln.lgo [] (l.take d)).2 ((l.drop d).take k)).1 := by rw [List.take_add, Ln.lgo_append]
  obtain ⟨i0, hi0, hz0, hz1, hz2⟩ := q_info info_boolP
  have hle : (Ln.lgo [] (l.take (d + k))).1.length ≤ 200000 := by
    rw [Ln.lgo_tens]
    have := List.length_filter_le (fun c => c == 10) (l.take (d + k))
    have h2 : (l.take (d + k)).length ≤ l.length := by rw [List.length_take]; omega
    unfold Ln.tens; omega
  rw [hL, List.length_append] at hle
  obtain ⟨v', W3, r1, r2, r3⟩ := spread_run (P := Try.prog) w4.heap.size 28 28 4 i0 (.bool false) 1 Try.underlying28 hi0 hz0 hz1 hz2 rfl ho2 (own_rdc hm2) (form_own hm2) (by simp) truths_one (by simp only [List.length_map, maxLen]; omega) (by simp only [List.length_map]; omega) (by have := I.hs; have := a4.size; omega)
  refine ⟨v', W3, r1, ?_, r3⟩
  rw [hL, List.map_append, List.length_append]
  rw [List.map_append]
  exact r2
end
end Go.Proofs.Ytiofdlkdpmomlaa
