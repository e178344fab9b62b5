/- LinesPuts: readers that are not there. -/
import Derived.Test.YthpbcfoaabacgaaGreatDoorLnPt
namespace Go.Proofs.YthpbcfoaabacgaaGreatDoor
open Go Go.Proofs Go.RowKit Go.Shelf
set_option linter.unusedVariables false

attribute [local go_sem] Oper.semAt_some
set_option maxRecDepth 100000
set_option maxHeartbeats 4000000 in
theorem pput_nil (v : Value) (W : World) : Calls Tryz.prog 8 #[.pointer none, v] W fun e w' => e = .returned (.tuple #[.slice none 0 0, .slice none 0 0, .int .i64 2]) ∧ W = w' := by
  go_enter Tryz.func8, Tryz.ntmps8
  go_wp2
  go_step3
  go_wp2
  try unfold Exit.noGoto
  go_ret3
  exact ⟨rfl, rfl⟩
set_option maxHeartbeats 4000000 in
theorem pput_zero {Z : Nat} {W : World} (h : W.cell? ⟨Z, 0, none⟩ = some (.bool false)) (v : Value) : Calls Tryz.prog 8 #[.pointer (some ⟨Z, 0, none⟩), v] W fun e w' => e = .returned (.tuple #[.slice none 0 0, .slice none 0 0, .int .i64 2]) ∧ W = w' := by
  go_enter Tryz.func8, Tryz.ntmps8
  go_wp2
  go_step3
  go_wp2
  try unfold Exit.noGoto
  go_ret3
  exact ⟨rfl, rfl⟩
set_option maxHeartbeats 4000000 in
theorem pleft_nil (W : World) : Calls Tryz.prog 12 #[.pointer none] W fun e w' => e = .returned (.int .i64 0) ∧ W = w' := by
  go_enter Tryz.func12, Tryz.ntmps12
  go_wp2
  go_ret
  exact ⟨rfl, rfl⟩
set_option maxHeartbeats 4000000 in
theorem pleft_zero {Z : Nat} {W : World} (h : W.cell? ⟨Z, 1, none⟩ = some (.slice none 0 0)) : Calls Tryz.prog 12 #[.pointer (some ⟨Z, 0, none⟩)] W fun e w' => e = .returned (.int .i64 0) ∧ W = w' := by
  go_enter Tryz.func12, Tryz.ntmps12
  go_wp2
  go_ret
  exact ⟨rfl, rfl⟩
/-- one of the pieces, in memory -/
theorem rowb_at {w W : World} {ls : List (List UInt8)} {b off : Nat} (h : ∀ (j : Nat) (l : List UInt8), ls[j]? = some l → ∃ u, w.cell? ⟨b, off + j, none⟩ = some u ∧ RdC w u l.length (bcells l) ∧ l.length ≤ 140737488355328) (hlt : b < w.heap.size) (hb : Below w.heap.size w W) {j : Nat} {l : List UInt8} (hj : ls[j]? = some l) :
    ∃ a c, W.cell? ⟨b, off + j, none⟩ = some (.slice a l.length c) ∧ RdC w (.slice a l.length c) l.length (bcells l) ∧ RdC W (.slice a l.length c) l.length (bcells l) := by
  obtain ⟨u, h1, h2, h3⟩ := h j l hj
  have h4 := h2
  obtain ⟨a, c, rfl, _⟩ := h4
  exact ⟨a, c, (hb.cell (p := ⟨b, off + j, none⟩) hlt).trans h1, h2, h2.below hb⟩
/-- how much the book was told -/
structure Cnt (N i n : Nat) (u v : Value) (eb et : List (Value × Nat)) : Prop where
  nb : ∀ e ∈ eb, e.2 ≤ n
  nt : ∀ e ∈ et, e.2 ≤ n
  few : n ≤ 2 * i
  much : 20 < N → n = 0 ∧ eb = []
  lb : eb.length ≤ i
  lt : et.length ≤ i
  both : (eb ≠ [] ∧ et ≠ []) ∨ (eb = [] ∧ et = [] ∧ n = 0 ∧ u = .slice none 0 0 ∧ v = .slice none 0 0)
theorem Cnt.skip {N i n : Nat} {u v : Value} {eb et : List (Value × Nat)} (h : Cnt N i n u v eb et) : Cnt N (i + 1) n u v eb et :=
  ⟨h.nb, h.nt, by have := h.few; omega, h.much, by have := h.lb; omega, by have := h.lt; omega, h.both⟩
theorem Cnt.more {N i n : Nat} {u v u' v' a b : Value} {eb et : List (Value × Nat)} (h : Cnt N i n u v eb et) (hN : N ≤ 20) : Cnt N (i + 1) (n + 1 + 1) u' v' (eb ++ [(b, n + 1 + 1)]) (et ++ [(a, n + 1)]) := by
  refine ⟨fun e he => ?_, fun e he => ?_, by have := h.few; omega, fun h => by omega, by rw [List.length_append]; have := h.lb; simp; omega, by rw [List.length_append]; have := h.lt; simp; omega, .inl ⟨by simp, by simp⟩⟩
  · rcases List.mem_append.1 he with he | he
    · have := h.nb e he; omega
    · obtain rfl : e = _ := by simpa using he
      simp
  · rcases List.mem_append.1 he with he | he
    · have := h.nt e he; omega
    · obtain rfl : e = _ := by simpa using he
      simp
/-- the book's last call -/
theorem PL.apart {w W : World} {P Q B n N i : Nat} {own : Nat → Prop} {rb u v : Value} {cr cm : List UInt8} {eb et : List (Value × Nat)} {Lb Lt : List Value} (h : PL w W P Q B n own rb u v cr cm eb et Lb Lt) (hc : Cnt N i n u v eb et) (hi : i ≤ N) (hN : N ≤ 300000) :
    Calls Tryz.prog 17 #[.pointer (some ⟨B, 0, none⟩)] W fun e w' => e = .returned (.bool true) ∧ Below w.heap.size w w' ∧ ∀ Z, Z < W.heap.size → ¬ OwnK B u v Z → (∀ x ∈ Lb, x.ownBlock ≠ some Z) → (∀ x ∈ Lt, x.ownBlock ≠ some Z) → w'.heap[Z]? = W.heap[Z]? := by
  rcases hc.both with ⟨h1, h2⟩ | ⟨rfl, rfl, rfl, rfl, rfl⟩
  · have hN20 : N ≤ 20 := by
      rcases Nat.lt_or_ge 20 N with h' | h'
      · exact absurd (hc.much h').2 h1
      · exact h'
    have hn40 : n ≤ 40 := by have := hc.few; omega
    have hin : ∀ {es : List (Value × Nat)} {L : List Value}, (es.map (·.1)).Sublist L → ∀ e ∈ es, e.1 ∈ L := fun hs e he => hs.mem (List.mem_map_of_mem he)
    refine (bt_apart_kp h.k h1 h2 (by have := hc.lb; omega) (by have := hc.lt; omega) h.bb h.bel (fun e he => by have := hc.nb e he; omega) (fun e he => by have := hc.nt e he; omega) (fun e he => ?_) (fun e he => ?_) ?_ ?_ (fun x hx y hy g e1 e2 => h.dx _ (hin h.sb x hx) _ (hin h.st y hy) g e1 e2)).mono ?_
    · obtain ⟨m, xs, hm, ho⟩ := h.lb _ (hin h.sb e he)
      exact ⟨m, xs, hm, ho, fun g eg => ⟨fun e => (h.fb _ (hin h.sb _ he) g eg).2.2 (.inl e), fun e => (h.fb _ (hin h.sb _ he) g eg).2.2 (.inr (.inl e)), fun e => (h.fb _ (hin h.sb _ he) g eg).2.2 (.inr (.inr e))⟩⟩
    · obtain ⟨m, xs, hm, ho⟩ := h.lt _ (hin h.st e he)
      exact ⟨m, xs, hm, ho, fun g eg => ⟨fun e => (h.ft _ (hin h.st _ he) g eg).2.2 (.inl e), fun e => (h.ft _ (hin h.st _ he) g eg).2.2 (.inr (.inl e)), fun e => (h.ft _ (hin h.st _ he) g eg).2.2 (.inr (.inr e))⟩⟩
    · have := h.db.sublist h.sb
      rwa [List.pairwise_map] at this
    · have := h.dt.sublist h.st
      rwa [List.pairwise_map] at this
    · rintro e w' ⟨rfl, q1, q2⟩
      refine ⟨rfl, q1, fun Z hz k1 k2 k3 => q2.2 Z hz ?_⟩
      rintro (e | e | ⟨x, hx, e⟩ | ⟨x, hx, e⟩)
      · exact k1 (.inr (.inl e))
      · exact k1 (.inr (.inr e))
      · exact k2 _ (hin h.sb x hx) e
      · exact k3 _ (hin h.st x hx) e
  · refine (bt_apart0 h.k.book).mono ?_
    rintro e w' ⟨rfl, rfl⟩
    exact ⟨rfl, h.bel, fun _ _ _ _ _ => rfl⟩
/-- a box that is made after all of it stays -/
theorem PL.ltM {w W : World} {P Q B n : Nat} {own : Nat → Prop} {rb u v : Value} {cr cm : List UInt8} {eb et : List (Value × Nat)} {Lb Lt : List Value} (h : PL w W P Q B n own rb u v cr cm eb et Lb Lt) {g : Nat} (hg : OwnM Q rb g) : w.heap.size ≤ g := by
  rcases hg with rfl | e
  · exact h.bq
  · exact (World.ownsRow.lt h.m.row g e).1
theorem PL.argk {w W W' : World} {P Q B n : Nat} {own : Nat → Prop} {rb u v : Value} {cr cm : List UInt8} {eb et : List (Value × Nat)} {Lb Lt : List Value} (h : PL w W P Q B n own rb u v cr cm eb et Lb Lt) {x : Value} {N : Nat} {xs : List Value} (hx : RdC w x N xs) (hk : Kp W W' (OwnM Q rb)) : RdC W' x N xs :=
  rdc_keep hx (Nat.le_trans h.bel.size hk.1) (fun b _ _ _ _ _ hlt => (hk.2 b (Nat.lt_of_lt_of_le hlt h.bel.size) (fun hm => by have := h.ltM hm; omega)).trans (h.bel.block b hlt))
theorem PL.apartZ {w W : World} {P Q B n N i : Nat} {own : Nat → Prop} {rb u v : Value} {cr cm : List UInt8} {eb et : List (Value × Nat)} {Lb Lt : List Value} (h : PL w W P Q B n own rb u v cr cm eb et Lb Lt) (hc : Cnt N i n u v eb et) (hi : i ≤ N) (hN : N ≤ 300000) (o : Obj) :
    Calls Tryz.prog 17 #[.pointer (some ⟨B, 0, none⟩)] (W.alloc o) fun e w' => e = .returned (.bool true) ∧ Below w.heap.size w w' ∧ w'.heap[W.heap.size]? = (W.alloc o).heap[W.heap.size]? := by
  have h' := h.below ((Below.refl W.heap.size W).alloc (Nat.le_refl _) o)
  refine (h'.apart hc hi hN).mono ?_
  rintro e w' ⟨rfl, q1, q2⟩
  refine ⟨rfl, q1, q2 _ (by simp) (fun hk => ?_) (fun x hx e => ?_) (fun x hx e => ?_)⟩
  · have := (h.k.ltK hk).2; omega
  · have := ((h.lb x hx).lt e).2; omega
  · have := ((h.lt x hx).lt e).2; omega
end Go.Proofs.YthpbcfoaabacgaaGreatDoor
