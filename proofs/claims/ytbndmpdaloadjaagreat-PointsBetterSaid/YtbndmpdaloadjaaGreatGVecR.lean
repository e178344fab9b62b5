/- Rows of fractions in memory: what a slice of fractions reads as, and one of the call's own. -/
import Derived.Test.YtbndmpdaloadjaaGreatGRatCmp
import Derived.Test.YtbndmpdaloadjaaGreatGVecM
set_option linter.unusedSimpArgs false
set_option linter.unusedVariables false
namespace Go.Proofs.YtbndmpdaloadjaaGreat
open Go Go.Proofs Go.RowKit Go.Shelf Nu

abbrev Sl : Type := Option Addr × Nat
abbrev Zr : Type := Qr × Sl × Sl
def zcell (z : Zr) : List Value := [.bool z.1.1, .slice z.2.1.1 z.1.2.1.length z.2.1.2, .slice z.2.2.1 z.1.2.2.length z.2.2.2]
def zcells (zs : List Zr) : List Value := zs.flatMap zcell
theorem zcells_snoc (zs : List Zr) (z : Zr) : zcells (zs ++ [z]) = zcells zs ++ zcell z := by simp [zcells]
theorem zcells_len : ∀ zs : List Zr, (zcells zs).length = zs.length * 3
 | [] => rfl
 | z :: zs => by
  have := zcells_len zs
  simp [zcells, zcell] at *
  omega
theorem zcells_at : ∀ (zs : List Zr) (j : Nat) (z : Zr), zs[j]? = some z → ∀ i, i < 3 → (zcells zs)[j * 3 + i]? = (zcell z)[i]?
 | [], j, z, h, i, hi => by simp at h
 | u :: zs, 0, z, h, i, hi => by
  simp at h; subst h
  simp only [zcells, List.flatMap_cons]
  rw [List.getElem?_append_left (by simp [zcell]; omega)]
  simp
 | u :: zs, j + 1, z, h, i, hi => by
  simp only [zcells, List.flatMap_cons]
  rw [List.getElem?_append_right (by simp [zcell]; omega)]
  have e : (j + 1) * 3 + i - (zcell u).length = j * 3 + i := by simp [zcell]; omega
  rw [e]
  exact zcells_at zs j z (by simpa using h) i hi
/-- its parts lie where it says -/
def ZIn (W : World) (z : Zr) : Prop := Reads W (.slice z.2.1.1 z.1.2.1.length z.2.1.2) z.1.2.1 ∧ Reads W (.slice z.2.2.1 z.1.2.2.length z.2.2.2) z.1.2.2
theorem ZIn.below {W W' : World} {z : Zr} (h : ZIn W z) (hb : Below W.heap.size W W') : ZIn W' z := ⟨h.1.below hb, h.2.below hb⟩

/-- a fraction lies in three cells of block b, from o on -/
def QAt (W : World) (b o : Nat) (q : Qr) : Prop :=
 ∃ (p : Option Addr) (c : Nat) (p' : Option Addr) (c' : Nat), W.cell? ⟨b, o, none⟩ = some (.bool q.1) ∧ W.cell? ⟨b, o + 1, none⟩ = some (.slice p q.2.1.length c) ∧ W.cell? ⟨b, o + 2, none⟩ = some (.slice p' q.2.2.length c') ∧
  Reads W (.slice p q.2.1.length c) q.2.1 ∧ Reads W (.slice p' q.2.2.length c') q.2.2
theorem QAt.below {W W' : World} {b o : Nat} {q : Qr} (h : QAt W b o q) (hlt : b < W.heap.size) (hb : Below W.heap.size W W') : QAt W' b o q := by
 obtain ⟨p, c, p', c', h0, h1, h2, h3, h4⟩ := h
 exact ⟨p, c, p', c', (hb.cell (p := ⟨b, o, none⟩) hlt).trans h0, (hb.cell (p := ⟨b, o + 1, none⟩) hlt).trans h1, (hb.cell (p := ⟨b, o + 2, none⟩) hlt).trans h2, h3.below hb, h4.below hb⟩
/-- the slice value v reads as these fractions -/
def VReads (W : World) (v : Value) (qs : List Qr) : Prop :=
 (v = .slice none 0 0 ∧ qs = []) ∨ (∃ b off cap, v = .slice (some ⟨b, off, none⟩) qs.length cap ∧ b < W.heap.size ∧ qs.length ≤ cap ∧ ∀ j q, qs[j]? = some q → QAt W b (off + j * 3) q) ∨ ∃ x, v = .slice (some x) 0 0 ∧ qs = []
theorem VReads.nil (W : World) : VReads W (.slice none 0 0) [] := .inl ⟨rfl, rfl⟩
theorem VReads.below {W W' : World} {v : Value} {qs : List Qr} (h : VReads W v qs) (hb : Below W.heap.size W W') : VReads W' v qs := by
 rcases h with h | ⟨b, off, cap, e, hb', hc, hl⟩ | h
 · exact .inl h
 · exact .inr (.inl ⟨b, off, cap, e, Nat.lt_of_lt_of_le hb' hb.size, hc, fun j q hq => (hl j q hq).below hb' hb⟩)
 · exact .inr (.inr h)
theorem VReads.form {W : World} {v : Value} {qs : List Qr} (h : VReads W v qs) : ∃ a cap, v = .slice a qs.length cap := by
 rcases h with ⟨rfl, rfl⟩ | ⟨b, off, cap, rfl, _⟩ | ⟨x, rfl, rfl⟩
 · exact ⟨none, 0, rfl⟩
 · exact ⟨_, cap, rfl⟩
 · exact ⟨some x, 0, rfl⟩
theorem VReads.addr {W : World} {a : Option Addr} {n cap : Nat} {qs : List Qr} (h : VReads W (.slice a n cap) qs) : n = qs.length ∧ n ≤ cap ∧ ∃ b off, (0 < n → a = some ⟨b, off, none⟩ ∧ b < W.heap.size) ∧ ∀ j q, qs[j]? = some q → QAt W b (off + j * 3) q := by
 rcases h with ⟨e, rfl⟩ | ⟨b, off, cap', e, hb, hc, hl⟩ | ⟨x, e, rfl⟩
 rotate_right
 · cases e; exact ⟨rfl, Nat.le_refl _, 0, 0, by simp, by simp⟩
 · cases e; exact ⟨rfl, Nat.le_refl _, 0, 0, by simp, by simp⟩
 · cases e; exact ⟨rfl, hc, b, off, fun _ => ⟨rfl, hb⟩, hl⟩
theorem qs_at {qs : List Qr} {j : Nat} (h : j < qs.length) : qs[j]? = some (qs.getD j default) := by
 rw [List.getD_eq_getElem?_getD, List.getElem?_eq_getElem h]; rfl
theorem qs_mem {qs : List Qr} {j : Nat} (h : j < qs.length) : qs.getD j default ∈ qs := List.mem_of_getElem? (qs_at h)

/-- The slice value v owns these fractions, in a block from base on. -/
def VFresh (W : World) (base : Nat) (v : Value) (qs : List Qr) : Prop := ∃ zs : List Zr, zs.map (·.1) = qs ∧ W.ownsRow base 32 3 v zs.length (zcells zs) ∧ ∀ z ∈ zs, ZIn W z
theorem VFresh.nil (W : World) (base : Nat) : VFresh W base (.slice none 0 0) [] := ⟨[], rfl, World.ownsRow_nil W base _ 3, by simp⟩
theorem VFresh.reads {W : World} {base : Nat} {v : Value} {qs : List Qr} (h : VFresh W base v qs) : VReads W v qs := by
 obtain ⟨zs, rfl, ho, hz⟩ := h
 have hc := fun (g : Nat) (hg : v.ownBlock = some g) => World.ownsRow.cells ho hg
 rcases ho.2 with ⟨rfl, h0⟩ | ⟨g, cap, cur, rfl, hb, hg, hn, _⟩
 · obtain rfl : zs = [] := List.eq_nil_of_length_eq_zero h0
   exact .inl ⟨rfl, rfl⟩
 · refine .inr (.inl ⟨g, 0, cap, by simp, (Array.getElem?_eq_some_iff.1 hg).1, by simpa using hn, fun j q hq => ?_⟩)
   obtain ⟨z, hz1, rfl⟩ : ∃ z, zs[j]? = some z ∧ z.1 = q := by simpa [List.getElem?_map] using hq
   have hm := hz z (List.mem_of_getElem? hz1)
   have k := fun i (hi : i < 3) u (hu : (zcell z)[i]? = some u) => hc g rfl (j * 3 + i) u ((zcells_at zs j z hz1 i hi).trans hu)
   have k0 := k 0 (by omega) _ rfl
   have k1 := k 1 (by omega) _ rfl
   have k2 := k 2 (by omega) _ rfl
   simp only [Addr.add_lit] at k0 k1 k2
   refine ⟨z.2.1.1, z.2.1.2, z.2.2.1, z.2.2.2, ?_, ?_, ?_, hm.1, hm.2⟩
   · simpa [Nat.add_assoc] using k0
   · simpa [Nat.add_assoc] using k1
   · simpa [Nat.add_assoc] using k2
theorem VFresh.mono {W : World} {base base' : Nat} {v : Value} {qs : List Qr} (h : VFresh W base v qs) (hb : base' ≤ base) : VFresh W base' v qs := by
 obtain ⟨zs, e, ho, hz⟩ := h
 refine ⟨zs, e, ⟨ho.1, ?_⟩, hz⟩
 rcases ho.2 with h | ⟨g, cap, cur, e, hg, r⟩
 · exact .inl h
 · exact .inr ⟨g, cap, cur, e, Nat.le_trans hb hg, r⟩
theorem own_below {W W' : World} {base n k : Nat} {t : TypeId} {v : Value} {l : List Value} (h : W.ownsRow base t k v n l) (hb : Below W.heap.size W W') : W'.ownsRow base t k v n l := by
 refine ⟨h.1, ?_⟩
 rcases h.2 with h | ⟨g, cap, cur, e, hg, hgb, r⟩
 · exact .inl h
 · exact .inr ⟨g, cap, cur, e, hg, (hb.block g (Array.getElem?_eq_some_iff.1 hgb).1).trans hgb, r⟩
theorem VFresh.below {W W' : World} {base : Nat} {v : Value} {qs : List Qr} (h : VFresh W base v qs) (hb : Below W.heap.size W W') : VFresh W' base v qs := by
 obtain ⟨zs, e, ho, hz⟩ := h
 exact ⟨zs, e, own_below ho hb, fun z hz' => (hz z hz').below hb⟩
theorem VFresh.alloc {W : World} {base : Nat} {v : Value} {qs : List Qr} (h : VFresh W base v qs) (o : Obj) : VFresh (W.alloc o) base v qs := h.below ((Below.refl _ _).alloc (Nat.le_refl _) o)
theorem VFresh.form {W : World} {base : Nat} {v : Value} {qs : List Qr} (h : VFresh W base v qs) : ∃ a cap, v = .slice a qs.length cap := h.reads.form
theorem info_rat : (Tryz.prog.info? 32).map (fun i => (i.zero, i.size, i.bytes)) = some (some (.agg #[.bool false, .slice none 0 0, .slice none 0 0]), 3, 56) := by kernel_rfl

/-! ### parts of a row -/
theorem VReads.take {W : World} {a : Option Addr} {n cap : Nat} {qs : List Qr} (h : VReads W (.slice a n cap) qs) (k : Nat) (hk : k ≤ n) : VReads W (.slice a k cap) (qs.take k) := by
 rcases h with ⟨e, rfl⟩ | ⟨b, off, cap', e, hb, hc, hl⟩ | ⟨x, e, rfl⟩
 rotate_right
 · cases e; obtain rfl : k = 0 := by omega
   exact .inr (.inr ⟨x, rfl, rfl⟩)
 · cases e; obtain rfl : k = 0 := by omega
   exact .inl ⟨rfl, rfl⟩
 · cases e
   refine .inr (.inl ⟨b, off, cap, by rw [List.length_take, Nat.min_eq_left hk], hb, by rw [List.length_take]; omega, fun j q hq => ?_⟩)
   rw [List.getElem?_take] at hq
   split at hq
   · exact hl j q hq
   · cases hq
theorem VReads.drop {W : World} {b off n cap : Nat} {qs : List Qr} (h : VReads W (.slice (some ⟨b, off, none⟩) n cap) qs) (k m c o : Nat) (hm : m = n - k) (hc : c = cap - k) (ho : o = off + k * 3) (hk : k ≤ n) (hn : 0 < n) : VReads W (.slice (some ⟨b, o, none⟩) m c) (qs.drop k) := by
 rcases h with ⟨e, rfl⟩ | ⟨b', off', cap', e, hb, hc', hl⟩ | ⟨x, e, rfl⟩
 rotate_right
 · cases e; omega
 · cases e
 · cases e
   subst hm hc ho
   refine .inr (.inl ⟨b, off + k * 3, cap - k, by rw [List.length_drop], hb, by rw [List.length_drop]; omega, fun j q hq => ?_⟩)
   rw [List.getElem?_drop] at hq
   have := hl _ q hq
   rwa [show off + (k + j) * 3 = off + k * 3 + j * 3 by omega] at this
end Go.Proofs.YtbndmpdaloadjaaGreat
