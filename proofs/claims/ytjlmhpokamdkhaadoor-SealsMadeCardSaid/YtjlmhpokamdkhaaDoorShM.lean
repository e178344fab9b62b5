/- Sums: a region that reads eight numbers and a long row, calls, and writes a row. -/
import Derived.Test.YtjlmhpokamdkhaaDoorShC
import Derived.Deep.RegionHeld3
namespace Go.Proofs.YtjlmhpokamdkhaaDoor
open Go Go.Proofs Go.RowKit Go.Shelf

theorem results_cell_mid {P : Program} {fn : Func} {p : Tmp} {ty : TypeId} (h : fn.results = #[.cell p ty]) (tmps : Array Value) (w : World) (g : Nat) (cs : List Value) (d : TypeDesc)
    (hp : tmps.getD p undef = .pointer (some ⟨g, 0, none⟩)) (hc : w.rangeAt g 0 cs) (hu : P.underlying ty = some d) (hd : d.isRow = true) (hi : (P.info? ty).map (·.size) = some cs.length) :
    (results fn tmps).run P w = .ok (.agg cs.toArray) w := by
  have hp' : tmps[p]?.getD undef = .pointer (some ⟨g, 0, none⟩) := by simpa using hp
  simp [results, h, hp', asAddr, run_loadVar_mid w g 0 ty cs d hc hu hd hi]
theorem below_setCells {B g : Nat} {w0 : World} (hBg : B ≤ g) : ∀ (vs : List Value) (o : Nat) (w : World), Below B w0 w → Below B w0 (w.setCells g o vs)
  | [], _, _, h => h
  | v :: r, o, _, h => below_setCells hBg r (o + 1) _ (h.setCell (p := ⟨g, o, none⟩) hBg v)
theorem Row.range {W : World} {g : Nat} {t : TypeId} {l : List Value} (h : Row W g t l) : W.rangeAt g 0 l := fun j v hv => h.cell' j v hv
theorem Row.there {W : World} {g n : Nat} {t : TypeId} {l : List Value} (h : Row W g t l) (hn : l.length = n) : W.there g 0 n := fun j hj => by
  have := h.cell' j l[j] (List.getElem?_eq_getElem (by omega))
  exact ⟨by rw [this]; rfl, by rw [Nat.zero_add]; exact h.frozen j⟩

/-- what such a region reads and writes -/
def F12 (W : World) (B1 B9 B2 : Nat) (s : St) (cs : List Value) : Prop :=
  W.cell? ⟨B1, 0, none⟩ = some (.int .u32 (iu s.a)) ∧ W.cell? ⟨B1, 1, none⟩ = some (.int .u32 (iu s.b)) ∧ W.cell? ⟨B1, 2, none⟩ = some (.int .u32 (iu s.c)) ∧ W.cell? ⟨B1, 3, none⟩ = some (.int .u32 (iu s.d)) ∧ W.cell? ⟨B1, 4, none⟩ = some (.int .u32 (iu s.e)) ∧ W.cell? ⟨B1, 5, none⟩ = some (.int .u32 (iu s.f)) ∧ W.cell? ⟨B1, 6, none⟩ = some (.int .u32 (iu s.g)) ∧ W.cell? ⟨B1, 7, none⟩ = some (.int .u32 (iu s.h)) ∧ W.rangeAt B9 0 cs ∧ W.there B2 0 32
theorem F12.un {W : World} {B1 B9 B2 : Nat} {s : St} {cs : List Value} (h : F12 W B1 B9 B2 s cs) :
  W.cell? ⟨B1, 0, none⟩ = some (.int .u32 (iu s.a)) ∧ W.cell? ⟨B1, 1, none⟩ = some (.int .u32 (iu s.b)) ∧ W.cell? ⟨B1, 2, none⟩ = some (.int .u32 (iu s.c)) ∧ W.cell? ⟨B1, 3, none⟩ = some (.int .u32 (iu s.d)) ∧ W.cell? ⟨B1, 4, none⟩ = some (.int .u32 (iu s.e)) ∧ W.cell? ⟨B1, 5, none⟩ = some (.int .u32 (iu s.f)) ∧ W.cell? ⟨B1, 6, none⟩ = some (.int .u32 (iu s.g)) ∧ W.cell? ⟨B1, 7, none⟩ = some (.int .u32 (iu s.h)) ∧ W.rangeAt B9 0 cs ∧ W.there B2 0 32 := h
theorem F12.rows {W : World} {B1 B9 B2 : Nat} {s : St} {cs z : List Value} {t t' t'' : TypeId} (h1 : Row W B1 t ((Sh.list s).map uv)) (h9 : Row W B9 t' cs) (h2 : Row W B2 t'' z) (hz : z.length = 32) : F12 W B1 B9 B2 s cs :=
  ⟨h1.cell 0 _ rfl, h1.cell 1 _ rfl, h1.cell 2 _ rfl, h1.cell 3 _ rfl, h1.cell 4 _ rfl, h1.cell 5 _ rfl, h1.cell 6 _ rfl, h1.cell 7 _ rfl, h9.range, h2.there hz⟩
theorem F12.below {W W' : World} {B1 B9 B2 B : Nat} {s : St} {cs : List Value} (h : F12 W B1 B9 B2 s cs) (h1 : B1 < B) (h9 : B9 < B) (h2 : B2 < B) (hb : Below B W W') : F12 W' B1 B9 B2 s cs := by
  have c : ∀ g o, g < B → W'.cell? ⟨g, o, none⟩ = W.cell? ⟨g, o, none⟩ := fun g o hg => hb.cell (p := ⟨g, o, none⟩) hg
  have f : ∀ g o, g < B → W'.frozen? ⟨g, o, none⟩ = W.frozen? ⟨g, o, none⟩ := fun g o hg => hb.frozen (p := ⟨g, o, none⟩) hg
  obtain ⟨a0, a1, a2, a3, a4, a5, a6, a7, r, t⟩ := h
  refine ⟨(c _ _ h1).trans a0, (c _ _ h1).trans a1, (c _ _ h1).trans a2, (c _ _ h1).trans a3, (c _ _ h1).trans a4, (c _ _ h1).trans a5, (c _ _ h1).trans a6, (c _ _ h1).trans a7, fun j v hv => (c _ _ h9).trans (r j v hv), fun j hj => ?_⟩
  rw [c _ _ h2, f _ _ h2]
  exact t j hj
theorem F12.set {W : World} {B1 B9 B2 : Nat} {s : St} {cs : List Value} (h : F12 W B1 B9 B2 s cs) (h12 : B1 ≠ B2) (h92 : B9 ≠ B2) (vs : List Value) : F12 (W.setCells B2 0 vs) B1 B9 B2 s cs := by
  have c : ∀ o, (W.setCells B2 0 vs).cell? ⟨B1, o, none⟩ = W.cell? ⟨B1, o, none⟩ := fun o => World.cell?_setCells_out B2 vs 0 W _ (fun e => absurd e h12)
  obtain ⟨a0, a1, a2, a3, a4, a5, a6, a7, r, t⟩ := h
  exact ⟨(c _).trans a0, (c _).trans a1, (c _).trans a2, (c _).trans a3, (c _).trans a4, (c _).trans a5, (c _).trans a6, (c _).trans a7, World.rangeAt_setCells_apart r B2 0 vs (.inl h92), World.there_setCells t B2 0 vs⟩
theorem below_of_drew {B : Nat} {u w : World} (h : Below B u.drew w) : Below B u w := ⟨h.os, h.tape, h.output, h.size, h.block⟩
end Go.Proofs.YtjlmhpokamdkhaaDoor
