/- Tokens: two lists of tokens. -/
import Derived.Test.YtfnblnemdepimaaDoorTkF
import Derived.Test.YtfnblnemdepimaaDoorTkN
namespace Go.Proofs.YtfnblnemdepimaaDoor
open Go Go.Proofs Go.RowKit Go.Shelf

/-- the slice value v reads as these tokens -/
def TReads (W : World) (v : Value) (ts : List Tk.Tok) : Prop := ∃ a cap, v = .slice a ts.length cap ∧ (ts ≠ [] → ∃ b, a = some ⟨b, 0, none⟩ ∧ b < W.heap.size ∧ ∀ j t, ts[j]? = some t → ∀ i, i < 3 → W.cell? ⟨b, j * 3 + i, none⟩ = (tcell t)[i]?)
theorem TReads.below {W W' : World} {v : Value} {ts : List Tk.Tok} (h : TReads W v ts) (hb : Below W.heap.size W W') : TReads W' v ts := by
  obtain ⟨a, cap, e, h⟩ := h
  refine ⟨a, cap, e, fun hn => ?_⟩
  obtain ⟨b, ha, hlt, hc⟩ := h hn
  exact ⟨b, ha, Nat.lt_of_lt_of_le hlt hb.size, fun j t hj i hi => (hb.cell (p := ⟨b, j * 3 + i, none⟩) hlt).trans (hc j t hj i hi)⟩
theorem TFresh.reads {W : World} {base : Nat} {v : Value} {ts : List Tk.Tok} (h : TFresh W base v ts) : TReads W v ts := by
  rcases h.2 with ⟨rfl, e⟩ | ⟨g, cap, cur, rfl, hb, hg, hl, hc⟩
  · have : ts = [] := List.length_eq_zero_iff.1 e
    subst this
    exact ⟨none, 0, rfl, fun h => (h rfl).elim⟩
  · refine ⟨_, cap, rfl, fun _ => ⟨g, rfl, (Array.getElem?_eq_some_iff.1 hg).1, fun j t hj i hi => ?_⟩⟩
    have hjl := (List.getElem?_eq_some_iff.1 hj).1
    have := World.ownsRow.cellAt h (j * 3 + i) (by omega)
    rw [this, tcells_at ts j t hj i hi]
theorem TReads.nil (W : World) : TReads W (.slice none 0 0) [] := ⟨none, 0, rfl, fun h => (h rfl).elim⟩

set_option maxRecDepth 100000 in
set_option maxHeartbeats 4000000 in
theorem same_yes {W : World} {u v : Value} {ts : List Tk.Tok} (hu : TReads W u ts) (hv : TReads W v ts) (hl : ts.length ≤ 1000000) :
    Calls Tryd.prog 11 #[u, v] W fun e w' => e = .returned (.bool true) ∧ ∃ n, w' = W.drewN n := by
  obtain ⟨a, c, rfl, ha⟩ := hu
  obtain ⟨b, d, rfl, hb⟩ := hv
  obtain ⟨N, hN⟩ : ∃ N, N = ts.length := ⟨_, rfl⟩
  have HN := Lib.hid hN
  have HA := Lib.hid ha
  have HB := Lib.hid hb
  rw [← hN] at hl ⊢
  clear hN ha hb
  go_enter Tryd.func11, Tryd.ntmps11
  go_wp2
  go_loopg [5] N (fun g i wx => ∃ k : Nat, k + g = N ∧ i = .int .i64 (k : Int) ∧ ∃ n, wx = W.drewN n)
  case atStart => exact ⟨0, by omega, rfl, 0, rfl⟩
  case round =>
    obtain ⟨k, hkg, rfl, nd, rfl⟩ := hrel
    by_cases hlk : k < N
    · have hne : ts ≠ [] := by rintro rfl; rw [HN.out] at hlk; simp at hlk
      obtain ⟨ba, rfl, hba, hca⟩ := HA.out hne
      obtain ⟨bb, rfl, hbb, hcb⟩ := HB.out hne
      obtain ⟨t, ht⟩ : ∃ t, ts[k]? = some t := ⟨_, List.getElem?_eq_getElem (by rw [← HN.out]; exact hlk)⟩
      have a0 := hca k t ht 0 (by omega)
      have a1 := hca k t ht 1 (by omega)
      have a2 := hca k t ht 2 (by omega)
      have b0 := hcb k t ht 0 (by omega)
      have b1 := hcb k t ht 1 (by omega)
      have b2 := hcb k t ht 2 (by omega)
      simp only [tcell, List.getElem?_cons_zero, List.getElem?_cons_succ, Nat.add_zero] at a0 a1 a2 b0 b1 b2
      clear hca hcb hne ht
      have q0 : (0 : Int) ≤ (k : Int) := by omega
      have q1 : (k : Int) < (N : Int) := by omega
      go_wp2
      go_quiet (fail)
      go_wp2
      go_roundg (N - (k + 1))
      case measure => omega
      case rel => exact ⟨k + 1, by omega, by first | rfl | simp, nd + nq, by first | rfl | exact World.drewN_drewN _ _ _⟩
    · go_wp2
      go_ret
      exact ⟨rfl, nd, rfl⟩

/-! ### what some texts are read as -/
namespace Tk
def rdF : Nat → List UInt8 → Nat → Option (List Tok × Option Nat)
  | _, [], _ => some ([], none)
  | 0, _ :: _, _ => none
  | n + 1, c :: l, k =>
    if blank c then rdF n l (k + 1) else if c = 35 then rdF n (l.drop (run noEnd l)) (k + 1 + run noEnd l) else
    match tokN (c :: l) with
    | none => some ([], some k)
    | some (kd, m) => (rdF n ((c :: l).drop m) (k + m)).map fun r => (⟨kd, (c :: l).take m, k⟩ :: r.1, r.2)
theorem rdF_sound : ∀ (n : Nat) (l : List UInt8) (k : Nat) (ts : List Tok) (x : Option Nat), rdF n l k = some (ts, x) → Rd l k ts x
  | n, [], k, ts, x, h => by
    simp [rdF] at h
    obtain ⟨rfl, rfl⟩ := h
    exact .nil k
  | 0, c :: l, k, ts, x, h => by simp [rdF] at h
  | n + 1, c :: l, k, ts, x, h => by
    simp only [rdF] at h
    by_cases hb : blank c = true
    · rw [if_pos hb] at h
      exact .blank hb (rdF_sound n _ _ _ _ h)
    rw [if_neg hb] at h
    by_cases hc : c = 35
    · rw [if_pos hc] at h
      subst hc
      exact .comment (rdF_sound n _ _ _ _ h)
    rw [if_neg hc] at h
    cases ht : tokN (c :: l) with
    | none =>
      rw [ht] at h
      simp at h
      obtain ⟨rfl, rfl⟩ := h
      exact .bad (by simpa using hb) hc ht
    | some p =>
      obtain ⟨kd, m⟩ := p
      rw [ht] at h
      simp only at h
      cases hr : rdF n ((c :: l).drop m) (k + m) with
      | none => rw [hr] at h; simp at h
      | some r =>
        obtain ⟨rs, rx⟩ := r
        rw [hr] at h
        simp at h
        obtain ⟨rfl, rfl⟩ := h
        exact .tok ht (rdF_sound n _ _ _ _ hr)
end Tk
/-- tokens that were laid out at once -/
theorem TReads.laid {W : World} {B : Nat} {T : TypeId} {cs : Array Value} {ts : List Tk.Tok} {cap n : Nat} (h : BoxN W B T cs) (hc : cs.toList = tcells ts) (hn : n = ts.length) : TReads W (.slice (some ⟨B, 0, none⟩) n cap) ts := by
  subst hn
  refine ⟨_, cap, rfl, fun _ => ⟨B, rfl, h.lt, fun j t hj i hi => ?_⟩⟩
  unfold World.cell?
  rw [show W.heap[B]? = _ from h]
  show cs[j * 3 + i]? = _
  rw [← tcells_at ts j t hj i hi, ← hc]
  simp
end Go.Proofs.YtfnblnemdepimaaDoor
