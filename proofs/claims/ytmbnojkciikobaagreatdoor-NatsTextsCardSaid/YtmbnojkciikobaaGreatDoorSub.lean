/- The difference of two numbers; the greatest that divides two small ones. -/
import Derived.Test.YtmbnojkciikobaaGreatDoorCmp
import Derived.Test.YtmbnojkciikobaaGreatDoorBlend
namespace Go.Proofs.YtmbnojkciikobaaGreatDoor
open Go Go.Proofs Go.RowKit Go.Shelf Nu

/-- what Sub answers where it refuses -/
def subNo : Value := .tuple #[.slice none 0 0, .int .i64 1]
set_option maxHeartbeats 1000000 in
theorem sub_bad {w : World} {va vb : Value} {la lb : List Nat} (ha : Reads w va la) (hb : Reads w vb lb) (hla : la.length ≤ 100000) (hlb : lb.length ≤ 100000) (hsa : Sm la) (hsb : Sm lb) (h : chk la = false ∨ chk lb = false ∨ val la < val lb) :
    Calls Tryz.prog 11 #[va, vb] w fun e w' => e = .returned subNo ∧ Below w.heap.size w w' := by
  have k1 := check_any ha (by omega)
  have k2 := check_any hb (by omega)
  have kc := cmp_any ha hb hla hlb hsa hsb
  obtain ⟨a1, c1, rfl⟩ := ha.form
  obtain ⟨b1, d1, rfl⟩ := hb.form
  clear ha hb
  cases hc : chk la with
  | false =>
    rw [hc] at k1
    clear kc
    go_enter Tryz.func11, Tryz.ntmps11
    go_wp2_with (go_at_call 32; refine k1.mono ?_; rintro e w' ⟨rfl, rfl⟩)
    go_ret2
    exact ⟨rfl, Below.refl _ _⟩
  | true =>
    rw [hc] at k1
    cases hd : chk lb with
    | false =>
      rw [hd] at k2
      clear kc
      go_enter Tryz.func11, Tryz.ntmps11
      go_wp2_with (first
        | (go_at_call 32; with_reducible refine k1.mono ?_; clear k1; rintro e w' ⟨rfl, rfl⟩)
        | (go_at_call 32; with_reducible refine k2.mono ?_; clear k2; rintro e w' ⟨rfl, rfl⟩))
      go_ret2
      exact ⟨rfl, Below.refl _ _⟩
    | true =>
      have hlt : val la < val lb := by
        rcases h with h | h | h
        · rw [hc] at h; cases h
        · rw [hd] at h; cases h
        · exact h
      rw [hd] at k2
      rw [nv_chk hc, nv_chk hd, show sgn (val la) (val lb) = -1 by simp [sgn, hlt]] at kc
      clear h hlt
      go_enter Tryz.func11, Tryz.ntmps11
      go_wp2_with (first
        | (go_at_call 32; with_reducible refine k1.mono ?_; clear k1; rintro e w' ⟨rfl, rfl⟩)
        | (go_at_call 32; with_reducible refine k2.mono ?_; clear k2; rintro e w' ⟨rfl, rfl⟩)
        | (go_at_call 14; refine kc.mono ?_; rintro e w1 ⟨rfl, hb1⟩))
      go_ret2
      exact ⟨rfl, hb1⟩
set_option maxHeartbeats 2000000 in
theorem sub_any {w : World} {va vb : Value} {la lb : List Nat} (ha : Reads w va la) (hb : Reads w vb lb) (hla : la.length ≤ 100000) (hlb : lb.length ≤ 100000) (hsa : Sm la) (hsb : Sm lb) (hc : chk la = true) (hd : chk lb = true) (h : val lb ≤ val la) :
    Calls Tryz.prog 11 #[va, vb] w fun e w' => ∃ v, e = .returned (.tuple #[v, .int .i64 0]) ∧ Fresh w' w.heap.size v (digs (val la - val lb)) ∧ Below w.heap.size w w' := by
  have k1 := check_any ha (by omega)
  have k2 := check_any hb (by omega)
  have kc := cmp_any ha hb hla hlb hsa hsb
  rw [hc] at k1
  rw [hd] at k2
  obtain ⟨z, hz⟩ : ∃ z, z = sgn (val la) (val lb) := ⟨_, rfl⟩
  have hz2 : ¬ z < 0 := by rw [hz]; simp [sgn]; split <;> (try split) <;> omega
  rw [nv_chk hc, nv_chk hd, ← hz] at kc
  have kb : ∀ W, Below w.heap.size w W → _ := fun W hW => blend_any (ha.below hW) (hb.below hW) hla hlb hsa hsb 1 1 (by omega) (by omega) (by omega) (by
    have := val_lt hsa
    have h2 : 4294967296 ^ la.length ≤ 4294967296 ^ max la.length lb.length := Nat.pow_le_pow_right (by decide) (by omega)
    omega)
  rw [show (1 * val la - 1 * val lb) = val la - val lb by omega] at kb
  obtain ⟨a1, c1, rfl⟩ := ha.form
  obtain ⟨b1, d1, rfl⟩ := hb.form
  clear ha hb hz h
  go_enter Tryz.func11, Tryz.ntmps11
  go_wp2_with (first
    | (go_at_call 32; with_reducible refine k1.mono ?_; clear k1; rintro e w' ⟨rfl, rfl⟩)
    | (go_at_call 32; with_reducible refine k2.mono ?_; clear k2; rintro e w' ⟨rfl, rfl⟩)
    | (go_at_call 14; refine kc.mono ?_; rintro e w1 ⟨rfl, hb1⟩)
    | (go_at_call 67; refine (kb _ hb1).mono ?_; rintro e w2 ⟨v, rfl, hF, hb2⟩))
  go_ret2
  exact ⟨v, rfl, hF.mono hb1.size, hb1.trans (hb2.mono hb1.size)⟩

end Go.Proofs.YtmbnojkciikobaaGreatDoor
