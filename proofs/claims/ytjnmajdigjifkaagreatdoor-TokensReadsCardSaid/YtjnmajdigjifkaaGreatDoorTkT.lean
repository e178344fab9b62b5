/- Tokens: the table of signs, out of what the row lists. -/
import Derived.Test.YtjnmajdigjifkaaGreatDoorTkB
import Derived.Test.YtjnmajdigjifkaaGreatDoorRows
import Derived.LaidLaws
import Derived.ChangeArms
import Derived.OpenShut
import Derived.MakeChecks
namespace Go.Proofs.YtjnmajdigjifkaaGreatDoor
open Go Go.Proofs Go.RowKit Go.Shelf

/-- an array of texts that reads as the list holds them, cell for cell -/
theorem cells_of_strs {H : Type} {enc : TypeId × Value → H} {P : Program} {w : World} {base : Nat} {sp : Nat → Bool} {held : Bool} {fuel : Nat} {t e : TypeId} {n : Nat} {cs : List Value} {ss : List (List UInt8)} {p : List MemPlace}
    (ht : P.underlying t = some (.array n e)) (he : P.underlying e = some .string) (hce : P.cellsOf e = 1) (hct : P.cellsOf t = n)
    (h : DataW.trod enc P w base sp held fuel t cs = some (.agg (ss.map fun s => .lit (.string s)), p)) : cs = ss.map fun s => Value.string ⟨s.toArray⟩ := by
  obtain ⟨xs, m, _, hx, hl, hxl, hg⟩ := DataW.trod_array ht h
  rw [hct] at hl
  have hxs : xs.map (·.1) = ss.map fun s => (DataW.lit (.string s) : DataW H) := by
    have := congrArg Prod.fst hx
    simpa using this.symm
  have hsl : ss.length = n := by
    have := congrArg List.length hxs
    simp at this; omega
  apply List.ext_getElem?
  intro i
  by_cases hi : i < n
  · have hf := hg i hi
    rw [hce, Nat.mul_one, List.getElem?_eq_getElem (by omega)] at hf
    obtain ⟨s, hc, hx', _⟩ := DataW.trod_string he hf
    have h1 : cs[i]? = some (.string s) := by
      have := congrArg (·[0]?) hc
      simpa [List.getElem?_take, List.getElem?_drop] using this
    have h2 : (xs.map (·.1))[i]? = some (DataW.lit (.string s.data.toList) : DataW H) := by
      rw [List.getElem?_map, List.getElem?_eq_getElem (by omega), hx']; rfl
    rw [hxs, List.getElem?_map] at h2
    obtain ⟨u, hu, hu2⟩ := Option.map_eq_some_iff.1 h2
    have hu3 : u = s.data.toList := by simpa using hu2
    rw [h1, List.getElem?_map, hu, hu3]
    simp
  · rw [List.getElem?_eq_none (by omega), List.getElem?_eq_none (by simp; omega)]

theorem hasTab_of_laid {W : World} (h : laidMetH Tryz.prog [("assayer/tokens.allSigns", Rows.laid_assayer_tokens_allSigns)] W) : HasTab W := by
  rw [MakeChecks.laidMetH_plain _ _ _ (by kernel_rfl)] at h
  obtain ⟨ps, ⟨g', t', cs, fuel, p, q, hg', ht', hvar, hd, _, _⟩, _⟩ := h
  obtain rfl : 0 = g' := Option.some.inj ((show Tryz.prog.globalNamed "assayer/tokens.allSigns" = some 0 by kernel_rfl).symm.trans hg')
  obtain rfl : 138 = t' := Option.some.inj ((show (Tryz.prog.globals[0]?).map (·.type) = some 138 by kernel_rfl).symm.trans ht')
  have hcs := cells_of_strs (ss := [[60, 61], [62, 61], [43], [45], [42], [47], [44], [58], [59], [61], [40], [41], [91], [93]]) Tryz.underlying138 Tryz.underlying9 (by kernel_rfl) (by kernel_rfl) hd
  have hcs2 : cs = tab := by
    apply Array.toList_inj.1
    rw [hcs]; rfl
  subst hcs2
  unfold World.var? at hvar
  rw [hg'] at hvar
  simp only [Option.bind_some] at hvar
  split at hvar
  · rename_i c t fr hh
    cases hvar
    exact ⟨t, fr, hh⟩
  · cases hvar
end Go.Proofs.YtjnmajdigjifkaaGreatDoor
