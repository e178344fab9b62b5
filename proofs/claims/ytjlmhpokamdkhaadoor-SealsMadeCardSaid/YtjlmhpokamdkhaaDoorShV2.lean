/- Sums: the numbers H and K, out of what a longer row lists. -/
import Derived.Test.YtjlmhpokamdkhaaDoorShV
namespace Go.Proofs.YtjlmhpokamdkhaaDoor
open Go Go.Proofs Go.RowKit Go.Shelf

theorem hasV_of_laid2 {W : World} {r : List (String × DataW Unit)} (h : laidMet Tryd.prog (("assayer/sums.squares", Rows.laid_assayer_sums_squares) :: ("assayer/sums.cubes", Rows.laid_assayer_sums_cubes) :: r) W) : HasV W := by
  obtain ⟨ps, ⟨g', t', cs, fuel, p, q, hg', ht', hvar, hd, ⟨g2, t2, cs2, fuel2, p2, q2, hg2, ht2, hvar2, hd2, _, _⟩, _⟩, _⟩ := h
  constructor
  · obtain rfl : 1 = g2 := Option.some.inj ((show Tryd.prog.globalNamed "assayer/sums.cubes" = some 1 by kernel_rfl).symm.trans hg2)
    obtain rfl : 57 = t2 := Option.some.inj ((show (Tryd.prog.globals[1]?).map (·.type) = some 57 by kernel_rfl).symm.trans ht2)
    have hcs := cells_of_ints (k := .u32) (ss := Sh.cubes.map iu) Tryd.underlying57 Tryd.underlying40 (by kernel_rfl) (by kernel_rfl) hd2
    have hcs2 : cs2 = (Sh.cubes.map uv).toArray := by
      apply Array.toList_inj.1
      rw [hcs, List.map_map]; rfl
    subst hcs2
    unfold World.var? at hvar2
    rw [hg2] at hvar2
    simp only [Option.bind_some] at hvar2
    split at hvar2
    · rename_i c t fr hh
      cases hvar2
      exact ⟨t, fr, hh⟩
    · cases hvar2
  · obtain rfl : 0 = g' := Option.some.inj ((show Tryd.prog.globalNamed "assayer/sums.squares" = some 0 by kernel_rfl).symm.trans hg')
    obtain rfl : 42 = t' := Option.some.inj ((show (Tryd.prog.globals[0]?).map (·.type) = some 42 by kernel_rfl).symm.trans ht')
    have hcs := cells_of_ints (k := .u32) (ss := (Sh.list Sh.H).map iu) Tryd.underlying42 Tryd.underlying40 (by kernel_rfl) (by kernel_rfl) hd
    have hcs2 : cs = ((Sh.list Sh.H).map uv).toArray := by
      apply Array.toList_inj.1
      rw [hcs, List.map_map]; rfl
    subst hcs2
    unfold World.var? at hvar
    rw [hg'] at hvar
    simp only [Option.bind_some] at hvar
    split at hvar
    · rename_i c t fr hh
      cases hvar
      exact ⟨t, fr, hh⟩
    · cases hvar

end Go.Proofs.YtjlmhpokamdkhaaDoor
