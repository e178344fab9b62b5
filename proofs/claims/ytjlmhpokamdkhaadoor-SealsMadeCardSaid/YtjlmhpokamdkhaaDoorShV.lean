/- Sums: the numbers H and K, out of what the row lists. -/
import Derived.Test.YtjlmhpokamdkhaaDoorShI
import Derived.Test.YtjlmhpokamdkhaaDoorRows
import Derived.LaidLaws
import Derived.ChangeArms
import Derived.OpenShut
import Derived.MakeChecks
namespace Go.Proofs.YtjlmhpokamdkhaaDoor
open Go Go.Proofs Go.RowKit Go.Shelf

/-- an array of numbers that reads as the list holds them, cell for cell -/
theorem cells_of_ints {H : Type} {enc : TypeId × Value → H} {P : Program} {w : World} {base : Nat} {sp : Nat → Bool} {held : Bool} {fuel : Nat} {t e : TypeId} {k : IntKind} {n : Nat} {cs : List Value} {ss : List Int} {p : List MemPlace}
    (ht : P.underlying t = some (.array n e)) (he : P.underlying e = some (.int k)) (hce : P.cellsOf e = 1) (hct : P.cellsOf t = n)
    (h : DataW.trod enc P w base sp held fuel t cs = some (.agg (ss.map fun s => .lit (.int k s)), p)) : cs = ss.map fun s => Value.int k s := by
  obtain ⟨xs, m, _, hx, hl, hxl, hg⟩ := DataW.trod_array ht h
  rw [hct] at hl
  have hxs : xs.map (·.1) = ss.map fun s => (DataW.lit (.int k s) : DataW H) := by
    have := congrArg Prod.fst hx
    simpa using this.symm
  have hsl : ss.length = n := by
    have := congrArg List.length hxs
    simp at this; omega
  apply List.ext_getElem?
  intro i
  by_cases hi : i < n
  · have hf := hg i hi
    rw [hce, Nat.mul_one, List.getElem?_eq_getElem (by omega)] at hf
    obtain ⟨s, hc, hx', _⟩ := DataW.trod_int he hf
    have h1 : cs[i]? = some (.int k s) := by
      have := congrArg (·[0]?) hc
      simpa [List.getElem?_take, List.getElem?_drop] using this
    have h2 : (xs.map (·.1))[i]? = some (DataW.lit (.int k s) : DataW H) := by
      rw [List.getElem?_map, List.getElem?_eq_getElem (by omega), hx']; rfl
    rw [hxs, List.getElem?_map] at h2
    obtain ⟨u, hu, hu2⟩ := Option.map_eq_some_iff.1 h2
    have hu3 : u = s := by simpa using hu2
    rw [h1, List.getElem?_map, hu, hu3]
    simp
  · rw [List.getElem?_eq_none (by omega), List.getElem?_eq_none (by simp; omega)]

theorem hasV_of_laid {W : World} (h : laidMetH Tryd.prog [("assayer/sums.squares", Rows.laid_assayer_sums_squares), ("assayer/sums.cubes", Rows.laid_assayer_sums_cubes)] W) : HasV W := by
  rw [MakeChecks.laidMetH_plain _ _ _ (by kernel_rfl)] at h
  obtain ⟨ps, ⟨g', t', cs, fuel, p, q, hg', ht', hvar, hd, ⟨g2, t2, cs2, fuel2, p2, q2, hg2, ht2, hvar2, hd2, _, _⟩, _⟩, _⟩ := h
  constructor
  · obtain rfl : 1 = g2 := Option.some.inj ((show Tryd.prog.globalNamed "assayer/sums.cubes" = some 1 by kernel_rfl).symm.trans hg2)
    obtain rfl : 57 = t2 := Option.some.inj ((show (Tryd.prog.globals[1]?).map (·.type) = some 57 by kernel_rfl).symm.trans ht2)
    have hcs := cells_of_ints (k := .u32) (ss := Sh.cubes.map iu) Tryd.underlying57 Tryd.underlying40 (by kernel_rfl) (by kernel_rfl) hd2
    have hcs2 : cs2 = (Sh.cubes.map uv).toArray := by
      apply Array.toList_inj.1
      rw [hcs, List.map_map]; rfl
    subst hcs2
    unfold World.var? at hvar2
    rw [hg2] at hvar2
    simp only [Option.bind_some] at hvar2
    split at hvar2
    · rename_i c t fr hh
      cases hvar2
      exact ⟨t, fr, hh⟩
    · cases hvar2
  · obtain rfl : 0 = g' := Option.some.inj ((show Tryd.prog.globalNamed "assayer/sums.squares" = some 0 by kernel_rfl).symm.trans hg')
    obtain rfl : 42 = t' := Option.some.inj ((show (Tryd.prog.globals[0]?).map (·.type) = some 42 by kernel_rfl).symm.trans ht')
    have hcs := cells_of_ints (k := .u32) (ss := (Sh.list Sh.H).map iu) Tryd.underlying42 Tryd.underlying40 (by kernel_rfl) (by kernel_rfl) hd
    have hcs2 : cs = ((Sh.list Sh.H).map uv).toArray := by
      apply Array.toList_inj.1
      rw [hcs, List.map_map]; rfl
    subst hcs2
    unfold World.var? at hvar
    rw [hg'] at hvar
    simp only [Option.bind_some] at hvar
    split at hvar
    · rename_i c t fr hh
      cases hvar
      exact ⟨t, fr, hh⟩
    · cases hvar

/-- what comes in: 32 bytes -/
theorem open_sum {H : Type} {enc : TypeId × Value → H} {W : World} {base : Nat} {v : Value} {d : DataW H} {p : List MemPlace} (ho : Value.okWide Tryd.prog W .any base 24 v) (h : DataW.Trod enc Tryd.prog W 0 (fun _ => true) true 24 v d p) :
    ∃ l : List UInt8, l.length = 32 ∧ v = .agg (l.map bv).toArray := by
  simp only [Value.okWide, Tryd.underlying24] at ho
  obtain ⟨cs, rfl, hsz, _⟩ := ho
  obtain ⟨cl⟩ := cs
  have hlen : cl.length = 32 := hsz.trans (show Tryd.prog.cellsOf 24 = 32 by kernel_rfl)
  obtain ⟨fuel, hf⟩ := h
  obtain ⟨xs, n, _, _, _, hxl, hg⟩ := DataW.trod_array Tryd.underlying24 hf
  have hc : ∀ i, i < 32 → ∃ c : UInt8, cl[i]? = some (bv c) := by
    intro i hi
    have e0 := hg i hi
    rw [show Tryd.prog.cellsOf 5 = 1 by kernel_rfl, Nat.mul_one, List.getElem?_eq_getElem (by omega)] at e0
    obtain ⟨x, hx, _, wx⟩ := DataW.trod_int Tryd.underlying5 e0
    simp [Lit.wf, IntKind.min, IntKind.max, IntKind.signed, IntKind.bits] at wx
    have h1 : cl[i]? = some (.int .u8 x) := by
      have := congrArg (·[0]?) hx
      simpa [Value.cells, List.getElem?_take, List.getElem?_drop] using this
    refine ⟨UInt8.ofNat x.toNat, ?_⟩
    rw [h1]
    unfold bv ib
    rw [UInt8.toNat_ofNat']
    congr 2
    omega
  refine ⟨(List.range 32).map fun i => Classical.epsilon fun c : UInt8 => cl[i]? = some (bv c), by simp, ?_⟩
  congr 2
  apply List.ext_getElem?
  intro i
  by_cases hi : i < 32
  · obtain ⟨c, hcc⟩ := hc i hi
    have hex : ∃ c : UInt8, cl[i]? = some (bv c) := ⟨c, hcc⟩
    rw [List.getElem?_map, List.getElem?_map, List.getElem?_range hi]
    exact Classical.epsilon_spec hex
  · rw [List.getElem?_eq_none (by omega), List.getElem?_eq_none (by simp; omega)]
end Go.Proofs.YtjlmhpokamdkhaaDoor
