/- Ledgers: who is found, among tenants that may be. -/
import Derived.Test.YtegfjndlkjfepaaLgD
import Derived.Test.YtegfjndlkjfepaaLgE
namespace Go.Proofs.Ytegfjndlkjfepaa
open Go Go.Proofs Go.RowKit Go.Shelf
set_option linter.unusedVariables false

theorem hasN_snoc {ts : List Ten} {k : Nat} {y : Ten} {nm : ByteArray} (h : ts[k]? = some y) : hasN (ts.take (k + 1)) nm = (hasN (ts.take k) nm || decide (y.n = nm)) := by
  unfold hasN
  rw [List.take_add_one, h, List.any_append]
  simp
theorem find_self {ts : List Ten} (hm : MayT ts) {k : Nat} {y : Ten} (h : ts[k]? = some y) : findT 0 ts y.n = some (k, y) := by
  have := findT_some ts 0 k h rfl (fun j u hj hu e => by
    have h2 := (hm.each k y h).2
    have hk : (ts.take k)[j]? = some u := by rw [List.getElem?_take, if_pos hj]; exact hu
    rw [hasN_yes hk e] at h2
    cases h2)
  rwa [Nat.zero_add] at this
theorem hasN_find {ts : List Ten} {nm : ByteArray} : hasN ts nm = (findT 0 ts nm).isSome := by
  cases h : findT 0 ts nm with
  | some y =>
    obtain ⟨i, t⟩ := y
    obtain ⟨_, h2, h3⟩ := findT_mem ts 0 h
    exact hasN_yes h2 h3
  | none =>
    cases hh : hasN ts nm with
    | false => rfl
    | true =>
      exfalso
      unfold hasN at hh
      rw [List.any_eq_true] at hh
      obtain ⟨x, hx, hn⟩ := hh
      have hn := of_decide_eq_true hn
      have key : ∀ (l : List Ten) (k : Nat), x ∈ l → findT k l nm ≠ none := by
        intro l
        induction l with
        | nil => intro k hx; cases hx
        | cons u r ih =>
          intro k hx
          unfold findT
          split
          · simp
          · rename_i hu
            rcases List.mem_cons.1 hx with rfl | hx
            · exact absurd hn hu
            · exact ih (k + 1) hx
      exact key ts 0 hx h
end Go.Proofs.Ytegfjndlkjfepaa
