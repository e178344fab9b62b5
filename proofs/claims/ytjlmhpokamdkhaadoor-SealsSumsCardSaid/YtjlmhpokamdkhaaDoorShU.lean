/- Sums: the law package's alive. -/
import Derived.Test.YtjlmhpokamdkhaaDoorShK
import Derived.Test.YtjlmhpokamdkhaaDoorShS
namespace Go.Proofs.YtjlmhpokamdkhaaDoor
open Go Go.Proofs Go.RowKit Go.Shelf

attribute [local go_sem] Oper.semAt_some
theorem rdb_nil (W : World) : RdB W (.slice none 0 0) [] := ⟨none, 0, rfl, Nat.le_refl _, fun h => by simp at h⟩
theorem rdb_new (W : World) (t : TypeId) (l : List UInt8) (n : Nat) (hn : l.length = n) : RdB (W.alloc (.cells (l.map bv).toArray t)) (.slice (some ⟨W.heap.size, 0, none⟩) n n) l := Row.rdb (Row.new W t (l.map bv)) hn
theorem ascii1 : (Sh.Ascii "e3b0c44298fc1c149afbf4c8996fb92427ae41e4649b934ca495991b7852b855").toArray = #[101, 51, 98, 48, 99, 52, 52, 50, 57, 56, 102, 99, 49, 99, 49, 52, 57, 97, 102, 98, 102, 52, 99, 56, 57, 57, 54, 102, 98, 57, 50, 52, 50, 55, 97, 101, 52, 49, 101, 52, 54, 52, 57, 98, 57, 51, 52, 99, 97, 52, 57, 53, 57, 57, 49, 98, 55, 56, 53, 50, 98, 56, 53, 53] := by decide +kernel
theorem ascii2 : (Sh.Ascii "ba7816bf8f01cfea414140de5dae2223b00361a396177a9cb410ff61f20015ad").toArray = #[98, 97, 55, 56, 49, 54, 98, 102, 56, 102, 48, 49, 99, 102, 101, 97, 52, 49, 52, 49, 52, 48, 100, 101, 53, 100, 97, 101, 50, 50, 50, 51, 98, 48, 48, 51, 54, 49, 97, 51, 57, 54, 49, 55, 55, 97, 57, 99, 98, 52, 49, 48, 102, 102, 54, 49, 102, 50, 48, 48, 49, 53, 97, 100] := by decide +kernel
theorem ascii3 : (Sh.Ascii "5bdcc146bf60754e6a042426089575c75a003f089d2739839dec58b964ec3843").toArray = #[53, 98, 100, 99, 99, 49, 52, 54, 98, 102, 54, 48, 55, 53, 52, 101, 54, 97, 48, 52, 50, 52, 50, 54, 48, 56, 57, 53, 55, 53, 99, 55, 53, 97, 48, 48, 51, 102, 48, 56, 57, 100, 50, 55, 51, 57, 56, 51, 57, 100, 101, 99, 53, 56, 98, 57, 54, 52, 101, 99, 51, 56, 52, 51] := by decide +kernel
theorem conv_mark (W : World) (c : Array Value) (n k m : Nat) (hm : c.size = m) : (convert 22 22 (.slice (some ⟨W.heap.size, 0, none⟩) n k)).run Tryd.prog (W.alloc (.cells c 5)) = .ok (.slice (some ⟨W.heap.size, 0, none⟩) n k) (W.alloc (.cells c 5 (m, m + 1))) := by
  subst hm
  have hsh : (W.alloc (.cells c 5)).shape? W.heap.size = some (5, c.size) := by
    simp [World.shape?, World.alloc, -World.alloc_eq]
  have hfz : (W.alloc (.cells c 5)).freeze ⟨W.heap.size, c.size, none⟩ 1 = W.alloc (.cells c 5 (c.size, c.size + 1)) := by
    simp only [World.freeze, World.alloc]
    rw [if_neg (by decide)]
    congr 1
    apply Array.ext_getElem?
    intro i
    rw [Array.getElem?_modify]
    by_cases h : W.heap.size = i
    · subst h; simp
    · have h' : ¬ i = W.heap.size := fun e => h e.symm
      simp [h, h', Array.getElem?_push]
  simp [convert, run_underlying Tryd.underlying22, run_underlying Tryd.underlying5, markStringish, hsh, hfz, Result.andThen]
theorem rdb_mark (W : World) (t : TypeId) (l : List UInt8) (n : Nat) (fr : Nat × Nat) (hn : l.length = n) : RdB (W.alloc (.cells (l.map bv).toArray t fr)) (.slice (some ⟨W.heap.size, 0, none⟩) n n) l := by
  have hh : (W.alloc (.cells (l.map bv).toArray t fr)).heap[W.heap.size]? = some (.cells (l.map bv).toArray t fr) := by
    show (W.heap.push _)[W.heap.size]? = _
    simp
  refine ⟨_, n, by rw [hn], by omega, fun _ => ⟨W.heap.size, 0, rfl, by simp, fun j hj => ?_⟩⟩
  unfold World.cell?
  rw [hh]
  have : (l.map bv)[j]? = some (bv (l.getD j 0)) := getD_some hj
  simpa using this
end Go.Proofs.YtjlmhpokamdkhaaDoor
