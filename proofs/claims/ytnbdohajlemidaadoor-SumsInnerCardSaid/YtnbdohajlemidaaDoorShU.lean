/- Sums: the law package's alive. -/
import Derived.Test.YtnbdohajlemidaaDoorShK
import Derived.Test.YtnbdohajlemidaaDoorShS
namespace Go.Proofs.YtnbdohajlemidaaDoor
open Go Go.Proofs Go.RowKit Go.Shelf

attribute [local go_sem] Oper.semAt_some
theorem rdb_nil (W : World) : RdB W (.slice none 0 0) [] := ⟨none, 0, rfl, Nat.le_refl _, fun h => by simp at h⟩
theorem rdb_new (W : World) (t : TypeId) (l : List UInt8) (n : Nat) (hn : l.length = n) : RdB (W.alloc (.cells (l.map bv).toArray t)) (.slice (some ⟨W.heap.size, 0, none⟩) n n) l := Row.rdb (Row.new W t (l.map bv)) hn
theorem ascii1 : (Sh.Ascii "e3b0c44298fc1c149afbf4c8996fb92427ae41e4649b934ca495991b7852b855").toArray = #[101, 51, 98, 48, 99, 52, 52, 50, 57, 56, 102, 99, 49, 99, 49, 52, 57, 97, 102, 98, 102, 52, 99, 56, 57, 57, 54, 102, 98, 57, 50, 52, 50, 55, 97, 101, 52, 49, 101, 52, 54, 52, 57, 98, 57, 51, 52, 99, 97, 52, 57, 53, 57, 57, 49, 98, 55, 56, 53, 50, 98, 56, 53, 53] := by decide +kernel
theorem ascii2 : (Sh.Ascii "ba7816bf8f01cfea414140de5dae2223b00361a396177a9cb410ff61f20015ad").toArray = #[98, 97, 55, 56, 49, 54, 98, 102, 56, 102, 48, 49, 99, 102, 101, 97, 52, 49, 52, 49, 52, 48, 100, 101, 53, 100, 97, 101, 50, 50, 50, 51, 98, 48, 48, 51, 54, 49, 97, 51, 57, 54, 49, 55, 55, 97, 57, 99, 98, 52, 49, 48, 102, 102, 54, 49, 102, 50, 48, 48, 49, 53, 97, 100] := by decide +kernel
theorem ascii3 : (Sh.Ascii "5bdcc146bf60754e6a042426089575c75a003f089d2739839dec58b964ec3843").toArray = #[53, 98, 100, 99, 99, 49, 52, 54, 98, 102, 54, 48, 55, 53, 52, 101, 54, 97, 48, 52, 50, 52, 50, 54, 48, 56, 57, 53, 55, 53, 99, 55, 53, 97, 48, 48, 51, 102, 48, 56, 57, 100, 50, 55, 51, 57, 56, 51, 57, 100, 101, 99, 53, 56, 98, 57, 54, 52, 101, 99, 51, 56, 52, 51] := by decide +kernel
theorem conv_mark (W : World) (c : Array Value) (n k m : Nat) (hm : c.size = m) : (convert 22 22 (.slice (some ⟨W.heap.size, 0, none⟩) n k)).run Tryd.prog (W.alloc (.cells c 5)) = .ok (.slice (some ⟨W.heap.size, 0, none⟩) n k) (W.alloc (.cells c 5 (m, m + 1))) := by
  subst hm
  have hsh : (W.alloc (.cells c 5)).shape? W.heap.size = some (5, c.size) := by
    simp [World.shape?, World.alloc, -World.alloc_eq]
  have hfz : (W.alloc (.cells c 5)).freeze ⟨W.heap.size, c.size, none⟩ 1 = W.alloc (.cells c 5 (c.size, c.size + 1)) := by
    simp only [World.freeze, World.alloc]
    rw [if_neg (by decide)]
    congr 1
    apply Array.ext_getElem?
    intro i
    rw [Array.getElem?_modify]
    by_cases h : W.heap.size = i
    · subst h; simp
    · have h' : ¬ i = W.heap.size := fun e => h e.symm
      simp [h, h', Array.getElem?_push]
  simp [convert, run_underlying Tryd.underlying22, run_underlying Tryd.underlying5, markStringish, hsh, hfz, Result.andThen]
theorem rdb_mark (W : World) (t : TypeId) (l : List UInt8) (n : Nat) (fr : Nat × Nat) (hn : l.length = n) : RdB (W.alloc (.cells (l.map bv).toArray t fr)) (.slice (some ⟨W.heap.size, 0, none⟩) n n) l := by
  have hh : (W.alloc (.cells (l.map bv).toArray t fr)).heap[W.heap.size]? = some (.cells (l.map bv).toArray t fr) := by
    show (W.heap.push _)[W.heap.size]? = _
    simp
  refine ⟨_, n, by rw [hn], by omega, fun _ => ⟨W.heap.size, 0, rfl, by simp, fun j hj => ?_⟩⟩
  unfold World.cell?
  rw [hh]
  have : (l.map bv)[j]? = some (bv (l.getD j 0)) := getD_some hj
  simpa using this
set_option maxRecDepth 100000
set_option maxHeartbeats 4000000 in
theorem alive_any (w : World) (hV : HasV w) : Calls Tryd.prog 15 #[] w fun e w' => e = .returned (.bool true) ∧ Below w.heap.size w w' := by
  obtain ⟨S1, h1⟩ : ∃ X, X = ((Sh.sha []).map bv).toArray := ⟨_, rfl⟩
  obtain ⟨S2, h2⟩ : ∃ X, X = ((Sh.sha [97, 98, 99]).map bv).toArray := ⟨_, rfl⟩
  obtain ⟨S3, h3⟩ : ∃ X, X = ((Sh.keyed [74, 101, 102, 101] [119, 104, 97, 116, 32, 100, 111, 32, 121, 97, 32, 119, 97, 110, 116, 32, 102, 111, 114, 32, 110, 111, 116, 104, 105, 110, 103, 63]).map bv).toArray := ⟨_, rfl⟩
  have K1 := Lib.hid (show ∀ W, Below w.heap.size w W → Calls Tryd.prog 8 #[.slice none 0 0] W fun e w' => e = .returned (.agg S1) ∧ Below w.heap.size w w' by
    intro W hW; rw [h1]
    exact (of_any [] _ W (by simp) (rdb_nil W) (hV.below hW)).mono fun _ _ h => ⟨h.1, hW.trans (h.2.mono hW.size)⟩)
  have T1 := Lib.hid (show ∀ W, Below w.heap.size w W → Calls Tryd.prog 12 #[.agg S1] W fun e w' => e = .returned (.string ⟨#[101, 51, 98, 48, 99, 52, 52, 50, 57, 56, 102, 99, 49, 99, 49, 52, 57, 97, 102, 98, 102, 52, 99, 56, 57, 57, 54, 102, 98, 57, 50, 52, 50, 55, 97, 101, 52, 49, 101, 52, 54, 52, 57, 98, 57, 51, 52, 99, 97, 52, 57, 53, 57, 57, 49, 98, 55, 56, 53, 50, 98, 56, 53, 53]⟩) ∧ Below w.heap.size w w' by
    intro W hW; rw [h1]
    have := text_any (Sh.sha []) (Sh.length_sha _) W
    rw [Sh.alive1, ascii1] at this
    exact this.mono fun _ _ h => ⟨h.1, hW.trans (h.2.mono hW.size)⟩)
  have K2 := Lib.hid (show ∀ W, Below w.heap.size w W → Calls Tryd.prog 8 #[.slice (some ⟨W.heap.size, 0, none⟩) 3 3] (W.alloc (.cells #[.int .u8 97, .int .u8 98, .int .u8 99] 5 (3, 4))) fun e w' => e = .returned (.agg S2) ∧ Below w.heap.size w w' by
    intro W hW; rw [h2]
    have hW2 := hW.alloc hW.size (.cells (([97, 98, 99] : List UInt8).map bv).toArray 5 (3, 4))
    exact (of_any [97, 98, 99] _ (W.alloc (.cells (([97, 98, 99] : List UInt8).map bv).toArray 5 (3, 4))) (by simp) (rdb_mark W 5 [97, 98, 99] 3 (3, 4) rfl) (hV.below hW2)).mono fun _ _ h => ⟨h.1, hW2.trans (h.2.mono hW2.size)⟩)
  have T2 := Lib.hid (show ∀ W, Below w.heap.size w W → Calls Tryd.prog 12 #[.agg S2] W fun e w' => e = .returned (.string ⟨#[98, 97, 55, 56, 49, 54, 98, 102, 56, 102, 48, 49, 99, 102, 101, 97, 52, 49, 52, 49, 52, 48, 100, 101, 53, 100, 97, 101, 50, 50, 50, 51, 98, 48, 48, 51, 54, 49, 97, 51, 57, 54, 49, 55, 55, 97, 57, 99, 98, 52, 49, 48, 102, 102, 54, 49, 102, 50, 48, 48, 49, 53, 97, 100]⟩) ∧ Below w.heap.size w w' by
    intro W hW; rw [h2]
    have := text_any (Sh.sha [97, 98, 99]) (Sh.length_sha _) W
    rw [Sh.alive2, ascii2] at this
    exact this.mono fun _ _ h => ⟨h.1, hW.trans (h.2.mono hW.size)⟩)
  have K3 := Lib.hid (show ∀ W, Below w.heap.size w W → Calls Tryd.prog 9 #[.slice (some ⟨W.heap.size, 0, none⟩) 4 4, .slice (some ⟨W.heap.size + 1, 0, none⟩) 28 28] ((W.alloc (.cells #[.int .u8 74, .int .u8 101, .int .u8 102, .int .u8 101] 5 (4, 5))).alloc (.cells #[.int .u8 119, .int .u8 104, .int .u8 97, .int .u8 116, .int .u8 32, .int .u8 100, .int .u8 111, .int .u8 32, .int .u8 121, .int .u8 97, .int .u8 32, .int .u8 119, .int .u8 97, .int .u8 110, .int .u8 116, .int .u8 32, .int .u8 102, .int .u8 111, .int .u8 114, .int .u8 32, .int .u8 110, .int .u8 111, .int .u8 116, .int .u8 104, .int .u8 105, .int .u8 110, .int .u8 103, .int .u8 63] 5 (28, 29))) fun e w' => e = .returned (.agg S3) ∧ Below w.heap.size w w' by
    intro W hW; rw [h3]
    have hW2 := hW.alloc hW.size (.cells (([74, 101, 102, 101] : List UInt8).map bv).toArray 5 (4, 5))
    have hW3 := hW2.alloc hW2.size (.cells (([119, 104, 97, 116, 32, 100, 111, 32, 121, 97, 32, 119, 97, 110, 116, 32, 102, 111, 114, 32, 110, 111, 116, 104, 105, 110, 103, 63] : List UInt8).map bv).toArray 5 (28, 29))
    have r1 := (rdb_mark W 5 [74, 101, 102, 101] 4 (4, 5) rfl).below ((Below.refl _ _).alloc (Nat.le_refl _) (.cells (([119, 104, 97, 116, 32, 100, 111, 32, 121, 97, 32, 119, 97, 110, 116, 32, 102, 111, 114, 32, 110, 111, 116, 104, 105, 110, 103, 63] : List UInt8).map bv).toArray 5 (28, 29)))
    have r2 := rdb_mark (W.alloc (.cells (([74, 101, 102, 101] : List UInt8).map bv).toArray 5 (4, 5))) 5 [119, 104, 97, 116, 32, 100, 111, 32, 121, 97, 32, 119, 97, 110, 116, 32, 102, 111, 114, 32, 110, 111, 116, 104, 105, 110, 103, 63] 28 (28, 29) rfl
    rw [World.size_alloc] at r2
    exact (keyed_any [74, 101, 102, 101] [119, 104, 97, 116, 32, 100, 111, 32, 121, 97, 32, 119, 97, 110, 116, 32, 102, 111, 114, 32, 110, 111, 116, 104, 105, 110, 103, 63] _ _ _ (by simp) (by simp) r1 r2 (hV.below hW3)).mono fun _ _ h => ⟨h.1, hW3.trans (h.2.mono hW3.size)⟩)
  have T3 := Lib.hid (show ∀ W, Below w.heap.size w W → Calls Tryd.prog 12 #[.agg S3] W fun e w' => e = .returned (.string ⟨#[53, 98, 100, 99, 99, 49, 52, 54, 98, 102, 54, 48, 55, 53, 52, 101, 54, 97, 48, 52, 50, 52, 50, 54, 48, 56, 57, 53, 55, 53, 99, 55, 53, 97, 48, 48, 51, 102, 48, 56, 57, 100, 50, 55, 51, 57, 56, 51, 57, 100, 101, 99, 53, 56, 98, 57, 54, 52, 101, 99, 51, 56, 52, 51]⟩) ∧ Below w.heap.size w w' by
    intro W hW; rw [h3]
    have := text_any (Sh.keyed [74, 101, 102, 101] [119, 104, 97, 116, 32, 100, 111, 32, 121, 97, 32, 119, 97, 110, 116, 32, 102, 111, 114, 32, 110, 111, 116, 104, 105, 110, 103, 63]) (Sh.length_keyed _ _) W
    rw [Sh.alive3, ascii3] at this
    exact this.mono fun _ _ h => ⟨h.1, hW.trans (h.2.mono hW.size)⟩)
  have hb := Lib.hid (Below.refl w.heap.size w)
  clear h1 h2 h3 hV
  have cv1 : ∀ W : World, (convert 22 22 (.slice (some ⟨W.heap.size, 0, none⟩) 3 3)).run Tryd.prog (W.alloc (.cells #[.int .u8 97, .int .u8 98, .int .u8 99] 5)) = .ok (.slice (some ⟨W.heap.size, 0, none⟩) 3 3) (W.alloc (.cells #[.int .u8 97, .int .u8 98, .int .u8 99] 5 (3, 4))) := fun W => conv_mark W _ 3 3 3 rfl
  have cv2 : ∀ W : World, (convert 22 22 (.slice (some ⟨W.heap.size, 0, none⟩) 4 4)).run Tryd.prog (W.alloc (.cells #[.int .u8 74, .int .u8 101, .int .u8 102, .int .u8 101] 5)) = .ok (.slice (some ⟨W.heap.size, 0, none⟩) 4 4) (W.alloc (.cells #[.int .u8 74, .int .u8 101, .int .u8 102, .int .u8 101] 5 (4, 5))) := fun W => conv_mark W _ 4 4 4 rfl
  have cv3 : ∀ W : World, (convert 22 22 (.slice (some ⟨W.heap.size + 1, 0, none⟩) 28 28)).run Tryd.prog ((W.alloc (.cells #[.int .u8 74, .int .u8 101, .int .u8 102, .int .u8 101] 5 (4, 5))).alloc (.cells #[.int .u8 119, .int .u8 104, .int .u8 97, .int .u8 116, .int .u8 32, .int .u8 100, .int .u8 111, .int .u8 32, .int .u8 121, .int .u8 97, .int .u8 32, .int .u8 119, .int .u8 97, .int .u8 110, .int .u8 116, .int .u8 32, .int .u8 102, .int .u8 111, .int .u8 114, .int .u8 32, .int .u8 110, .int .u8 111, .int .u8 116, .int .u8 104, .int .u8 105, .int .u8 110, .int .u8 103, .int .u8 63] 5)) = .ok (.slice (some ⟨W.heap.size + 1, 0, none⟩) 28 28) ((W.alloc (.cells #[.int .u8 74, .int .u8 101, .int .u8 102, .int .u8 101] 5 (4, 5))).alloc (.cells #[.int .u8 119, .int .u8 104, .int .u8 97, .int .u8 116, .int .u8 32, .int .u8 100, .int .u8 111, .int .u8 32, .int .u8 121, .int .u8 97, .int .u8 32, .int .u8 119, .int .u8 97, .int .u8 110, .int .u8 116, .int .u8 32, .int .u8 102, .int .u8 111, .int .u8 114, .int .u8 32, .int .u8 110, .int .u8 111, .int .u8 116, .int .u8 104, .int .u8 105, .int .u8 110, .int .u8 103, .int .u8 63] 5 (28, 29))) := fun W => by
    have := conv_mark (W.alloc (.cells #[.int .u8 74, .int .u8 101, .int .u8 102, .int .u8 101] 5 (4, 5))) #[.int .u8 119, .int .u8 104, .int .u8 97, .int .u8 116, .int .u8 32, .int .u8 100, .int .u8 111, .int .u8 32, .int .u8 121, .int .u8 97, .int .u8 32, .int .u8 119, .int .u8 97, .int .u8 110, .int .u8 116, .int .u8 32, .int .u8 102, .int .u8 111, .int .u8 114, .int .u8 32, .int .u8 110, .int .u8 111, .int .u8 116, .int .u8 104, .int .u8 105, .int .u8 110, .int .u8 103, .int .u8 63] 28 28 28 rfl
    rw [World.size_alloc] at this
    exact this
  go_enter Tryd.func15, Tryd.ntmps15
  go_wp2_with (first
    | (go_at_call 8; (with_reducible refine (K1.out _ hb.out).mono ?_); clear hb; rintro e wx ⟨rfl, hx⟩; have hb := Lib.hid hx; clear hx)
    | (go_at_call 12; (with_reducible refine (T1.out _ hb.out).mono ?_); clear hb; rintro e wx ⟨rfl, hx⟩; have hb := Lib.hid hx; clear hx)
    | (go_at_call 8; (with_reducible refine (K2.out _ hb.out).mono ?_); clear hb; rintro e wx ⟨rfl, hx⟩; have hb := Lib.hid hx; clear hx)
    | (go_at_call 12; (with_reducible refine (T2.out _ hb.out).mono ?_); clear hb; rintro e wx ⟨rfl, hx⟩; have hb := Lib.hid hx; clear hx)
    | (go_at_call 9; (with_reducible refine (K3.out _ hb.out).mono ?_); clear hb; rintro e wx ⟨rfl, hx⟩; have hb := Lib.hid hx; clear hx)
    | (go_at_call 12; (with_reducible refine (T3.out _ hb.out).mono ?_); clear hb; rintro e wx ⟨rfl, hx⟩; have hb := Lib.hid hx; clear hx))
  go_ret
  exact ⟨rfl, hb.out⟩
end Go.Proofs.YtnbdohajlemidaaDoor
