/- Seals: a number's digits, as the library writes them. -/
import Derived.Test.YtjlmhpokamdkhaaDoorLayS
import Derived.Test.YtjlmhpokamdkhaaDoorShX
import Derived.Lib.ItoaMem
import Derived.Lib.Strings
namespace Go.Proofs.YtjlmhpokamdkhaaDoor
open Go Go.Proofs Go.RowKit Go.Shelf

attribute [local go_sem] Oper.semAt_some
/-- the table of the powers of ten is as it was laid -/
def HasP (W : World) : Prop := Lib.TabIs Tryd.prog W "internal/strconv.uint64pow10" .u64 Lib.pow10Tab
theorem HasP.below {W W' : World} (h : HasP W) (hb : Below W.heap.size W W') : HasP W' := by
  unfold HasP Lib.TabIs World.var? at *
  cases hg : Tryd.prog.globalNamed "internal/strconv.uint64pow10" with
  | none => simp [hg] at h
  | some g =>
    simp only [hg, Option.bind_some] at h ⊢
    have hlt : g < W.heap.size := by
      rcases Nat.lt_or_ge g W.heap.size with h' | h'
      · exact h'
      · rw [Array.getElem?_eq_none h'] at h; simp at h
    rw [hb.block g hlt]
    exact h
theorem fin_row (w : World) (o : Obj) (dk : Array UInt8) (k : Nat) : Below w.heap.size w ((Sort.putRow (fun (b : UInt8) => Value.int .u8 (b.toNat : Int)) (w.alloc o) w.heap.size 0 dk).drewN k) := by
  have h : ∃ os, (Sort.putRow (fun (b : UInt8) => Value.int .u8 (b.toNat : Int)) (w.alloc o) w.heap.size 0 dk).drewN k = Sort.grow (w.drewN k) os := by
    rw [Sort.alloc_eq_grow]
    obtain ⟨os', _, e⟩ := Sort.putRow_grow_new (fun (b : UInt8) => Value.int .u8 (b.toNat : Int)) w #[o] w.heap.size 0 dk (Nat.le_refl _)
    exact ⟨os', by rw [e]; rfl⟩
  obtain ⟨os, e⟩ := h
  rw [e]
  refine ⟨rfl, rfl, rfl, ?_, fun j hj => ?_⟩
  · simp [Sort.grow]
  · simp [Sort.grow, Array.getElem?_append_left hj]
theorem holds_zero0 (w : World) (T : TypeId) (nd : Nat) (hs : nd ≤ 24) : Sort.Holds (fun (b : UInt8) => Value.int .u8 (b.toNat : Int)) (w.alloc (.cells Lib.zeros24 T)) w.heap.size 0 (Array.replicate nd (0 : UInt8)) := fun j hj => by
  have hj' : j < nd := by simpa using hj
  refine ⟨?_, World.frozen?_alloc_new _ _ _ _⟩
  rw [World.cell?_alloc_new, Nat.zero_add, Lib.zeros24_at _ (by omega), getElem!_pos _ j hj]
  simp
theorem small_any (i : Nat) (hi : i < 100) (w : World) : Calls Tryd.prog 39 #[.int .i64 i] w fun e w' => e = .returned (.string ⟨(Lib.decDigits i).toArray⟩) ∧ w' = w :=
  Any.internal_strconv_small YtjlmhpokamdkhaaDoor.smL i hi w
theorem numDigits_any (u : Nat) (h1 : 1 ≤ u) (h2 : u < 18446744073709551616) (w : World) (h : HasP w) : Calls Tryd.prog 40 #[.int .u64 u] w fun e w' => e = .returned (.int .i64 (Lib.nDigits u)) ∧ w' = w :=
  Any.internal_strconv_numDigits YtjlmhpokamdkhaaDoor.ndL u h1 h2 w h
theorem format_any (blk off cap : Nat) (u : Nat) (d : Array UInt8) (w : World) (hH : Sort.Holds (fun (b : UInt8) => Value.int .u8 (b.toNat : Int)) w blk off d) (hu : u < 10 ^ d.size) (hu64 : u < 18446744073709551616) (hsz : d.size < 4611686018427387904) :
    Calls Tryd.prog 41 #[.slice (some ⟨blk, off, none⟩) d.size cap, .int .u64 u] w fun e w' =>
      e = .returned (.tuple #[]) ∧ ∃ (n v' : Nat) (dk : Array UInt8), w' = (Sort.putRow (fun (b : UInt8) => Value.int .u8 (b.toNat : Int)) w blk off dk).drewN n ∧ Lib.FmtInv d.size u 0 v' dk :=
  Any.internal_strconv_formatBase10 YtjlmhpokamdkhaaDoor.fbL blk off cap u d w hH hu hu64 hsz
set_option maxRecDepth 100000
set_option maxHeartbeats 4000000 in
theorem ifu_any (u : Nat) (hu : u < 18446744073709551616) (w : World) (hT : HasP w) :
    Calls Tryd.prog 37 #[.int .u64 u, .int .i64 10] w fun e w' => e = .returned (.string ⟨(Lib.decDigits u).toArray⟩) ∧ Below w.heap.size w w' := by
  by_cases hs : u < 100
  · have i1 : (u : Int) < 100 := by omega
    have w1 : IntKind.i64.wrap (u : Int) = (u : Int) := i64n u (by omega)
    go_enter Tryd.func37, Tryd.ntmps37
    go_wp2_with (go_at_call 39; refine (small_any u hs _).mono ?_; rintro e w' ⟨rfl, rfl⟩)
    go_ret
    exact ⟨rfl, Below.refl _ _⟩
  · have hu1 : 1 ≤ u := by omega
    have hnd20 : Lib.nDigits u ≤ 20 := by have := Lib.numDigits_eq u hu1 hu; split at this <;> omega
    have hal : Tryd.prog.arrayLen 65 = 24 := by simp [Program.arrayLen, Tryd.underlying65]
    have hH0 := holds_zero0 w 65 (Lib.nDigits u) (by omega)
    have hfmt := format_any w.heap.size 0 24 u (Array.replicate (Lib.nDigits u) 0) (w.alloc (.cells Lib.zeros24 65)) hH0 (by rw [Array.size_replicate]; exact Lib.lt_pow_nDigits u) hu (by rw [Array.size_replicate]; omega)
    rw [Array.size_replicate] at hfmt
    have hnum := fun W (h : HasP W) => numDigits_any u hu1 hu W h
    obtain ⟨nd, hnd⟩ : ∃ n, n = Lib.nDigits u := ⟨_, rfl⟩
    rw [← hnd] at hfmt hnum hnd20
    have hsl : ∀ W, (Instr.sliceAt 65 (.pointer (some ⟨w.heap.size, 0, none⟩)) none (some (.int .i64 (nd : Int))) none).run Tryd.prog W = .ok (.slice (some ⟨w.heap.size, 0, none⟩) nd 24) W := fun W => by
      rw [run_sliceAt_array_h W 65 ⟨w.heap.size, 0, none⟩ (by simp [Program.arrayLen, Program.elem, Tryd.underlying65]) .i64 (nd : Int) (by omega) (by rw [hal]; omega)]
      go_simp
      try omega
    have i1 : ¬ (u : Int) < 100 := by omega
    have HH0 := Lib.hid hH0
    have HND := Lib.hid hnd
    have HFM := Lib.hid hfmt
    have HNU := Lib.hid hnum
    have HT := Lib.hid (show HasP (w.alloc (.cells Lib.zeros24 65)) from hT.below ((Below.refl _ _).alloc (Nat.le_refl _) _))
    clear hH0 hnd hfmt hnum hal hT
    go_enter Tryd.func37, Tryd.ntmps37
    go_wp2_with (first
      | (go_at_call 40; refine (HNU.out _ HT.out).mono ?_; rintro e w' ⟨rfl, rfl⟩)
      | (go_at_call 41; refine HFM.out.mono ?_; rintro e w3 ⟨rfl, k, v', dk, qw3, qF⟩; have hw3 := Lib.hid qw3; have hF := Lib.hid qF; clear qw3 qF; refine Hid.out ?_))
    refine Lib.hid ?_
    have hcv : (convert 22 9 (.slice (some ⟨w.heap.size, 0, none⟩) nd 24)).run Tryd.prog w3 = .ok (.string ⟨(Lib.decDigits u).toArray⟩) w3 := by
      have hF := hF.out
      have hlen : (Lib.decDigits u).length = nd := by rw [Lib.decDigits_length, HND.out]
      have h := run_convert_bytes_back (P := Tryd.prog) w3 22 9 5 ⟨w.heap.size, 0, none⟩ 24 (Lib.decDigits u) Tryd.underlying22 Tryd.underlying5 Tryd.underlying9 (fun j hj => by
        rw [HND.out] at hF
        rw [Lib.row_is_numeral hF j hj, Lib.add_plain, hw3.out, World.cell?_drewN]
        exact Sort.cell?_putRow (fun (b : UInt8) => Value.int .u8 (b.toNat : Int)) _ w.heap.size 0 _ dk HH0.out (by rw [hF.size, Array.size_replicate]) j (by rw [hF.size]; rw [hlen, HND.out] at hj; exact hj))
      rw [hlen] at h
      exact h
    have hb := Lib.hid (show Below w.heap.size w w3 by rw [hw3.out]; exact fin_row w _ dk k)
    clear hw3 hF
    go_wp2
    go_ret
    exact ⟨rfl, hb.out⟩
theorem fu_any (u : Nat) (hu : u < 18446744073709551616) (w : World) (hT : HasP w) :
    Calls Tryd.prog 27 #[.int .u64 u, .int .i64 10] w fun e w' => e = .returned (.string ⟨(Lib.decDigits u).toArray⟩) ∧ Below w.heap.size w w' := by
  have H := Lib.hid (ifu_any u hu w hT)
  clear hT hu
  go_enter Tryd.func27, Tryd.ntmps27
  go_wp2_with (go_at_call 37; refine H.out.mono ?_; rintro e w' ⟨rfl, qb⟩; have hb := Lib.hid qb; clear qb)
  go_ret
  exact ⟨rfl, hb.out⟩
end Go.Proofs.YtjlmhpokamdkhaaDoor
