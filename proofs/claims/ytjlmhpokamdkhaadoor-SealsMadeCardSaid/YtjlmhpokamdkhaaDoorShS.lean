/- Sums: 32 bytes as digits; whether two sums are the same. -/
import Derived.Test.YtjlmhpokamdkhaaDoorShM
import Derived.Deep.AppendLies
import Derived.Deep.LoopGhost
import Derived.DeepKeys
import Derived.Laws.IdiomStrings
import Derived.Laws.MakeOwn
namespace Go.Proofs.YtjlmhpokamdkhaaDoor
open Go Go.Proofs Go.RowKit Go.Shelf

attribute [local go_sem] Oper.semAt_some
set_option maxRecDepth 100000
theorem ix32 (c : List UInt8) (h : c.length = 32) (k : Nat) (hk : k < 32) (W : World) : (Instr.index 24 (.agg (c.map bv).toArray) (.int .i64 (k : Int))).run Tryd.prog W = .ok (.int .u8 (ib (c.getD k 0))) W := by
  obtain _ | ⟨c0, c⟩ := c
  · simp at h
  obtain _ | ⟨c1, c⟩ := c
  · simp at h
  obtain _ | ⟨c2, c⟩ := c
  · simp at h
  obtain _ | ⟨c3, c⟩ := c
  · simp at h
  obtain _ | ⟨c4, c⟩ := c
  · simp at h
  obtain _ | ⟨c5, c⟩ := c
  · simp at h
  obtain _ | ⟨c6, c⟩ := c
  · simp at h
  obtain _ | ⟨c7, c⟩ := c
  · simp at h
  obtain _ | ⟨c8, c⟩ := c
  · simp at h
  obtain _ | ⟨c9, c⟩ := c
  · simp at h
  obtain _ | ⟨c10, c⟩ := c
  · simp at h
  obtain _ | ⟨c11, c⟩ := c
  · simp at h
  obtain _ | ⟨c12, c⟩ := c
  · simp at h
  obtain _ | ⟨c13, c⟩ := c
  · simp at h
  obtain _ | ⟨c14, c⟩ := c
  · simp at h
  obtain _ | ⟨c15, c⟩ := c
  · simp at h
  obtain _ | ⟨c16, c⟩ := c
  · simp at h
  obtain _ | ⟨c17, c⟩ := c
  · simp at h
  obtain _ | ⟨c18, c⟩ := c
  · simp at h
  obtain _ | ⟨c19, c⟩ := c
  · simp at h
  obtain _ | ⟨c20, c⟩ := c
  · simp at h
  obtain _ | ⟨c21, c⟩ := c
  · simp at h
  obtain _ | ⟨c22, c⟩ := c
  · simp at h
  obtain _ | ⟨c23, c⟩ := c
  · simp at h
  obtain _ | ⟨c24, c⟩ := c
  · simp at h
  obtain _ | ⟨c25, c⟩ := c
  · simp at h
  obtain _ | ⟨c26, c⟩ := c
  · simp at h
  obtain _ | ⟨c27, c⟩ := c
  · simp at h
  obtain _ | ⟨c28, c⟩ := c
  · simp at h
  obtain _ | ⟨c29, c⟩ := c
  · simp at h
  obtain _ | ⟨c30, c⟩ := c
  · simp at h
  obtain _ | ⟨c31, c⟩ := c
  · simp at h
  obtain _ | ⟨c32, c⟩ := c
  rotate_left
  · simp at h
  clear h
  obtain rfl | rfl | rfl | rfl | rfl | rfl | rfl | rfl | rfl | rfl | rfl | rfl | rfl | rfl | rfl | rfl | rfl | rfl | rfl | rfl | rfl | rfl | rfl | rfl | rfl | rfl | rfl | rfl | rfl | rfl | rfl | rfl : k = 0 ∨ k = 1 ∨ k = 2 ∨ k = 3 ∨ k = 4 ∨ k = 5 ∨ k = 6 ∨ k = 7 ∨ k = 8 ∨ k = 9 ∨ k = 10 ∨ k = 11 ∨ k = 12 ∨ k = 13 ∨ k = 14 ∨ k = 15 ∨ k = 16 ∨ k = 17 ∨ k = 18 ∨ k = 19 ∨ k = 20 ∨ k = 21 ∨ k = 22 ∨ k = 23 ∨ k = 24 ∨ k = 25 ∨ k = 26 ∨ k = 27 ∨ k = 28 ∨ k = 29 ∨ k = 30 ∨ k = 31 := by omega
  all_goals kernel_rfl
theorem wf8 (c : UInt8) : (Lit.int .u8 (ib c)).wf = true := by
  have := ib_lt c
  simp only [Lit.wf, IntKind.min, IntKind.max, IntKind.signed, IntKind.bits, Bool.and_eq_true]
  exact ⟨by simp; omega, by simp; omega⟩
theorem cells24 : Tryd.prog.cellsOf 24 = 32 := by kernel_rfl
theorem cells5 : Tryd.prog.cellsOf 5 = 1 := by kernel_rfl
theorem key8 (c : UInt8) (d : Nat) : Tryd.prog.keyLits (d + 1) 5 [bv c] = some [.int .u8 (ib c)] := by
  have h := Tryd.underlying5
  unfold Program.keyLits bv
  rw [h]
  simp [wf8]
theorem mapM_some {α β : Type} (f : α → Option β) (g : α → β) : ∀ l : List α, (∀ x ∈ l, f x = some (g x)) → l.mapM f = some (l.map g)
  | [], _ => rfl
  | x :: l, h => by
    rw [List.mapM_cons, h x (by simp), mapM_some f g l fun y hy => h y (by simp [hy])]
    rfl
theorem flat_range (l : List Lit) : ((List.range l.length).map fun i => [l.getD i (.bool false)]).flatten = l := by
  apply List.ext_getElem?
  intro j
  have e : ((List.range l.length).map fun i => [l.getD i (.bool false)]).flatten = (List.range l.length).map fun i => l.getD i (.bool false) := by
    generalize List.range l.length = r
    induction r with
    | nil => rfl
    | cons x r ih => rw [List.map_cons, List.flatten_cons, ih]; rfl
  rw [e, List.getElem?_map]
  by_cases hj : j < l.length
  · rw [List.getElem?_range hj, List.getElem?_eq_getElem hj]; simp [List.getElem?_eq_getElem hj]
  · rw [List.getElem?_eq_none (by simp; omega), List.getElem?_eq_none (by omega)]; rfl
theorem key32 (l : List UInt8) (hl : l.length = 32) : Tryd.prog.keyLits 5 24 (l.map bv) = some (l.map fun c => .int .u8 (ib c)) := by
  have h := Tryd.underlying24
  unfold Program.keyLits
  rw [h]
  simp only [cells24, cells5, List.length_map, hl, if_true]
  rw [mapM_some _ (fun i => [(l.map fun c => Lit.int .u8 (ib c)).getD i (.bool false)]) (List.range 32) (fun i hi => by
    have hi : i < l.length := by rw [hl]; simpa using hi
    have e : ((l.map bv).drop (i * 1)).take 1 = [bv l[i]] := by
      rw [Nat.mul_one, List.drop_eq_getElem_cons (by simpa using hi), List.take_succ_cons, List.take_zero, List.getElem_map]
    rw [e, key8]
    simp [List.getD_eq_getElem?_getD, List.getElem?_eq_getElem hi])]
  have := flat_range (l.map fun c => Lit.int .u8 (ib c))
  rw [List.length_map, hl] at this
  rw [Option.map_some, this]
theorem lit_inj : ∀ a b : List UInt8, (a.map fun c => Lit.int .u8 (ib c)) = (b.map fun c => Lit.int .u8 (ib c)) → a = b
  | [], [], _ => rfl
  | [], _ :: _, h => by simp at h
  | _ :: _, [], h => by simp at h
  | x :: a, y :: b, h => by
    simp only [List.map_cons, List.cons.injEq, Lit.int.injEq, true_and] at h
    rw [ib_inj h.1, lit_inj a b h.2]
theorem eq32 (a b : List UInt8) (ha : a.length = 32) (hb : b.length = 32) (W : World) : (Op.equalIn 10000 24 (.agg (a.map bv).toArray) (.agg (b.map bv).toArray)).run Tryd.prog W = .ok (a == b) W := by
  have h : Program.keyTypeAt Tryd.prog 3 24 = true := by kernel_rfl
  have hf : ∀ l : List UInt8, l.length = 32 → (Value.agg (l.map bv).toArray).formed Tryd.prog 24 = true := by
    intro l hl
    have hu := Tryd.underlying24
    unfold Value.formed
    simp only [hu, cells24, List.size_toArray, List.length_map, hl]
    rfl
  obtain ⟨r, hr, hiff⟩ := run_equalIn_deep 9997 3 24 h W 5 5 _ _ _ _ (hf a ha) (hf b hb) (key32 a ha) (key32 b hb)
  rw [hr]
  congr 1
  rw [Bool.eq_iff_iff, hiff, beq_iff_eq]
  constructor
  · intro e
    exact lit_inj a b e
  · rintro rfl; rfl

theorem dig_at (n : Nat) (hn : n < 16) (W : World) : (Instr.index 9 (.string ⟨#[48, 49, 50, 51, 52, 53, 54, 55, 56, 57, 97, 98, 99, 100, 101, 102]⟩) (.int .u8 (n : Int))).run Tryd.prog W = .ok (.int .u8 (ib (Sh.dig n))) W := by
  obtain rfl | rfl | rfl | rfl | rfl | rfl | rfl | rfl | rfl | rfl | rfl | rfl | rfl | rfl | rfl | rfl : n = 0 ∨ n = 1 ∨ n = 2 ∨ n = 3 ∨ n = 4 ∨ n = 5 ∨ n = 6 ∨ n = 7 ∨ n = 8 ∨ n = 9 ∨ n = 10 ∨ n = 11 ∨ n = 12 ∨ n = 13 ∨ n = 14 ∨ n = 15 := by omega
  all_goals kernel_rfl

theorem info_u8' : (Tryd.prog.info? 5).map (fun i => (i.zero, i.size, i.bytes)) = some (some (.int .u8 0), 1, 1) := by kernel_rfl
theorem info_parts {i : Option TypeInfo} {z : Value} {s b : Nat} (h : i.map (fun i => (i.zero, i.size, i.bytes)) = some (some z, s, b)) : ∃ j, i = some j ∧ j.zero = some z ∧ j.size = s ∧ j.bytes = b := by
  cases i with
  | none => simp at h
  | some j =>
    simp only [Option.map_some, Option.some.injEq, Prod.mk.injEq] at h
    exact ⟨j, rfl, h.1, h.2.1, h.2.2⟩
/-- the slice v owns the bytes l -/
def OwnB (W : World) (base : Nat) (v : Value) (l : List UInt8) : Prop := W.ownsRow base 5 1 v l.length (l.map bv)
theorem small_max {n : Nat} (h : n ≤ 10000000) : n ≤ maxLen := by unfold maxLen; omega
theorem hex_take (l : List UInt8) (k : Nat) (hk : k < l.length) : Sh.hex (l.take (k + 1)) = Sh.hex (l.take k) ++ [Sh.dig ((l.getD k 0).toNat / 16), Sh.dig ((l.getD k 0).toNat % 16)] := by
  rw [List.take_add_one, List.getElem?_eq_getElem hk, List.getD_eq_getElem?_getD, List.getElem?_eq_getElem hk]
  unfold Sh.hex
  rw [List.flatMap_append]
  rfl
theorem ib_div (c : UInt8) : ib c / (16 : Int) = ((c.toNat / 16 : Nat) : Int) := by unfold ib; omega
theorem ib_low4 (c : UInt8) : bits .and .u8 (ib c) 15 = ((c.toNat % 16 : Nat) : Int) := by
  have := u8_and_nat c.toNat 15 c.toNat_lt (by decide)
  rw [nat_mask4] at this
  exact this
set_option maxHeartbeats 4000000 in
theorem text_any (l : List UInt8) (hl : l.length = 32) (w : World) : Calls Tryd.prog 12 #[.agg (l.map bv).toArray] w fun e w' => e = .returned (.string ⟨(Sh.hex l).toArray⟩) ∧ Below w.heap.size w w' := by
  obtain ⟨i0, hi0, hz0, hz1, hz2⟩ := info_parts info_u8'
  obtain ⟨A, hA⟩ : ∃ A, A = (l.map bv).toArray := ⟨_, rfl⟩
  have hAs := Lib.hid (show A.size = 32 by rw [hA]; simp [hl])
  have ix := fun k hk W => ix32 l hl k hk W
  rw [← hA] at ix ⊢
  have IX := Lib.hid ix
  have HI := Lib.hid hi0
  have HZ := Lib.hid hz0
  have HZ1 := Lib.hid hz1
  have HZ2 := Lib.hid hz2
  have HL := Lib.hid hl
  clear hA ix hi0 hz0 hz1 hz2 hl
  go_enter Tryd.func12, Tryd.ntmps12
  go_wp2_with (first
    | (refine wpList_load_row rfl 24 _ rfl w.heap.size rfl 24 A (0, 0) _ ((hgrow1.block w.heap.size (by simp) (by simp)).trans (heap_n0 w _ _)) Tryd.underlying24 rfl (by rw [hAs.out]; exact info_s) ?_)
    | (at_make; go_loud (refine wpList_make_own _ rfl _ _ 22 rfl (w.heap.size + 1) 5 i0 (.int .u8 0) 1 Tryd.underlying22 HI.out HZ.out HZ1.out .i64 .i64 _ 64 rfl rfl (by omega) (by rw [HZ2.out]; omega) (by unfold maxLen; omega) (by simp) ?_); intro w1 hown1 hgrow1))
  have hown1 : w1.ownsRow (w.heap.size + 1) 5 1 (.slice (some ⟨w.heap.size + 1, 0, none⟩) 0 64) 0 [] := by rw [World.size_alloc] at hown1; exact hown1
  have HW1 := Lib.hid (show Below w.heap.size w w1 from ((Below.refl _ _).alloc (Nat.le_refl _) _).grown hgrow1 (by simp) (fun k e => by cases e))
  have HO := Lib.hid (show OwnB w1 (w.heap.size + 1) (.slice (some ⟨w.heap.size + 1, 0, none⟩) 0 64) (Sh.hex (l.take 0)) from hown1)
  clear hgrow1 hown1
  have k0 : ((0 : Nat) : Int) = 0 := rfl
  go_loopg [3, 5, 8] 32 (fun g v _ i wr => ∃ (k n c : Nat) (a : Option Addr), k + g = 32 ∧ i = .int .i64 (k : Int) ∧ v = .slice a n c ∧ Hid (n = 2 * k ∧ OwnB wr (w.heap.size + 1) (.slice a n c) (Sh.hex (l.take k))) ∧ Hid (Below w.heap.size w wr ∧ w.heap.size < wr.heap.size))
  case atStart => exact ⟨0, 0, 64, _, rfl, rfl, rfl, Lib.hid ⟨rfl, HO.out⟩, Lib.hid ⟨HW1.out, by have := (World.ownsRow.lt HO.out) _ rfl; omega⟩⟩
  case round =>
    clear HO HW1 k0
    obtain ⟨k, n, c, a, hk, rfl, rfl, HO, HW⟩ := hrel
    by_cases hlt : k < 32
    · have n0 : (0 : Int) ≤ (k : Int) := by omega
      have l0 : (k : Int) < 32 := by omega
      have w0 : IntKind.i64.wrap ((k : Int) + 1) = ((k + 1 : Nat) : Int) := i64n (k + 1) (by omega)
      have ix := IX.out k hlt
      obtain ⟨b, hb⟩ : ∃ b, b = l.getD k 0 := ⟨_, rfl⟩
      rw [← hb] at ix
      have b1 := ib_div b
      have b2 := ib_low4 b
      have d1 := dig_at (b.toNat / 16) (by have := b.toNat_lt; omega)
      have d2 := dig_at (b.toNat % 16) (by omega)
      have HX := Lib.hid (hex_take l k (by rw [HL.out]; exact hlt))
      rw [← hb] at HX
      generalize b.toNat / 16 = m1 at *
      generalize b.toNat % 16 = m2 at *
      have p1 : (0 : Int) ≤ (m1 : Int) := by omega
      have p2 : (0 : Int) ≤ (m2 : Int) := by omega
      obtain ⟨e1, he1⟩ : ∃ e, e = Sh.dig m1 := ⟨_, rfl⟩
      obtain ⟨e2, he2⟩ : ∃ e, e = Sh.dig m2 := ⟨_, rfl⟩
      rw [← he1, ← he2] at HX
      rw [← he1] at d1
      rw [← he2] at d2
      clear he1 he2 hb
      have hn := HO.out.1
      have hmx : n + 2 ≤ maxLen := small_max (by omega)
      have hby : (n + 2) * 1 ≤ 140737488355328 := by omega
      have hlen : (Sh.hex (l.take k)).length = n := by rw [Sh.length_hex, List.length_take, HL.out, hn]; omega
      have HOW := Lib.hid (show ((wr.alloc (.cells #[.int .u8 (ib e1), .int .u8 (ib e2)] 5)).drew).ownsRow (w.heap.size + 1) 5 1 (.slice a n c) n ((Sh.hex (l.take k)).map bv) from World.ownsRow.drew (World.ownsRow.alloc (by have := HO.out.2; unfold OwnB at this; rw [hlen] at this; exact this) _))
      have hbs : w.heap.size + 1 ≤ wr.heap.size + 1 := by have := HW.out.2; omega
      have HBS := Lib.hid hbs
      clear hn hbs hlen
      go_wp2
      go_region_held3 (fun _ => True) (trivial)
        (first
          | (refine step_append_lies _ (by rfl) _ _ _ (by rfl) (w.heap.size + 1) 5 i0 _ 1 1 Tryd.underlying22 HI.out HZ.out HZ1.out HZ2.out rfl (by omega) (.slice a n c) n ((Sh.hex (l.take k)).map bv) (by rfl) HOW.out ⟨wr.heap.size, 0, none⟩ 2 2 [.int .u8 (ib e1), .int .u8 (ib e2)] (by rfl) (by rfl) (World.news_of_block (cs := #[.int .u8 (ib e1), .int .u8 (ib e2)]) (t := 5) (fr := (0, 0)) (heap_n0 wr _ _)) (by simp [Value.oneCell']) (by omega) hmx hby (by simpa using HBS.out) (wr.heap.size + 1) (by simp) ?_; intro gg cap w6 hown6 hgrow6 hat6 hlt6))
      all_goals
        go_wp2
        go_roundg (32 - (k + 1))
        case measure => omega
        case rel =>
          refine ⟨k + 1, n + 2, cap, _, by omega, rfl, rfl, Lib.hid ⟨by have := HO.out.1; omega, ?_⟩, Lib.hid ⟨?_, ?_⟩⟩
          · rw [HX.out]
            unfold OwnB
            rw [List.length_append, List.map_append]
            have hlen : (Sh.hex (l.take k)).length = n := by rw [Sh.length_hex, List.length_take, HL.out, HO.out.1]; omega
            rw [hlen]
            exact hown6
          · refine (HW.out.1.alloc HW.out.1.size _).drew.grown hgrow6 (by simp; have := HW.out.2; omega) (fun j e => ?_)
            have := (World.ownsRow.lt HO.out.2) j e
            omega
          · have := hgrow6.size
            simp at this
            have := HW.out.2
            omega
    · obtain rfl : k = 32 := by omega
      have kc : ((32 : Nat) : Int) = 32 := rfl
      have hO := HO.out.2
      rw [List.take_of_length_le (by rw [HL.out]; omega)] at hO
      have hlen : (Sh.hex l).length = 64 := by rw [Sh.length_hex, HL.out]
      have hn : n = 64 := HO.out.1
      subst hn
      have hcell := fun (g : Nat) (hg : (Value.slice a 64 c).ownBlock = some g) => World.ownsRow.cells hO hg
      rcases hO.2 with ⟨h1, _⟩ | ⟨g, cap, cur, e1, _⟩
      · cases h1
      · simp only [Value.slice.injEq] at e1
        obtain ⟨rfl, h64, rfl⟩ := e1
        clear h64
        have hcv := run_convert_bytes_back (P := Tryd.prog) wr 22 9 5 ⟨g, 0, none⟩ c (Sh.hex l) Tryd.underlying22 Tryd.underlying5 Tryd.underlying9 (fun j hj => by
          have := hcell g rfl j (bv (Sh.hex l)[j]) (by rw [List.getElem?_map, List.getElem?_eq_getElem hj]; rfl)
          exact this)
        rw [hlen] at hcv
        clear hcell hO HO hlen
        go_wp2
        go_ret
        exact ⟨rfl, HW.out.1⟩
end Go.Proofs.YtjlmhpokamdkhaaDoor
