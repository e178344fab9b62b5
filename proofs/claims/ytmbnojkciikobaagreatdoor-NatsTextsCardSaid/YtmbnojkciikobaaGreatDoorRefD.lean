/- The document's answer: a number copied, and the difference of two great numbers, by hand. -/
import Derived.Test.YtmbnojkciikobaaGreatDoorRefC
import Derived.Test.YtmbnojkciikobaaGreatDoorBook
import Derived.Laws.AppendOwnNone
namespace Go.Proofs.YtmbnojkciikobaaGreatDoor
open Go Go.Proofs Go.RowKit Go.Shelf Nu

attribute [local go_sem] Oper.semAt_some

theorem rows_at {W : World} {b off : Nat} {l : List Nat} (hc : ∀ j, j < l.length → W.cell? ⟨b, off + j, none⟩ = some (.int .u32 (l.getD j 0 : Nat))) : ∀ j u, (l.map u32v)[j]? = some u → W.cell? ((⟨b, off, none⟩ : Addr).add j) = some u := by
  intro j u hu
  rw [List.getElem?_map] at hu
  by_cases hj : j < l.length
  · rw [List.getElem?_eq_getElem hj] at hu
    simp only [Option.map_some, Option.some.injEq] at hu
    rw [Addr.add_lit, hc j hj, ← hu]
    rw [List.getD_eq_getElem?_getD, List.getElem?_eq_getElem hj]
    rfl
  · rw [List.getElem?_eq_none (by omega)] at hu; cases hu
theorem u32v_one (l : List Nat) : ∀ u ∈ l.map u32v, u.oneCell' = true := by
  intro u hu
  obtain ⟨x, _, rfl⟩ := List.mem_map.1 hu
  rfl

set_option maxRecDepth 100000 in
set_option maxHeartbeats 2000000 in
theorem rtwin_any {w : World} {v : Value} {l : List Nat} (h : Reads w v l) (hl : l.length ≤ 100000) :
    Calls Tryz.prog 118 #[v] w fun e w' => ∃ u, e = .returned u ∧ Fresh w' w.heap.size u l ∧ Below w.heap.size w w' := by
  obtain ⟨i0, hi, hz0, hz1, hz2⟩ := info_parts info_u32
  have hb0 : Below w.heap.size w w := Below.refl _ w
  rcases h with ⟨rfl, rfl⟩ | ⟨b, off, cap, rfl, hb, hcap, hc⟩ | ⟨x, rfl, rfl⟩
  · go_enter Tryz.func118, Tryz.ntmps118
    go_wp2_with (refine wpList_append_own_none rfl _ _ 23 rfl w.heap.size 78 i0 1 Tryz.underlying23 hi (.slice none 0 0) 0 [] rfl (World.ownsRow_nil _ _ _ 1) rfl ?_)
    go_ret
    exact ⟨_, rfl, Fresh.nil _ _, hb0⟩
  · have hn1 := Lib.hid (rows_at hc)
    obtain ⟨n, hn⟩ : ∃ n, n = l.length := ⟨_, rfl⟩
    have HN := Lib.hid hn
    rw [← hn] at hl hcap ⊢
    clear hn hc
    go_enter Tryz.func118, Tryz.ntmps118
    go_wp2_with (at_builtin; go_loud (refine wpList_append_own _ rfl _ _ 23 rfl w.heap.size 78 i0 (.int .u32 0) 1 4 Tryz.underlying23 hi hz0 hz1 hz2 rfl (by decide) (.slice none 0 0) 0 [] rfl (World.ownsRow_nil _ _ _ 1) ⟨b, off, none⟩ n cap (l.map u32v) rfl (by rw [List.length_map, ← HN.out, Nat.mul_one]) hn1.out (u32v_one l) (small_max (by omega)) (by omega) (Nat.le_refl _) ?_); intro v' w3 hown' hgrow _)
    go_ret
    refine ⟨v', rfl, ?_, hb0.grown hgrow (Nat.le_refl _) (fun k e => by cases e)⟩
    unfold Fresh
    rw [← HN.out]
    rw [Nat.zero_add, List.nil_append] at hown'
    exact hown'
  · go_enter Tryz.func118, Tryz.ntmps118
    go_wp2_with (at_builtin; go_loud (refine wpList_append_own _ rfl _ _ 23 rfl w.heap.size 78 i0 (.int .u32 0) 1 4 Tryz.underlying23 hi hz0 hz1 hz2 rfl (by decide) (.slice none 0 0) 0 [] rfl (World.ownsRow_nil _ _ _ 1) x 0 0 [] rfl rfl (by intro j u h; simp at h) (by simp) (small_max (by omega)) (by omega) (Nat.le_refl _) ?_); intro v' w3 hown' hgrow _)
    go_ret
    exact ⟨v', rfl, hown', hb0.grown hgrow (Nat.le_refl _) (fun k e => by cases e)⟩

theorem sub_two {x o y : Nat} (h1 : x < 4294967296) (h2 : y < 4294967296) (h3 : o ≤ 1) :
    ∃ d1 d : Nat, IntKind.u64.wrap ((x : Int) - (o : Int)) = (d1 : Int) ∧ IntKind.u64.wrap ((d1 : Int) - (y : Int)) = (d : Int) ∧ d1 < 18446744073709551616 ∧ d < 18446744073709551616 ∧ (x : Int) - o - y = (d % 4294967296 : Nat) - 4294967296 * (d / 9223372036854775808 : Nat) ∧ d / 9223372036854775808 ≤ 1 ∧ (y = 0 → d1 = d) := by
  rw [IntKind.wrap_u64]
  by_cases h : o ≤ x
  · refine ⟨x - o, ?_⟩
    rw [IntKind.wrap_u64]
    by_cases h' : y ≤ x - o
    · exact ⟨x - o - y, by omega, by omega, by omega, by omega, by omega, by omega, by omega⟩
    · exact ⟨18446744073709551616 + (x - o) - y, by omega, by omega, by omega, by omega, by omega, by omega, by omega⟩
  · refine ⟨18446744073709551616 + x - o, ?_⟩
    rw [IntKind.wrap_u64]
    exact ⟨18446744073709551616 + x - o - y, by omega, by omega, by omega, by omega, by omega, by omega, by omega⟩
theorem ring_sub (a b c P o x y r o' : Int) (h : a - P * o = b - c) (hd : x - o - y = r - 4294967296 * o') : (a + P * r) - P * 4294967296 * o' = (b + P * x) - (c + P * y) := by grind
theorem less_step {A B l : List Nat} {k o x y r o' : Nat} (hk : k < l.length) (h : (val (l.take k) : Int) - 4294967296 ^ k * o = val (A.take k) - val (B.take k)) (hx : x = A.getD k 0) (hy : y = B.getD k 0) (hd : (x : Int) - o - y = r - 4294967296 * (o' : Nat)) :
    (val ((l.set k r).take (k + 1)) : Int) - 4294967296 ^ (k + 1) * o' = val (A.take (k + 1)) - val (B.take (k + 1)) := by
  rw [set_take l k r hk, val_snoc, val_take_succ, val_take_succ, List.length_take, Nat.min_eq_left (by omega), ← hx, ← hy]
  have := ring_sub _ _ _ _ _ _ _ _ _ h hd
  simp only [Int.natCast_add, Int.natCast_mul, Int.natCast_pow, Int.cast_ofNat_Int, Int.pow_succ] at this ⊢
  exact this
theorem less_end {A B l : List Nat} {m o : Nat} (hl : l.length = m) (hs : Sm l) (ho : o ≤ 1) (hle : val B ≤ val A) (h : (val l : Int) - 4294967296 ^ m * o = val A - val B) : val l = val A - val B := by
  have h1 := val_lt hs
  rw [hl] at h1
  have h2 : ((4294967296 ^ m : Nat) : Int) = (4294967296 : Int) ^ m := by rw [Int.natCast_pow]; rfl
  rw [← h2] at h
  generalize 4294967296 ^ m = P at *
  rcases Nat.le_one_iff_eq_zero_or_eq_one.1 ho with rfl | rfl
  · simp at h; omega
  · simp at h; omega

end Go.Proofs.YtmbnojkciikobaaGreatDoor
