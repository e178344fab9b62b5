/- Lines: the law package's twin of bytes, whether it is left; sizes: contracts. -/
import Derived.Test.YthpbcfoaabacgaaGreatDoorLnC
import Derived.MakeChecks
import Derived.Laws.MakeOwn
import Derived.OwnWalk
import Derived.Lib.AppendZeros
import Derived.Deep.QuietTactic
namespace Go.Proofs.YthpbcfoaabacgaaGreatDoor
open Go Go.Proofs Go.RowKit Go.Shelf
set_option linter.unusedVariables false
set_option linter.unusedSimpArgs false

attribute [local go_sem] Oper.semAt_some
set_option maxRecDepth 100000
/-- a row that holds l, and a spare byte behind it; it lies behind B -/
def Twin (W : World) (B : Nat) (v : Value) (l : List UInt8) : Prop := ∃ g c, v = .slice (some ⟨g, 0, none⟩) l.length c ∧ l.length + 1 ≤ c ∧ B ≤ g ∧ g < W.heap.size ∧ ∀ j x, (l ++ [77])[j]? = some x → W.cell? ⟨g, j, none⟩ = some (bcell x)
theorem Twin.rdc {W : World} {B : Nat} {v : Value} {l : List UInt8} (h : Twin W B v l) : RdC W v l.length (bcells l) := by
  obtain ⟨g, c, rfl, hc, _, hg, h⟩ := h
  refine ⟨_, c, rfl, by omega, fun _ => ⟨g, 0, rfl, hg, fun j u hu => ?_⟩⟩
  unfold bcells at hu
  rw [List.getElem?_map, Option.map_eq_some_iff] at hu
  obtain ⟨x, hx, rfl⟩ := hu
  rw [Nat.zero_add]
  exact h j x (by rw [List.getElem?_append_left (List.getElem?_eq_some_iff.1 hx).1]; exact hx)
theorem Twin.kept {W W' : World} {B : Nat} {v : Value} {l : List UInt8} (h : Twin W B v l) (hs : W.heap.size ≤ W'.heap.size) (hk : ∀ g, B ≤ g → g < W.heap.size → v.ownBlock = some g → W'.heap[g]? = W.heap[g]?) : Twin W' B v l := by
  obtain ⟨g, c, rfl, hc, hB, hg, h⟩ := h
  refine ⟨g, c, rfl, hc, hB, by omega, fun j x hx => ?_⟩
  rw [← h j x hx]
  unfold World.cell?
  rw [hk g hB hg rfl]
/-- a byte put behind a row of the call's own -/
theorem app1 {w W : World} {v : Value} {l : List UInt8} (h : W.ownsRow w.heap.size 5 1 v l.length (bcells l)) (hb : Below w.heap.size w W) (hn : l.length ≤ 1000000) (c : UInt8) {X : Int} (hX : X = (c.toNat : Int)) (t : TypeId) :
    ∃ v' W', (Builtin.append_ #[42, 42] t #[v, .slice (some ⟨W.heap.size, 0, none⟩) 1 1]).run Tryz.prog (W.alloc (.cells #[.int .u8 X] 5)) = .ok v' W' ∧ W'.ownsRow w.heap.size 5 1 v' (l ++ [c]).length (bcells (l ++ [c])) ∧ Below w.heap.size w W' := by
  subst hX
  obtain ⟨i0, hi0, hz0, hz1, hz2⟩ := q_info info_u8L
  have e0 : (W.alloc (.cells (bcells [c]).toArray 5)).heap[W.heap.size]? = some (.cells (bcells [c]).toArray 5 (0, 0)) := q_new W _
  have hl : RdC (W.alloc (.cells #[.int .u8 (c.toNat : Int)] 5)) (.slice (some ⟨W.heap.size, 0, none⟩) 1 1) 1 (bcells [c]) := by
    refine ⟨_, _, rfl, Nat.le_refl _, fun h0 => ⟨W.heap.size, 0, rfl, by rw [World.size_alloc]; omega, fun o u hu => ?_⟩⟩
    have e1 : (W.alloc (.cells #[.int .u8 (c.toNat : Int)] 5)).heap[W.heap.size]? = some (.cells (bcells [c]).toArray 5 (0, 0)) := e0
    rw [cell_of_row _ W.heap.size _ _ _ _ e1, Nat.zero_add]
    simpa using hu
  obtain ⟨v', W', r1, r2, r3⟩ := spread_any (P := Tryz.prog) w.heap.size 42 t 5 i0 (.int .u8 0) 1 Tryz.underlying42 hi0 hz0 hz1 hz2 rfl (World.ownsRow.alloc h _) hl rfl (bcells_one [c]) (by unfold maxLen; omega) (by omega) (Nat.le_trans hb.size (by simp))
  refine ⟨v', W', r1, by rw [bcells_append, List.length_append]; exact r2, ?_⟩
  have hba := hb.alloc hb.size (.cells #[.int .u8 (c.toNat : Int)] 5)
  rcases r3 with ⟨_, hg⟩ | ⟨_, hg⟩
  · exact hba.grown hg hba.size (fun g e => (World.ownsRow.lt h g e).1)
  · exact hba.grown hg hba.size (fun g e => by cases e)
set_option maxHeartbeats 8000000 in
theorem twinB_any (l : List UInt8) (v : Value) (w : World) (hl : l.length ≤ 900000) (hR : RdC w v l.length (bcells l)) :
    Calls Tryz.prog 7 #[v] w fun e w' => ∃ t, e = .returned t ∧ Twin w' w.heap.size t l ∧ Below w.heap.size w w' := by
  obtain ⟨i0, hi0, hz0, hz1, hz2⟩ := q_info info_u8L
  obtain ⟨a, cap, rfl, hcap⟩ : ∃ a c, v = .slice a l.length c ∧ True := by obtain ⟨a, c, e, _⟩ := hR; exact ⟨a, c, e, trivial⟩
  obtain ⟨n, hn⟩ : ∃ n, n = l.length := ⟨_, rfl⟩
  obtain ⟨q, hq⟩ : ∃ q, q = n + 1 := ⟨_, rfl⟩
  have w1 : IntKind.i64.wrap ((n : Int) + 1) = (q : Int) := by rw [hq]; exact IntWalk.i64_in _ (by omega)
  have HR := Lib.hid (show RdC w (.slice a n cap) n (bcells l) by rw [hn]; exact hR)
  have HN := Lib.hid (show n = l.length ∧ q = n + 1 ∧ n ≤ 900000 from ⟨hn, hq, by omega⟩)
  have HI := Lib.hid hi0
  have HZ := Lib.hid hz0
  have HZ1 := Lib.hid hz1
  have HZ2 := Lib.hid hz2
  have q0 : (0 : Int) ≤ (q : Int) := by omega
  rw [← hn]
  clear hi0 hz0 hz1 hz2 hR hcap hl hn hq
  go_enter Tryz.func7, Tryz.ntmps7
  go_wp2_with (at_make; go_loud (refine wpList_make_own _ rfl _ _ 42 rfl w.heap.size 5 i0 (.int .u8 0) 1 Tryz.underlying42 HI.out HZ.out HZ1.out .i64 .i64 _ q rfl rfl (by have := HN.out; omega) (by rw [HZ2.out]; have := HN.out; omega) (by unfold maxLen; have := HN.out; omega) (Nat.le_refl _) ?_); intro w1 qo qg; have O1 := Lib.hid qo; have G1 := Lib.hid qg; clear qo qg)
  have HB := Lib.hid (show Below w.heap.size w w1 from (Below.refl _ _).grown G1.out (Nat.le_refl _) (fun k e => by cases e))
  have HO0 := Lib.hid (show w1.ownsRow w.heap.size 5 1 (.slice (some ⟨w.heap.size, 0, none⟩) 0 q) 0 [] from O1.out)
  clear O1 G1 q0
  have k0 : ((0 : Nat) : Int) = 0 := rfl
  obtain ⟨g0, hg0⟩ : ∃ g, g = w.heap.size := ⟨_, rfl⟩
  have HO := Lib.hid (show w1.ownsRow w.heap.size 5 1 (.slice (some ⟨g0, 0, none⟩) 0 q) (l.take 0).length (bcells (l.take 0)) by rw [hg0]; simpa [bcells] using HO0.out)
  simp only [← hg0]
  clear hg0 HO0
  go_loopg [3, 4] n (fun g t x wr => ∃ (k : Nat) (av : Option Addr) (cv : Nat), k + g = n ∧ t = .slice av k cv ∧ x = .int .i64 (k : Int) ∧ Hid (wr.ownsRow w.heap.size 5 1 (.slice av k cv) (l.take k).length (bcells (l.take k))) ∧ Hid (Below w.heap.size w wr))
  case atStart => exact ⟨0, _, q, by omega, rfl, rfl, HO, HB⟩
  case round =>
    clear HO HB k0
    obtain ⟨k, av, cv, hk, rfl, rfl, HO, HW⟩ := hrel
    by_cases hlt : k < n
    · have n0 : (0 : Int) ≤ (k : Int) := by omega
      have l0 : (k : Int) < (n : Int) := by omega
      have w0 : IntKind.i64.wrap ((k : Int) + 1) = ((k + 1 : Nat) : Int) := IntWalk.i64_in _ (by have := HN.out; omega)
      obtain ⟨c, hc⟩ : ∃ c, l[k]? = some c := ⟨_, List.getElem?_eq_getElem (by have := HN.out; omega)⟩
      obtain ⟨X, hX⟩ : ∃ X : Int, X = (c.toNat : Int) := ⟨_, rfl⟩
      obtain ⟨a9, c9, e9, _, h9⟩ := (HR.out.below HW.out)
      obtain ⟨b, off, e8, _, hcell⟩ := h9 (by have := HN.out; omega)
      simp only [Value.slice.injEq] at e9
      have ea := e9.1.trans e8
      subst ea
      have cz : wr.cell? ⟨b, off + k, none⟩ = some (.int .u8 X) := by rw [hX]; exact hcell k _ (bcells_get hc)
      obtain ⟨v3, W3, hap, ho, hb⟩ := app1 HO.out HW.out (by rw [List.length_take]; have := HN.out; omega) c hX 42
      have htk : l.take k ++ [c] = l.take (k + 1) := by rw [List.take_add_one, hc]; rfl
      rw [htk] at ho
      obtain ⟨a3, c3, e⟩ := lform_row ho
      have hlk : (l.take (k + 1)).length = k + 1 := by rw [List.length_take]; have := HN.out; omega
      rw [hlk] at e
      subst e
      have ho := Lib.hid ho
      have hap := Lib.hid hap
      have hb := Lib.hid hb
      clear e8 e9 h9 hcell hc htk hlk hX
      go_wp2_with (at_builtin; refine Lib.wpList_append_run _ rfl _ _ _ _ rfl _ _ rfl rfl _ _ hap.out ?_)
      go_roundg (n - (k + 1))
      case measure => omega
      case rel => exact ⟨k + 1, a3, c3, by omega, by first | rfl | simp, by first | rfl | simp, ho, hb⟩
    · obtain rfl : k = n := by omega
      have htl : l.take k = l := List.take_of_length_le (by have := HN.out; omega)
      rw [htl] at HO
      obtain ⟨v3, W3, hap, ho, hb⟩ := app1 HO.out HW.out (by have := HN.out; omega) 77 (X := 77) rfl 42
      obtain ⟨a3, m3, c3, e, hm3⟩ : ∃ a m c, v3 = .slice a m c ∧ m = k + 1 := by
        obtain ⟨a, c, e⟩ := lform_row ho
        exact ⟨a, _, c, e, by rw [List.length_append, ← HN.out.1]; rfl⟩
      subst e
      obtain ⟨g3, eg, hgB, hgs, hcp⟩ : ∃ g, a3 = some ⟨g, 0, none⟩ ∧ w.heap.size ≤ g ∧ g < W3.heap.size ∧ k + 1 ≤ c3 := by
        obtain ⟨a, c, e, hac, _⟩ := own_rdc ho
        cases e
        rcases own_form ho with ⟨_, h0, _⟩ | ⟨g, h1, h2, h3, h4⟩
        · simp at h0
        · exact ⟨g, h1, h2, h3, by rw [List.length_append, ← HN.out.1] at h4; exact h4⟩
      subst eg
      have n0 : (0 : Int) ≤ (k : Int) := by omega
      have l0 : (k : Int) ≤ (c3 : Int) := by omega
      have HT := Lib.hid (show Twin W3 w.heap.size (.slice (some ⟨g3, 0, none⟩) k c3) l from ⟨g3, c3, by rw [HN.out.1], by have := HN.out; omega, hgB, hgs, fun j x hx => by
        have hlt := (List.getElem?_eq_some_iff.1 hx).1
        obtain ⟨_, _, e, _, hcc⟩ := own_rdc ho
        obtain ⟨b5, o5, e5, _, h5⟩ := hcc (by omega)
        simp only [Value.slice.injEq] at e
        have e6 := e.1.trans e5
        simp only [Option.some.injEq, Addr.mk.injEq] at e6
        obtain ⟨rfl, rfl, _⟩ := e6
        have := h5 j _ (bcells_get hx)
        rwa [Nat.zero_add] at this⟩)
      have hap := Lib.hid hap
      have hb := Lib.hid hb
      clear ho hcp htl hm3
      go_wp2_with (at_builtin; refine Lib.wpList_append_run _ rfl _ _ _ _ rfl _ _ rfl rfl _ _ hap.out ?_)
      go_ret
      exact ⟨_, rfl, HT.out, hb.out⟩
set_option maxHeartbeats 8000000 in
theorem leftB_any (l : List UInt8) (t v : Value) (B : Nat) (w : World) (hl : l.length ≤ 900000) (hT : Twin w B t l) (hR : RdC w v l.length (bcells l)) :
    Calls Tryz.prog 14 #[t, v] w fun e w' => e = .returned (.bool true) ∧ Below w.heap.size w w' := by
  obtain ⟨a, cap, rfl, hcap⟩ : ∃ a c, v = .slice a l.length c ∧ True := by obtain ⟨a, c, e, _⟩ := hR; exact ⟨a, c, e, trivial⟩
  obtain ⟨gt, ct, rfl, hct, _, hgt, hcell⟩ := hT
  obtain ⟨n, hn⟩ : ∃ n, n = l.length := ⟨_, rfl⟩
  obtain ⟨q, hq⟩ : ∃ q, q = n + 1 := ⟨_, rfl⟩
  have w1 : IntKind.i64.wrap ((n : Int) + 1) = (q : Int) := by rw [hq]; exact IntWalk.i64_in _ (by omega)
  rw [← hn] at hct
  have HR := Lib.hid (show RdC w (.slice a n cap) n (bcells l) by rw [hn]; exact hR)
  have HC := Lib.hid (show gt < w.heap.size ∧ ∀ j x, (l ++ [77])[j]? = some x → w.cell? ⟨gt, j, none⟩ = some (bcell x) from ⟨hgt, hcell⟩)
  have HN := Lib.hid (show n = l.length ∧ q = n + 1 ∧ n ≤ 900000 ∧ n + 1 ≤ ct from ⟨hn, hq, by omega, by omega⟩)
  rw [← hn]
  have e1 : ((n : Int) == (n : Int)) = true := by simp
  have i1 : ¬ (ct : Int) ≤ (n : Int) := by omega
  have k0 : ((0 : Nat) : Int) = 0 := rfl
  clear hR hcap hl hn hq hcell hct hgt
  go_enter Tryz.func14, Tryz.ntmps14
  go_wp2
  go_loopg [5] n (fun g x wr => ∃ (k : Nat), k + g = n ∧ x = .int .i64 (k : Int) ∧ Hid (Below w.heap.size w wr))
  case atStart => exact ⟨0, by omega, rfl, Lib.hid (Below.refl _ _)⟩
  case round =>
    clear k0
    obtain ⟨k, hk, rfl, HW⟩ := hrel
    by_cases hlt : k < n
    · have n0 : (0 : Int) ≤ (k : Int) := by omega
      have l0 : (k : Int) < (n : Int) := by omega
      have w0 : IntKind.i64.wrap ((k : Int) + 1) = ((k + 1 : Nat) : Int) := IntWalk.i64_in _ (by have := HN.out; omega)
      obtain ⟨c, hc⟩ : ∃ c, l[k]? = some c := ⟨_, List.getElem?_eq_getElem (by have := HN.out; omega)⟩
      obtain ⟨X, hX⟩ : ∃ X : Int, X = (c.toNat : Int) := ⟨_, rfl⟩
      obtain ⟨a9, c9, e9, _, h9⟩ := (HR.out.below HW.out)
      obtain ⟨b, off, e8, _, hcell⟩ := h9 (by have := HN.out; omega)
      simp only [Value.slice.injEq] at e9
      have ea := e9.1.trans e8
      subst ea
      have cz : wr.cell? ⟨b, off + k, none⟩ = some (.int .u8 X) := by rw [hX]; exact hcell k _ (bcells_get hc)
      have ct' : wr.cell? ⟨gt, k, none⟩ = some (.int .u8 X) := by
        have := (HW.out.cell (p := ⟨gt, k, none⟩) HC.out.1).trans (HC.out.2 k c (by rw [List.getElem?_append_left (by have := HN.out; omega)]; exact hc))
        rw [this, hX]; rfl
      have e2 : (X == X) = true := by simp
      clear e8 e9 h9 hcell hc hX
      go_wp2
      go_quiet (fail)
      go_wp2
      go_roundg (n - (k + 1))
      case measure => omega
      case rel => exact ⟨k + 1, by omega, by first | rfl | simp, Lib.hid (below_drewN HW.out _)⟩
    · obtain rfl : k = n := by omega
      have n0 : (0 : Int) ≤ (k : Int) := by omega
      have n1 : (0 : Int) ≤ (q : Int) := by omega
      have l0 : (q : Int) ≤ (ct : Int) := by have := HN.out; omega
      have l1 : (k : Int) < (q : Int) := by have := HN.out; omega
      have ct' : wr.cell? ⟨gt, k, none⟩ = some (.int .u8 77) := by
        have := (HW.out.cell (p := ⟨gt, k, none⟩) HC.out.1).trans (HC.out.2 k 77 (by rw [List.getElem?_append_right (by have := HN.out; omega), show k - l.length = 0 by have := HN.out; omega]; rfl))
        rw [this]; rfl
      go_wp2
      go_ret
      exact ⟨rfl, HW.out⟩
/-- pieces, in memory: the law's argument -/
def RowB (W : World) (v : Value) (ls : List (List UInt8)) : Prop :=
  ∃ a cap, v = .slice a ls.length cap ∧ ls.length ≤ cap ∧ (0 < ls.length → ∃ b off, a = some ⟨b, off, none⟩ ∧ b < W.heap.size ∧ ∀ (j : Nat) (l : List UInt8), ls[j]? = some l → ∃ u, W.cell? ⟨b, off + j, none⟩ = some u ∧ RdC W u l.length (bcells l) ∧ l.length ≤ 140737488355328)
/-- how great the pieces are together, as far as it is counted -/
def szs : List (List UInt8) → Nat
  | [] => 0
  | l :: t => 1 + l.length + szs t
theorem szs_append (a b : List (List UInt8)) : szs (a ++ b) = szs a + szs b := by
  induction a with
  | nil => simp [szs]
  | cons x t ih => simp only [List.cons_append, szs, ih]; omega
theorem szs_take_le (l : List (List UInt8)) (k : Nat) : szs (l.take k) ≤ szs l := by
  have := congrArg szs (List.take_append_drop k l)
  rw [szs_append] at this
  omega
theorem szs_next {l : List (List UInt8)} {k : Nat} {x : List UInt8} (h : l[k]? = some x) : szs (l.take (k + 1)) = szs (l.take k) + 1 + x.length := by
  rw [List.take_add_one, h, szs_append]
  simp [szs]
  omega
theorem szs_few (l : List (List UInt8)) : l.length ≤ szs l := by
  induction l with
  | nil => exact Nat.le_refl _
  | cons x t ih => simp only [List.length_cons, szs]; omega
set_option maxHeartbeats 4000000 in
theorem sizes_any {w W : World} {v : Value} {ls : List (List UInt8)} (hv : RowB w v ls) (hb : Below w.heap.size w W) :
    Calls Tryz.prog 4 #[v] W fun e w' => ∃ z : Nat, e = .returned (.int .i64 (z : Int)) ∧ (z ≤ 300000 → z = szs ls) ∧ W = w' := by
  obtain ⟨a, c, rfl, hlc, hrow⟩ := hv
  obtain ⟨N, hN⟩ : ∃ N, N = ls.length := ⟨_, rfl⟩
  have HN := Lib.hid hN
  rw [← hN] at hlc ⊢
  have HR := Lib.hid hrow
  have HB := Lib.hid hb
  clear hN hrow hb
  have k0 : ((0 : Nat) : Int) = 0 := rfl
  go_enter Tryz.func4, Tryz.ntmps4
  go_wp2
  go_loopg [3, 4] N (fun g s3 s4 wr => ∃ k z : Nat, k + g = N ∧ s4 = .int .i64 (k : Int) ∧ s3 = .int .i64 (z : Int) ∧ Hid (z = szs (ls.take k)) ∧ wr = W)
  case atStart => exact ⟨0, 0, by omega, rfl, rfl, Lib.hid rfl, rfl⟩
  case round =>
    clear k0
    obtain ⟨k, z, hk, rfl, rfl, HZ, hw⟩ := hrel
    subst wr
    by_cases hlt : k < N
    · obtain ⟨b, off, rfl, hbs, hcell⟩ := HR.out (by have := HN.out; omega)
      obtain ⟨x, hx⟩ : ∃ x, ls[k]? = some x := ⟨_, List.getElem?_eq_getElem (by have := HN.out; omega)⟩
      obtain ⟨u, c0, hr, h47⟩ := hcell k x hx
      obtain ⟨xa, xc, rfl, _⟩ := hr
      have c1 := (HB.out.cell (p := ⟨b, off + k, none⟩) hbs).trans c0
      obtain ⟨M, hM⟩ : ∃ M, M = x.length := ⟨_, rfl⟩
      rw [← hM] at c1
      have n0 : (0 : Int) ≤ (k : Int) := by omega
      have n1 : (k : Int) < (N : Int) := by omega
      by_cases hz : z ≤ 1000000
      · have l1 : (z : Int) ≤ 1000000 := by omega
        have HZ2 := Lib.hid (show z + 1 + M = szs (ls.take (k + 1)) by rw [szs_next hx, ← HZ.out, hM])
        have hM47 : M ≤ 140737488355328 := by omega
        have hN47 : k ≤ z := by rw [HZ.out]; have h := szs_few (ls.take k); rwa [List.length_take, Nat.min_eq_left (by have := HN.out; omega)] at h
        have w0 : IntKind.i64.wrap ((z : Int) + 1) = (z : Int) + 1 := IntWalk.i64_in _ (by omega)
        have w1 : IntKind.i64.wrap ((z : Int) + 1 + (M : Int)) = ((z + 1 + M : Nat) : Int) := by rw [IntWalk.i64_in _ (by omega)]; omega
        have w2 : IntKind.i64.wrap ((k : Int) + 1) = ((k + 1 : Nat) : Int) := IntWalk.i64_in _ (by omega)
        clear hcell c0 hx hM HZ
        go_wp2
        go_roundg (N - (k + 1))
        case measure => omega
        case rel => exact ⟨k + 1, z + 1 + M, by omega, by first | rfl | simp, by first | rfl | simp, HZ2, rfl⟩
      · have l1 : ¬ (z : Int) ≤ 1000000 := by omega
        clear hcell c0 hx hM HZ
        go_wp2
        go_ret
        exact ⟨z, rfl, by omega, rfl⟩
    · have n1 : ¬ (k : Int) < (N : Int) := by omega
      obtain rfl : k = N := by omega
      have HE := Lib.hid (show z = szs ls by rw [HZ.out, List.take_of_length_le (by have := HN.out; omega)])
      go_wp2
      go_ret
      exact ⟨z, rfl, fun _ => HE.out, rfl⟩
end Go.Proofs.YthpbcfoaabacgaaGreatDoor
