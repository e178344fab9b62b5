/- TokensAgain: the walk. -/
import Derived.Test.YtfnblnemdepimaaDoorTkM
import Derived.Test.YtfnblnemdepimaaDoorTkR
import Derived.Laws.Concat
import Derived.Laws.OwnMore
namespace Go.Proofs.YtfnblnemdepimaaDoor
open Go Go.Proofs Go.RowKit Go.Shelf
set_option linter.unusedVariables false
set_option linter.unusedSimpArgs false

theorem again_far {s : ByteArray} {x : Int} {w : World} (hT : HasTab w) (hs : 5000 < s.size) :
    Calls Tryd.prog 4 #[.string s, .int .u8 x] w fun e w' => e = .returned (.bool true) ∧ Below w.heap.size w w' := by
  have hlt := hT.lt
  have HT := Lib.hid hT
  have d1 : decide ((5000 : Int) < (s.size : Int)) = true := by simp; omega
  clear hT
  go_enter Tryd.func4, Tryd.ntmps4
  go_wp2_with fail
  refine (alive_any HT.out).mono ?_
  rintro e w1 ⟨rfl, b1⟩
  have B1 := Lib.hid b1
  clear b1
  go_wp2_with fail
  refine (alive_any (HT.out.below B1.out hlt)).mono ?_
  rintro e w2 ⟨rfl, b2⟩
  have B2 := Lib.hid (then_below B1.out b2)
  clear b2
  go_wp2_with fail
  go_ret
  exact ⟨rfl, B2.out⟩

theorem TFresh.frozen {W : World} {base g n cap : Nat} {ts : List Tk.Tok} (h : TFresh W base (.slice (some ⟨g, 0, none⟩) n cap) ts) (j : Nat) : W.frozen? ⟨g, j, none⟩ = false := by
  rcases h.2 with ⟨e, _⟩ | ⟨g', cap', cur, e, _, hg, _⟩
  · cases e
  · simp only [Value.slice.injEq, Option.some.injEq, Addr.mk.injEq, and_true] at e
    obtain ⟨rfl, _, _⟩ := e
    exact frozen_of_row _ _ _ _ _ hg
def bls : Array Value := #[.string ⟨#[32]⟩, .string ⟨#[9]⟩, .string ⟨#[10]⟩, .string ⟨#[13]⟩, .string ⟨#[32, 35, 32, 120, 10]⟩]
theorem bls_at : ∀ r, r < 5 → bls[r]? = some (.string ⟨(Tk.bl r).toArray⟩)
  | 0, _ => rfl | 1, _ => rfl | 2, _ => rfl | 3, _ => rfl | 4, _ => rfl
  | _ + 5, h => by omega

/-- what holds between two tokens -/
structure AW (w : World) (base : Nat) (v : Value) (b : List UInt8) (ts : List Tk.Tok) (k : Nat) (all : ByteArray) (W : World) : Prop where
  bel : Below w.heap.size w W
  own : TFresh W base v (Tk.re b.length 0 (ts.take k) ++ ts.drop k)
  all : all.data.toList = Tk.cat b (ts.take k)
theorem set_at (t : Tk.Tok) (x : Nat) : (tcell t).set 2 (.int .i64 (x : Int)) = tcell ⟨t.kind, t.text, x⟩ := rfl
theorem tcells_set (p q : List Tk.Tok) (t : Tk.Tok) (x : Nat) : (tcells (p ++ t :: q)).set (p.length * 3 + 2) (.int .i64 (x : Int)) = tcells (p ++ ⟨t.kind, t.text, x⟩ :: q) := by
  have e1 : tcells (p ++ t :: q) = tcells p ++ (tcell t ++ tcells q) := by simp [tcells]
  have e2 : tcells (p ++ ⟨t.kind, t.text, x⟩ :: q) = tcells p ++ (tcell ⟨t.kind, t.text, x⟩ ++ tcells q) := by simp [tcells]
  rw [e1, e2, List.set_append_right _ _ (by rw [tcells_len]; omega), tcells_len, show p.length * 3 + 2 - p.length * 3 = 2 by omega]
  rfl
theorem take_snoc_at {ts : List Tk.Tok} {k : Nat} {t : Tk.Tok} (h : ts[k]? = some t) : ts.take (k + 1) = ts.take k ++ [t] := by rw [List.take_add_one, h]; rfl
theorem drop_at {ts : List Tk.Tok} {k : Nat} {t : Tk.Tok} (h : ts[k]? = some t) : ts.drop k = t :: ts.drop (k + 1) := by
  have h1 := List.getElem?_eq_some_iff.1 h
  obtain ⟨h2, h3⟩ := h1
  rw [List.drop_eq_getElem_cons h2, h3]
theorem AW.next {w W : World} {base g n cap : Nat} {b : List UInt8} {ts : List Tk.Tok} {k : Nat} {all all' : ByteArray} {t : Tk.Tok} (h : AW w base (.slice (some ⟨g, 0, none⟩) n cap) b ts k all W) (hw : w.heap.size ≤ base) (hk : ts[k]? = some t)
    (ha : all'.data.toList = all.data.toList ++ (t.text ++ b)) : AW w base (.slice (some ⟨g, 0, none⟩) n cap) b ts (k + 1) all' (W.setCell ⟨g, k * 3 + 2, none⟩ (.int .i64 (all.size : Int))) := by
  have hkl : k ≤ ts.length := Nat.le_of_lt (List.getElem?_eq_some_iff.1 hk).1
  have hp : (Tk.re b.length 0 (ts.take k)).length = k := by rw [Tk.re_len, List.length_take, Nat.min_eq_left hkl]
  have hown := h.own
  rw [drop_at hk] at hown
  have hle := hown.base_le (g := g) (by rfl)
  refine ⟨h.bel.setCell (by show w.heap.size ≤ g; omega) _, ?_, ?_⟩
  · have hlen : (Tk.re b.length 0 (ts.take k) ++ t :: ts.drop (k + 1)).length = (Tk.re b.length 0 (ts.take (k + 1)) ++ ts.drop (k + 1)).length := by
      rw [take_snoc_at hk, Tk.re_snoc]; simp
    have hst : (W.setCell ⟨g, k * 3 + 2, none⟩ (.int .i64 (all.size : Int))).ownsRow base 28 3 (.slice (some ⟨g, 0, none⟩) n cap) (Tk.re b.length 0 (ts.take k) ++ t :: ts.drop (k + 1)).length ((tcells (Tk.re b.length 0 (ts.take k) ++ t :: ts.drop (k + 1))).set (k * 3 + 2) (.int .i64 (all.size : Int))) := by
      have hn : n = (Tk.re b.length 0 (ts.take k) ++ t :: ts.drop (k + 1)).length := by
        rcases hown.2 with ⟨e, _⟩ | ⟨g', cap', cur, e, _⟩
        · cases e
        · simp only [Value.slice.injEq] at e; exact e.2.1
      subst hn
      exact (World.ownsRow.stored hown (k * 3 + 2) (.int .i64 (all.size : Int))).1
    have hsz : all.size = 0 + (Tk.cat b (ts.take k)).length := by rw [size_list, h.all]; simp
    have hcs := tcells_set (Tk.re b.length 0 (ts.take k)) (ts.drop (k + 1)) t all.size
    rw [hp] at hcs
    rw [hcs, hlen] at hst
    unfold TFresh
    have e3 : Tk.re b.length 0 (ts.take k) ++ ⟨t.kind, t.text, all.size⟩ :: ts.drop (k + 1) = Tk.re b.length 0 (ts.take (k + 1)) ++ ts.drop (k + 1) := by
      rw [take_snoc_at hk, Tk.re_snoc, ← hsz]; simp
    rw [e3] at hst
    exact hst
  · rw [ha, h.all, take_snoc_at hk, Tk.cat_snoc]

set_option maxRecDepth 100000 in
set_option maxHeartbeats 8000000 in
theorem again_near {s : ByteArray} {n : Nat} {w : World} (hT : HasTab w) (hs : s.size ≤ 5000) (hn : n < 256) :
    Calls Tryd.prog 4 #[.string s, .int .u8 (n : Int)] w fun e w' => e = .returned (.bool true) ∧ Below w.heap.size w w' := by
  have hlt := hT.lt
  have HT := Lib.hid hT
  have d1 : decide ((5000 : Int) < (s.size : Int)) = false := by simp; omega
  obtain ⟨ts, x, hR⟩ := Tk.Rd.total _ s.data.toList 0 (Nat.le_refl _)
  have HR := Lib.hid hR
  clear hT hR
  cases x with
  | some p =>
    go_enter Tryd.func4, Tryd.ntmps4
    go_wp2_with fail
    refine (alive_any HT.out).mono ?_
    rintro e w1 ⟨rfl, b1⟩
    have B1 := Lib.hid b1
    clear b1
    go_wp2_with fail
    refine (read_any (by omega) (HT.out.below B1.out hlt) HR.out).mono ?_
    rintro e w2 ⟨rfl, b2⟩
    have B2 := Lib.hid (then_below B1.out b2)
    clear b2
    go_wp2_with fail
    go_ret
    exact ⟨rfl, B2.out⟩
  | none =>
    obtain ⟨N, hN⟩ : ∃ N, N = ts.length := ⟨_, rfl⟩
    have hNs : N ≤ s.size := by rw [hN, size_list]; exact HR.out.len
    have HN := Lib.hid hN
    obtain ⟨r, hr⟩ : ∃ r, r = n % 5 := ⟨_, rfl⟩
    have hr5 : r < 5 := by omega
    have hri : (n : Int) % 5 = (r : Int) := by omega
    obtain ⟨b, hb⟩ : ∃ b : ByteArray, b = ⟨(Tk.bl r).toArray⟩ := ⟨_, rfl⟩
    have hbz : b.size ≤ 5 := by
      have := Tk.bl_len r
      rw [hb]; exact this
    have hbl : b.data.toList = Tk.bl r := by rw [hb]
    have hget := bls_at r hr5
    rw [← hb] at hget
    unfold bls at hget
    have hgv : ∀ h, ([.string ⟨#[32]⟩, .string ⟨#[9]⟩, .string ⟨#[10]⟩, .string ⟨#[13]⟩, .string ⟨#[32, 35, 32, 120, 10]⟩] : List Value)[r]'h = .string b := fun h => by
      rw [Array.getElem?_eq_getElem (by simpa using h)] at hget
      simpa using hget
    have HGV := Lib.hid hgv
    clear hget hgv
    have hcat := Tk.cat_le (Tk.bl r) HR.out
    have hbl5 := Tk.bl_len r
    have hcat2 : (Tk.cat (Tk.bl r) ts).length ≤ 30000 := by
      rw [← size_list, ← hN] at hcat
      have : (Tk.bl r).length * N ≤ 5 * N := Nat.mul_le_mul_right _ hbl5
      omega
    have HC := Lib.hid hcat2
    have HBL := Lib.hid hbl
    clear hN hr hb hbl hcat hcat2 hbl5
    go_enter Tryd.func4, Tryd.ntmps4
    go_wp2_with fail
    refine (alive_any HT.out).mono ?_
    rintro e w1 ⟨rfl, b1⟩
    have B1 := Lib.hid b1
    have hw1 := b1.size
    clear b1
    go_wp2_with fail
    refine (read_any (by omega) (HT.out.below B1.out hlt) HR.out).mono ?_
    rintro e w2 ⟨v, rfl, g2, b2⟩
    have B2 := Lib.hid (then_below B1.out b2)
    have GF := Lib.hid g2
    clear b2 g2
    have r0 : (0 : Int) ≤ (r : Int) := by omega
    have r1 : (r : Int) < 5 := by omega
    obtain ⟨a, cap, rfl, _⟩ := GF.out.reads
    try rw [← HN.out]
    go_wp2_with fail
    have HAW : Hid (AW w w1.heap.size (.slice a N cap) (Tk.bl r) ts 0 ⟨#[]⟩ (w2.alloc (.cells #[.string ⟨#[32]⟩, .string ⟨#[9]⟩, .string ⟨#[10]⟩, .string ⟨#[13]⟩, .string ⟨#[32, 35, 32, 120, 10]⟩] 9))) := Lib.hid ⟨B2.out.alloc B2.out.size _, by
      have := (GF.out).alloc (.cells #[.string ⟨#[32]⟩, .string ⟨#[9]⟩, .string ⟨#[10]⟩, .string ⟨#[13]⟩, .string ⟨#[32, 35, 32, 120, 10]⟩] 9)
      rw [← HN.out] at this
      simpa [Tk.re] using this, by simp [Tk.cat]⟩
    clear hri
    simp only [HGV.out]
    go_loopg [9, 10] N (fun g all i wx => ∃ (k : Nat) (A : ByteArray), k + g = N ∧ i = .int .i64 (k : Int) ∧ all = .string A ∧ AW w w1.heap.size (.slice a N cap) (Tk.bl r) ts k A wx)
    case atStart => exact ⟨0, ⟨#[]⟩, by omega, rfl, rfl, HAW.out⟩
    case round =>
      obtain ⟨k, A, hkg, rfl, rfl, hA⟩ := hrel
      have HA := Lib.hid hA
      clear hA
      have hAz : A.size ≤ 30000 := by
        have := Tk.cat_take (Tk.bl r) ts k
        have := HC.out
        rw [size_list, HA.out.all]; omega
      by_cases hk : k < N
      · obtain ⟨t0, ht0⟩ : ∃ t0, ts[k]? = some t0 := ⟨_, List.getElem?_eq_getElem (by rw [← HN.out]; exact hk)⟩
        have hown := HA.out.own
        obtain ⟨ga, ea⟩ : ∃ ga, a = some ⟨ga, 0, none⟩ := by
          rcases hown.2 with ⟨e, e2⟩ | ⟨g', cap', cur, e, _⟩
          · simp only [Value.slice.injEq] at e; omega
          · simp only [Value.slice.injEq] at e; exact ⟨g', e.1⟩
        subst ea
        have hkl : k ≤ ts.length := by rw [← HN.out]; omega
        have hat : (Tk.re (Tk.bl r).length 0 (ts.take k) ++ ts.drop k)[k]? = some t0 := by
          rw [List.getElem?_append_right (by rw [Tk.re_len, List.length_take]; omega), Tk.re_len, List.length_take, Nat.min_eq_left hkl, Nat.sub_self, drop_at ht0]
          rfl
        have hln : N = (Tk.re (Tk.bl r).length 0 (ts.take k) ++ ts.drop k).length := by
          rw [List.length_append, Tk.re_len, List.length_take, List.length_drop, ← HN.out]; omega
        have hfr := hown.frozen (k * 3 + 2)
        obtain ⟨a', cap', e', hcc⟩ := hown.reads
        simp only [Value.slice.injEq] at e'
        obtain ⟨rfl, -, rfl⟩ := e'
        obtain ⟨b', e', hb', hcc⟩ := hcc (by intro e; rw [e] at hat; cases hat)
        simp only [Option.some.injEq, Addr.mk.injEq, and_true] at e'
        subst e'
        have c1 := hcc k t0 hat 1 (by omega)
        have c2 := hcc k t0 hat 2 (by omega)
        simp only [tcell, List.getElem?_cons_zero, List.getElem?_cons_succ] at c1 c2
        obtain ⟨tx, htx⟩ : ∃ tx : ByteArray, tx = ⟨t0.text.toArray⟩ := ⟨_, rfl⟩
        rw [← htx] at c1
        have hz3 : A.size + (tx.size + b.size) ≤ 30000 := by
          have h1 := Tk.cat_take (Tk.bl r) ts (k + 1)
          have h2 := HC.out
          rw [take_snoc_at ht0, Tk.cat_snoc, List.length_append, List.length_append, ← HA.out.all, ← HBL.out, ← size_list, ← size_list] at h1
          rw [← HBL.out] at h2
          have h3 : tx.size = t0.text.length := by rw [htx]; rfl
          omega
        obtain ⟨A1, hA1⟩ : ∃ A1, A1 = A ++ tx := ⟨_, rfl⟩
        obtain ⟨A2, hA2⟩ : ∃ A2, A2 = A1 ++ b := ⟨_, rfl⟩
        have s1 : ∀ W, (Op.stringOp .add A tx).run Tryd.prog W = .ok (.string A1) W := fun W => by rw [hA1]; exact run_string_add_sum W _ _ (by omega)
        have hA1z : A1.size = A.size + tx.size := by rw [hA1, ByteArray.size_append]
        have s2 : ∀ W, (Op.stringOp .add A1 b).run Tryd.prog W = .ok (.string A2) W := fun W => by rw [hA2]; exact run_string_add_sum W _ _ (by omega)
        have hnx := HA.out.next hw1 ht0 (all' := A2) (by rw [hA2, hA1, htx, ByteArray.data_append, ByteArray.data_append, Array.toList_append, Array.toList_append, HBL.out]; simp)
        have HNX := Lib.hid hnx
        clear hcc hat hown hln hkl htx hA1 hA2 hnx hz3 hA1z ht0
        have q0 : (0 : Int) ≤ (k : Int) := by omega
        have q1 : (k : Int) < (N : Int) := by omega
        go_wp2_with fail
        go_roundg (N - (k + 1))
        case measure => omega
        case rel => exact ⟨k + 1, A2, by omega, by first | rfl | simp, rfl, HNX.out⟩
      · have hkN : k = N := by omega
        have hT2 : ts.take k = ts := List.take_of_length_le (by rw [← HN.out]; omega)
        have hD2 : ts.drop k = [] := List.drop_of_length_le (by rw [← HN.out]; omega)
        have hall := HA.out.all
        have hown := HA.out.own
        rw [hT2] at hall hown
        rw [hD2, List.append_nil] at hown
        have hrd := HR.out.blanked r
        rw [← hall] at hrd
        have HRD := Lib.hid hrd
        have GO := Lib.hid hown.reads
        have hlx : (Tk.re (Tk.bl r).length 0 ts).length ≤ 1000000 := by rw [Tk.re_len, ← HN.out]; omega
        clear hall hown hrd hT2 hD2
        go_wp2_with fail
        refine (read_any (by omega) (HT.out.below HA.out.bel hlt) HRD.out).mono ?_
        rintro e w4 ⟨vm, rfl, g4, b4⟩
        have B4 := Lib.hid (then_below HA.out.bel b4)
        have G4 := Lib.hid g4.reads
        have GO4 := Lib.hid (GO.out.below b4)
        clear b4 g4 GO
        go_wp2_with (go_at_call 11; refine (same_yes G4.out GO4.out hlx).mono ?_; rintro e w6 ⟨rfl, nq, rfl⟩)
        go_ret
        exact ⟨rfl, below_drewN B4.out nq⟩

theorem again_any {s : ByteArray} {x : Int} {w : World} (hT : HasTab w) (hx : (Lit.int .u8 x).wf = true) :
    Calls Tryd.prog 4 #[.string s, .int .u8 x] w fun e w' => e = .returned (.bool true) ∧ Below w.heap.size w w' := by
  by_cases h : s.size ≤ 5000
  · simp [Lit.wf, IntKind.min, IntKind.max, IntKind.signed, IntKind.bits] at hx
    obtain ⟨n, rfl⟩ : ∃ n : Nat, x = (n : Int) := ⟨x.toNat, by omega⟩
    exact again_near hT h (by omega)
  · exact again_far hT (by omega)
end Go.Proofs.YtfnblnemdepimaaDoor
