/- Ledgers: who is found. -/
import Derived.Test.YtegfjndlkjfepaaLgT
namespace Go.Proofs.Ytegfjndlkjfepaa
open Go Go.Proofs Go.RowKit Go.Shelf
set_option linter.unusedVariables false
set_option maxRecDepth 100000

attribute [local go_sem] Oper.semAt_some
theorem below_drewN {B : Nat} {w W : World} (h : Below B w W) (n : Nat) : Below B w (W.drewN n) := ⟨h.os, h.tape, h.output, h.size, h.block⟩
set_option maxHeartbeats 2000000 in
theorem sought_any {W : World} {b p : Nat} {t : Ten} {x : Int} {nm : ByteArray} (h : W.heap[b]? = some (acell t x)) (hc : W.cell? ⟨p, 0, none⟩ = some (.string nm)) :
    Calls Try.prog 31 #[.pointer (some ⟨b, 0, none⟩), .pointer (some ⟨p, 0, none⟩)] W fun e W' => e = .returned (.bool (decide (t.n = nm))) ∧ Below W.heap.size W W' := by
  have c0 := ac0 h
  have e0 := str_eq t.n nm
  obtain ⟨n, hn⟩ : ∃ n, n = t.n := ⟨_, rfl⟩
  rw [← hn] at c0 e0 ⊢
  clear h hn
  go_enter Try.func31, Try.ntmps31
  go_wp2
  go_quiet (fail)
  go_wp2
  go_ret
  exact ⟨rfl, below_drewN (Below.refl _ _) _⟩
def findT : Nat → List Ten → ByteArray → Option (Nat × Ten)
  | _, [], _ => none
  | k, t :: r, nm => if t.n = nm then some (k, t) else findT (k + 1) r nm
theorem findT_some {nm : ByteArray} {t : Ten} : ∀ (ts : List Ten) (k i : Nat), ts[i]? = some t → t.n = nm → (∀ (j : Nat) (u : Ten), j < i → ts[j]? = some u → u.n ≠ nm) → findT k ts nm = some (k + i, t)
  | [], k, i, h, _, _ => by simp at h
  | u :: r, k, 0, h, hn, _ => by
    simp at h
    subst h
    simp [findT, hn]
  | u :: r, k, i + 1, h, hn, hl => by
    have h0 := hl 0 u (by omega) rfl
    unfold findT
    rw [if_neg h0, findT_some r (k + 1) i (by simpa using h) hn (fun j v hj hv => hl (j + 1) v (by omega) (by simpa using hv))]
    congr 2
    omega
theorem findT_none {nm : ByteArray} : ∀ (ts : List Ten) (k : Nat), (∀ (j : Nat) (u : Ten), ts[j]? = some u → u.n ≠ nm) → findT k ts nm = none
  | [], _, _ => rfl
  | u :: r, k, h => by
    unfold findT
    rw [if_neg (h 0 u rfl), findT_none r (k + 1) (fun j v hv => h (j + 1) v (by simpa using hv))]
def fnF (p : Nat) : Value := .func (.func 31) #[] #[.pointer (some ⟨p, 0, none⟩)]
def firstV (bl : Nat → Nat) : Option (Nat × Ten) → Value
  | some (i, t) => .tuple #[.pointer (some ⟨bl i, 0, none⟩), .int .i64 (i : Int), .bool true]
  | none => .tuple #[.pointer none, .int .i64 0, .bool false]
section
variable {W : World} {P base M p : Nat} {bl : Nat → Nat} {ts : List Ten} {lf : List Int} {nm : ByteArray}
set_option maxHeartbeats 4000000 in
theorem first_any (h : LM W P base M bl ts lf) (hl : ts.length ≤ 16) (hc : W.cell? ⟨p, 0, none⟩ = some (.string nm)) (hp : p < W.heap.size) :
    Calls Try.prog 30 #[.map (some M), fnF p] W fun e W' => e = .returned (firstV bl (findT 0 ts nm)) ∧ Below W.heap.size W W' := by
  obtain ⟨N, hN⟩ : ∃ N, N = ts.length := ⟨_, rfl⟩
  have HN := Lib.hid hN
  have HM := Lib.hid h
  have HC := Lib.hid hc
  have hlen := pm_len h.map
  obtain ⟨F, hF⟩ : ∃ F, F = firstV bl (findT 0 ts nm) := ⟨_, rfl⟩
  have HF := Lib.hid hF
  rw [← hF]
  rw [← hN] at hlen hl
  clear h hc hN hF
  unfold fnF
  go_enter Try.func30, Try.ntmps30
  go_wp2
  clear hlen
  go_loopg [12] N (fun g s12 wr => ∃ k : Nat, k + g = N ∧ s12 = .int .i64 (k : Int) ∧ Hid (∀ (j : Nat) (x : Ten), j < k → ts[j]? = some x → x.n ≠ nm) ∧ Hid (Below W.heap.size W wr))
  case atStart => exact ⟨0, by omega, rfl, Lib.hid fun j x hj => by omega, Lib.hid (Below.refl _ _)⟩
  case round =>
    obtain ⟨k, hk, rfl, HNO, HW⟩ := hrel
    by_cases hlt : k < N
    · have hM : LM wr P base M bl ts lf := HM.out.keep fun b hb => HW.out.block b (HM.out.lt hb).2
      obtain ⟨t, ht⟩ : ∃ t, ts[k]? = some t := ⟨_, List.getElem?_eq_getElem (by have := HN.out; omega)⟩
      obtain ⟨x, _, hac⟩ := hM.acc k t ht
      have k0 := at_yes (k := (k : Int)) hM.map (by have := HN.out; omega) (kOK_nat (by omega))
      rw [Int.toNat_natCast] at k0
      have K0 := Lib.hid k0
      have K1 := Lib.hid (sought_any hac ((HW.out.cell (p := ⟨p, 0, none⟩) hp).trans HC.out))
      have n1 : (k : Int) < (N : Int) := by omega
      have w2 : IntKind.i64.wrap ((k : Int) + 1) = ((k + 1 : Nat) : Int) := IntWalk.i64_in _ (by omega)
      have HT := Lib.hid ht
      clear hac hM ht k0
      go_wp2_with fail
      refine K0.out.mono ?_
      rintro e w1 ⟨rfl, rfl⟩
      go_wp2_with fail
      refine K1.out.mono ?_
      rintro e w1 ⟨rfl, b1⟩
      have B1 := Lib.hid (HW.out.trans (b1.mono HW.out.size))
      clear b1 K0 K1
      by_cases hq : t.n = nm
      · have hq' := decide_eq_true hq
        rw [hq']
        have HQ := Lib.hid hq
        clear hq hq'
        go_wp2
        go_ret3
        refine ⟨?_, B1.out⟩
        rw [HF.out, findT_some ts 0 k HT.out HQ.out HNO.out, Nat.zero_add]
        rfl
      · have hq' := decide_eq_false hq
        rw [hq']
        have HQ := Lib.hid hq
        clear hq hq'
        go_wp2
        go_roundg (N - (k + 1))
        case measure => omega
        case rel =>
          refine ⟨k + 1, by omega, by first | rfl | simp, Lib.hid fun j y hj hy => ?_, B1⟩
          by_cases hjk : j = k
          · subst hjk
            rw [HT.out] at hy
            cases hy
            exact HQ.out
          · exact HNO.out j y (by omega) hy
    · have n1 : ¬ (k : Int) < (N : Int) := by omega
      go_wp2
      go_ret3
      refine ⟨?_, HW.out⟩
      rw [HF.out, findT_none ts 0 fun j x hj => HNO.out j x (by have := (List.getElem?_eq_some_iff.1 hj).1; have := HN.out; omega) hj]
      rfl
end
theorem results_cell_two {fn : Func} {p u v : Tmp} {ty : TypeId} (h : fn.results = #[.cell p ty, .tmp u, .tmp v]) (tmps : Array Value) (w : World) (g : Nat) (t : TypeId) (cs : Array Value) (fr : Nat × Nat) (fs : Array Field)
    (hp : tmps.getD p undef = .pointer (some ⟨g, 0, none⟩)) (hg : w.heap[g]? = some (.cells cs t fr)) (hu : Try.prog.underlying ty = some (.struct fs)) (hi : (Try.prog.info? ty).map (·.size) = some cs.size) :
    (results fn tmps).run Try.prog w = .ok (.tuple #[.agg cs, tmps.getD u undef, tmps.getD v undef]) w := by
  have hp' : tmps[p]?.getD undef = .pointer (some ⟨g, 0, none⟩) := by simpa using hp
  simp [results, h, hp', asAddr, run_loadVar_row w g t ty cs fr (.struct fs) hg hu rfl hi]
/-- what Find answers -/
def findV : Option (Nat × Ten) → Value
  | some (i, t) => .tuple #[.agg #[.string t.n, .string t.k, .int .i64 t.r], .int .i64 (i : Int), .int .i64 0]
  | none => .tuple #[.agg #[.string ⟨#[]⟩, .string ⟨#[]⟩, .int .i64 0], .int .i64 0, .int .i64 6]
theorem findT_mem {nm : ByteArray} : ∀ (ts : List Ten) (k : Nat) {i : Nat} {t : Ten}, findT k ts nm = some (i, t) → k ≤ i ∧ ts[i - k]? = some t ∧ t.n = nm
  | [], _, _, _, h => by cases h
  | u :: r, k, i, t, h => by
    unfold findT at h
    split at h
    · rename_i hn
      cases h
      exact ⟨Nat.le_refl _, by simp, hn⟩
    · obtain ⟨h1, h2, h3⟩ := findT_mem r (k + 1) h
      refine ⟨by omega, ?_, h3⟩
      rw [show i - k = (i - (k + 1)) + 1 by omega, List.getElem?_cons_succ]
      exact h2
section
variable {W : World} {P base : Nat} {own : Nat → Prop} {ts : List Ten} {lf : List Int} {nm : ByteArray}
set_option maxHeartbeats 4000000 in
theorem lfind_any (h : LD W P base own ts lf) : Calls Try.prog 16 #[.pointer (some ⟨P, 0, none⟩), .string nm] W fun e W' => e = .returned (findV (findT 0 ts nm)) ∧ Below W.heap.size W W' := by
  obtain ⟨⟨M, bl, hm, ho⟩, hlen, hmay, _⟩ := h
  have HM := Lib.hid hm
  have HY := Lib.hid hmay
  obtain ⟨W1, hW1⟩ : ∃ W1, W1 = ((W.alloc (.cells #[.string nm] 9)).alloc (.cells #[.string ⟨#[]⟩, .string ⟨#[]⟩, .int .i64 0] 32)) := ⟨_, rfl⟩
  have b1 : Below W.heap.size W W1 := by rw [hW1]; exact ((Below.refl _ _).alloc (Nat.le_refl _) _).alloc (by simp) _
  have cn : W1.cell? ⟨W.heap.size, 0, none⟩ = some (.string nm) := by
    rw [hW1]
    exact ((Below.refl (W.heap.size + 1) (W.alloc (.cells #[.string nm] 9))).alloc (by simp) (.cells #[.string ⟨#[]⟩, .string ⟨#[]⟩, .int .i64 0] 32)).cell (p := ⟨W.heap.size, 0, none⟩) (by simp) |>.trans (al_cell W _ _ 0)
  have hres : W1.heap[W.heap.size + 1]? = some (.cells #[.string ⟨#[]⟩, .string ⟨#[]⟩, .int .i64 0] 32) := by
    rw [hW1]
    have := heap_alloc_new (W.alloc (.cells #[.string nm] 9)) (.cells #[.string ⟨#[]⟩, .string ⟨#[]⟩, .int .i64 0] 32)
    simpa using this
  have hm1 : LM W1 P base M bl ts lf := hm.keep fun b hb => b1.block b (hm.lt hb).2
  have c0 := hm1.c0
  have HM1 := Lib.hid hm1
  have HB1 := Lib.hid b1
  have HRES := Lib.hid hres
  have hs1 : W.heap.size + 1 < W1.heap.size := (Array.getElem?_eq_some_iff.1 hres).1
  obtain ⟨X, hX⟩ : ∃ X, X = findT 0 ts nm := ⟨_, rfl⟩
  have HX := Lib.hid hX
  rw [← hX]
  have K0 := Lib.hid (made_yes hm1)
  have k1 := first_any (nm := nm) hm1 hmay.few.2 cn (by omega)
  rw [← hX] at k1
  have K1 := Lib.hid k1
  clear k1 hX hm hm1 b1 hres ho hlen hmay cn
  go_enter Try.func16, Try.ntmps16
  go_wp2_with fail
  rw [← hW1]
  clear hW1
  refine K0.out.mono ?_
  rintro e w1 ⟨rfl, rfl⟩
  go_wp2_with fail
  refine K1.out.mono ?_
  rintro e w2 ⟨rfl, b2⟩
  have B2 := Lib.hid (HB1.out.trans (b2.mono HB1.out.size))
  have hres : w2.heap[W.heap.size + 1]? = some (.cells #[.string ⟨#[]⟩, .string ⟨#[]⟩, .int .i64 0] 32) := (b2.block _ hs1).trans HRES.out
  have HR2 := Lib.hid hres
  have HS2 := Lib.hid b2.size
  clear b2 K0 K1 hres c0
  cases X with
  | none =>
    dsimp only [firstV]
    have d0 : w2.cell? ⟨W.heap.size + 1, 0, none⟩ = some (.string ⟨#[]⟩) := by unfold World.cell?; rw [HR2.out]; rfl
    have d1 : w2.cell? ⟨W.heap.size + 1, 1, none⟩ = some (.string ⟨#[]⟩) := by unfold World.cell?; rw [HR2.out]; rfl
    have d2 : w2.cell? ⟨W.heap.size + 1, 2, none⟩ = some (.int .i64 0) := by unfold World.cell?; rw [HR2.out]; rfl
    have g0 : w2.frozen? ⟨W.heap.size + 1, 0, none⟩ = false := by unfold World.frozen?; rw [HR2.out]; simp
    have g1 : w2.frozen? ⟨W.heap.size + 1, 1, none⟩ = false := by unfold World.frozen?; rw [HR2.out]; simp
    have g2 : w2.frozen? ⟨W.heap.size + 1, 2, none⟩ = false := by unfold World.frozen?; rw [HR2.out]; simp
    go_wp2
    have e := heap_setCell_same _ (W.heap.size + 1) 2 _ _ (.int .i64 0) (heap_setCell_same _ (W.heap.size + 1) 1 _ _ (.string ⟨#[]⟩) (heap_setCell_same w2 (W.heap.size + 1) 0 _ _ (.string ⟨#[]⟩) HR2.out))
    refine bodyPost_ret (results_cell_two rfl _ _ (W.heap.size + 1) 32 #[.string ⟨#[]⟩, .string ⟨#[]⟩, .int .i64 0] (0, 0) _ rfl (e.trans rfl) Try.underlying32 size_ten) rfl ?_
    exact ⟨rfl, ((B2.out.setCell (by simp) _).setCell (by simp) _).setCell (by simp) _⟩
  | some y =>
    obtain ⟨i, t⟩ := y
    obtain ⟨_, ht, hn⟩ := findT_mem ts 0 HX.out.symm
    rw [Nat.sub_zero] at ht
    obtain ⟨x, _, hac⟩ := HM.out.acc i t ht
    have hac2 := (B2.out.block _ (Array.getElem?_eq_some_iff.1 hac).1).trans hac
    have c0 := ac0 hac2
    have c1 := ac1 hac2
    have c2 := ac2 hac2
    have hsz := tenB_sizes (HY.out.each i t ht).1
    have K2 := Lib.hid (fun w => lown_any t w (by omega) (by omega))
    dsimp only [firstV]
    clear hac hac2 ht hn hsz
    obtain ⟨n, y, r⟩ := t
    go_wp2_with fail
    refine (K2.out _).mono ?_
    rintro e w3 ⟨rfl, b3⟩
    have B3 := Lib.hid (B2.out.trans (b3.mono B2.out.size))
    have HR3 := Lib.hid ((b3.block _ (by have := HS2.out; omega)).trans HR2.out)
    clear b3 K2 c0 c1 c2
    have d0 : w3.cell? ⟨W.heap.size + 1, 0, none⟩ = some (.string ⟨#[]⟩) := by unfold World.cell?; rw [HR3.out]; rfl
    have d1 : w3.cell? ⟨W.heap.size + 1, 1, none⟩ = some (.string ⟨#[]⟩) := by unfold World.cell?; rw [HR3.out]; rfl
    have d2 : w3.cell? ⟨W.heap.size + 1, 2, none⟩ = some (.int .i64 0) := by unfold World.cell?; rw [HR3.out]; rfl
    have g0 : w3.frozen? ⟨W.heap.size + 1, 0, none⟩ = false := by unfold World.frozen?; rw [HR3.out]; simp
    have g1 : w3.frozen? ⟨W.heap.size + 1, 1, none⟩ = false := by unfold World.frozen?; rw [HR3.out]; simp
    have g2 : w3.frozen? ⟨W.heap.size + 1, 2, none⟩ = false := by unfold World.frozen?; rw [HR3.out]; simp
    go_wp2
    have e := heap_setCell_same _ (W.heap.size + 1) 2 _ _ (.int .i64 r) (heap_setCell_same _ (W.heap.size + 1) 1 _ _ (.string y) (heap_setCell_same w3 (W.heap.size + 1) 0 _ _ (.string n) HR3.out))
    refine bodyPost_ret (results_cell_two rfl _ _ (W.heap.size + 1) 32 #[.string n, .string y, .int .i64 r] (0, 0) _ rfl (e.trans rfl) Try.underlying32 size_ten) rfl ?_
    exact ⟨rfl, ((B3.out.setCell (by simp) _).setCell (by simp) _).setCell (by simp) _⟩
end
end Go.Proofs.Ytegfjndlkjfepaa
