/- Ledgers: LedgersPlays: whatever is done. -/
import Derived.Test.YtegfjndlkjfepaaLgTw
import Derived.Test.YtegfjndlkjfepaaLgAt
namespace Go.Proofs.Ytegfjndlkjfepaa
open Go Go.Proofs Go.RowKit Go.Shelf
set_option linter.unusedVariables false
set_option linter.unusedSimpArgs false
set_option maxRecDepth 100000

attribute [local go_sem] Oper.semAt_some
/-- both ledgers, the twin's row apart from them -/
structure PI (w W : World) (P X Q G Y g : Nat) (own : Nat → Prop) (la : Value) (ts : List Ten) (lf lg : List Int) : Prop where
  l : LD W P X own ts lf
  r : RM w W Q G Y la ts lg
  x : w.heap.size ≤ X
  y : w.heap.size ≤ Y
  z : w.heap.size ≤ g
  d : ∀ b, own b → ¬ ROwn Q G b
  ng : ¬ own g
  nr : ¬ ROwn Q G g
def PE (w W : World) (P X Q G Y g : Nat) (own : Nat → Prop) (la : Value) (ts : List Ten) : Prop := ∃ lf, PI w W P X Q G Y g own la ts lf lf
def PQ (w W : World) (P X Q G Y g : Nat) (own : Nat → Prop) (la : Value) (ts : List Ten) : Prop := ∃ lf lg, PI w W P X Q G Y g own la ts lf lg
section
variable {w W W' : World} {P X Q G Y g o : Nat} {own : Nat → Prop} {la : Value} {ts : List Ten} {lf lg lh : List Int}
theorem PI.bel (h : PI w W P X Q G Y g own la ts lf lg) : Below w.heap.size w W := h.r.bel
theorem PI.below (h : PI w W P X Q G Y g own la ts lf lg) (hb : Below W.heap.size W W') : PI w W' P X Q G Y g own la ts lf lg :=
  ⟨h.l.below (B := 0) hb, h.r.below hb, h.x, h.y, h.z, h.d, h.ng, h.nr⟩
theorem PI.onL (h : PI w W P X Q G Y g own la ts lf lg) (hl : LD W' P X own ts lh) (hk : Kp W W' own) (hb : Below X W W') : PI w W' P X Q G Y g own la ts lh lg :=
  ⟨hl, h.r.keep (fun b hg => hk.2 b (h.r.blk hg).2 (fun ho => h.d b ho hg)) (h.r.bel.trans (hb.mono h.x)), h.x, h.y, h.z, h.d, h.ng, h.nr⟩
theorem PI.onR (h : PI w W P X Q G Y g own la ts lf lg) (hr : RM w W' Q G Y la ts lh) (hk : Kp W W' (ROwn Q G)) : PI w W' P X Q G Y g own la ts lf lh :=
  ⟨h.l.keep ⟨hk.1, fun b hb hn => hk.2 b hb (fun hr => hn (fun ho => h.d b ho hr))⟩, hr, h.x, h.y, h.z, h.d, h.ng, h.nr⟩
theorem PI.cell (h : PI w W P X Q G Y g own la ts lf lg) (i : Nat) (u : Value) : PI w (W.setCell ⟨g, i, none⟩ u) P X Q G Y g own la ts lf lg :=
  ⟨h.l.keep ⟨by simp [World.setCell], fun b hb hn => heap_setCell_other W _ b _ (fun e => hn (fun ho => h.ng (by rw [← (show b = g from e)]; exact ho)))⟩,
   h.r.keep (fun b hb => heap_setCell_other W _ b _ (fun e => h.nr (by rw [← (show b = g from e)]; exact hb))) (h.r.bel.setCell h.z _), h.x, h.y, h.z, h.d, h.ng, h.nr⟩
theorem PE.below (h : PE w W P X Q G Y g own la ts) (hb : Below W.heap.size W W') : PE w W' P X Q G Y g own la ts := by obtain ⟨lf, h⟩ := h; exact ⟨lf, h.below hb⟩
end
/-- the twin's rates are struck -/
structure PT (w W : World) (P X Q G Y g n : Nat) (own : Nat → Prop) (la : Value) (ts : List Ten) : Prop where
  p : PE w W P X Q G Y g own la ts
  row : ∃ cur : Array Value, W.heap[g]? = some (.cells cur 32 (0, 0)) ∧ (n + 1) * 3 ≤ cur.size
theorem PT.step {w W : World} {P X Q G Y g n : Nat} {own : Nat → Prop} {la : Value} {ts : List Ten} (h : PT w W P X Q G Y g n own la ts) (i : Nat) (u : Value) : PT w (W.setCell ⟨g, i, none⟩ u) P X Q G Y g n own la ts := by
  obtain ⟨⟨lf, hp⟩, cur, hc, hs⟩ := h
  exact ⟨⟨lf, hp.cell i u⟩, _, heap_setCell_same W g i _ _ u hc, by simpa using hs⟩
theorem zeros {lf : List Int} {n : Nat} (h1 : lf.length = n) (h2 : ∀ x ∈ lf, x = 0) : lf = List.replicate n 0 := List.eq_replicate_iff.2 ⟨h1, h2⟩
/-- an act's box stands beside them -/
structure PB (w W : World) (P X Q G Y g bx : Nat) (own : Nat → Prop) (la : Value) (ts : List Ten) (ac : Ac) (lf lg : List Int) : Prop where
  pi : PI w W P X Q G Y g own la ts lf lg
  b : W.heap[bx]? = some (.cells #[.int .u8 (ac.d : Int), .int .i64 ac.t, .int .i64 ac.n, .string ac.s] 51)
  n1 : ¬ own bx
  n2 : ¬ ROwn Q G bx
section
variable {w W W' : World} {P X Q G Y g bx : Nat} {own : Nat → Prop} {la : Value} {ts : List Ten} {ac : Ac} {lf lg lh : List Int}
theorem PB.lt (h : PB w W P X Q G Y g bx own la ts ac lf lg) : bx < W.heap.size := (Array.getElem?_eq_some_iff.1 h.b).1
theorem PB.c1 (h : PB w W P X Q G Y g bx own la ts ac lf lg) : W.cell? ⟨bx, 1, none⟩ = some (.int .i64 ac.t) := by unfold World.cell?; rw [h.b]; rfl
theorem PB.c2 (h : PB w W P X Q G Y g bx own la ts ac lf lg) : W.cell? ⟨bx, 2, none⟩ = some (.int .i64 ac.n) := by unfold World.cell?; rw [h.b]; rfl
theorem PB.c3 (h : PB w W P X Q G Y g bx own la ts ac lf lg) : W.cell? ⟨bx, 3, none⟩ = some (.string ac.s) := by unfold World.cell?; rw [h.b]; rfl
theorem PB.below (h : PB w W P X Q G Y g bx own la ts ac lf lg) (hb : Below W.heap.size W W') : PB w W' P X Q G Y g bx own la ts ac lf lg :=
  ⟨h.pi.below hb, (hb.block bx h.lt).trans h.b, h.n1, h.n2⟩
theorem PB.onL (h : PB w W P X Q G Y g bx own la ts ac lf lg) (hl : LD W' P X own ts lh) (hk : Kp W W' own) (hb : Below X W W') : PB w W' P X Q G Y g bx own la ts ac lh lg :=
  ⟨h.pi.onL hl hk hb, (hk.2 bx h.lt h.n1).trans h.b, h.n1, h.n2⟩
theorem PB.onR (h : PB w W P X Q G Y g bx own la ts ac lf lg) (hr : RM w W' Q G Y la ts lh) (hk : Kp W W' (ROwn Q G)) : PB w W' P X Q G Y g bx own la ts ac lf lh :=
  ⟨h.pi.onR hr hk, (hk.2 bx h.lt h.n2).trans h.b, h.n1, h.n2⟩
theorem PB.new (h : PI w W P X Q G Y g own la ts lf lg) (e : W' = W.alloc (.cells #[.int .u8 (ac.d : Int), .int .i64 ac.t, .int .i64 ac.n, .string ac.s] 51)) : PB w W' P X Q G Y g W.heap.size own la ts ac lf lg := by
  subst e
  exact ⟨h.below (alloc_below W _), heap_alloc_new W _, fun ho => by have := (h.l.blk ho).2; omega, fun hr => by have := (h.r.blk hr).2; omega⟩
theorem pb_spend (h : PB w W P X Q G Y g bx own la ts ac lf lf) (hk : kOK ac.t) : Calls Try.prog 13 #[.pointer (some ⟨P, 0, none⟩), .int .i64 ac.t, .int .i64 ac.n] W fun e W' => e = .returned (.int .i64 (spendE ts lf ac.t ac.n)) ∧ PB w W' P X Q G Y g bx own la ts ac (spendL ts lf ac.t ac.n) lf :=
  (lspend_any h.pi.l ac.n hk).mono fun e W' ⟨h1, h2, h3, h4⟩ => ⟨h1, h.onL h2 h3 h4⟩
theorem pb_rspend (h : PB w W P X Q G Y g bx own la ts ac (spendL ts lf ac.t ac.n) lf) : Calls Try.prog 23 #[.pointer (some ⟨Q, 0, none⟩), .int .i64 ac.t, .int .i64 ac.n] W fun e W' => e = .returned (.int .i64 (spendE ts lf ac.t ac.n)) ∧ PB w W' P X Q G Y g bx own la ts ac (spendL ts lf ac.t ac.n) (spendL ts lf ac.t ac.n) :=
  (rspend_any h.pi.r ac.t ac.n h.pi.y).mono fun e W' ⟨h1, h2, h3, h4⟩ => ⟨h1, h.onR h2 h3⟩
end
def PBq (w W : World) (P X Q G Y g bx : Nat) (own : Nat → Prop) (la : Value) (ts : List Ten) (ac : Ac) : Prop := ∃ lf lg, PB w W P X Q G Y g bx own la ts ac lf lg
theorem zero_neqP (W : World) : (binOp .neq 32 (.agg #[.string ⟨#[]⟩, .string ⟨#[]⟩, .int .i64 0]) (.agg #[.string ⟨#[]⟩, .string ⟨#[]⟩, .int .i64 0])).run Try.prog W = .ok (.bool false) W := by kernel_rfl
set_option maxHeartbeats 16000000 in
theorem lplays_all {w : World} {v u : Value} {ts : List Ten} {acs : List Ac} (h : Tens w v ts) (ha : Acts w u acs) :
    Calls Try.prog 8 #[v, u] w fun e w' => e = .returned (.bool true) ∧ Below w.heap.size w w' := by
  have HT := Lib.hid h
  have HSZ := Lib.hid (show ∀ t ∈ ts, t.n.size ≤ maxLen from fun t ht => by
    obtain ⟨j, hj⟩ := List.getElem?_of_mem ht
    obtain ⟨a, c, _, _, hrow⟩ := h
    obtain ⟨b, off, _, _, hc⟩ := hrow (by have := (List.getElem?_eq_some_iff.1 hj).1; omega)
    exact (hc j t hj).2.1)
  have HOK := Lib.hid (show ∀ t ∈ ts, t.ok from fun t ht => by
    obtain ⟨j, hj⟩ := List.getElem?_of_mem ht
    obtain ⟨a, c, _, _, hrow⟩ := h
    obtain ⟨b, off, _, _, hc⟩ := hrow (by have := (List.getElem?_eq_some_iff.1 hj).1; omega)
    exact (hc j t hj).2)
  obtain ⟨a, c, rfl, hlc, hrow⟩ := h
  obtain ⟨N, hN⟩ : ∃ N, N = ts.length := ⟨_, rfl⟩
  have HN := Lib.hid hN
  obtain ⟨ua, uc, rfl, hac, har⟩ := ha
  obtain ⟨A, hA⟩ : ∃ A, A = acs.length := ⟨_, rfl⟩
  have HA := Lib.hid hA
  have HAR := Lib.hid har
  rw [← hN] at hlc HT ⊢
  rw [← hA] at hac ⊢
  clear hN hrow hA har
  go_enter Try.func8, Try.ntmps8
  by_cases h300 : 300 < A
  · have l3 : (300 : Int) < (A : Int) := by omega
    go_wp2
    go_ret
    exact ⟨rfl, Below.refl _ _⟩
  have l3 : ¬ (300 : Int) < (A : Int) := by omega
  by_cases h100 : 100 < N
  · have l1 : (100 : Int) < (N : Int) := by omega
    go_wp2
    go_ret
    exact ⟨rfl, Below.refl _ _⟩
  have l1 : ¬ (100 : Int) < (N : Int) := by omega
  go_wp2_with fail
  refine (tsize_any HT.out (by have := HN.out; omega)).mono ?_
  rintro e w1 ⟨z, rfl, b1⟩
  have B1 := Lib.hid b1
  clear b1
  by_cases hz : 20000 < z
  · go_wp2
    go_ret
    exact ⟨rfl, B1.out⟩
  go_wp2_with fail
  have htw := twinT_any ts (.slice a N c) w1 (by have := HN.out; omega) (HT.out.below B1.out)
  refine htw.mono ?_
  rintro e w2 ⟨g, cc, rfl, hT, b2⟩
  rw [← HN.out]
  have T2 := Lib.hid hT
  have B2 := Lib.hid (B1.out.trans (b2.mono B1.out.size))
  have S12 := Lib.hid (show w.heap.size ≤ w1.heap.size ∧ w1.heap.size ≤ w2.heap.size from ⟨B1.out.size, b2.size⟩)
  clear hT b2 htw
  have HT2 := Lib.hid (show Tens w2 (.slice (some ⟨g, 0, none⟩) N cc) ts by rw [HN.out]; exact T2.out.tens HOK.out)
  by_cases hm : MayT ts
  case neg =>
    go_wp2_with fail
    refine (lnew_no HT2.out hm).mono ?_
    rintro e w3 ⟨rfl, b3⟩
    have B3 := Lib.hid (B2.out.trans (b3.mono B2.out.size))
    have T3 := Lib.hid (T2.out.below b3)
    clear b3
    go_wp2_with fail
    refine (rnew_no (HT.out.below B3.out) hm HSZ.out).mono ?_
    rintro e w4 ⟨rfl, b4⟩
    have B4 := Lib.hid (B3.out.trans (b4.mono B3.out.size))
    have hlf := leftT_any ts (.slice a N c) w4 (by have := HN.out; omega) (T3.out.below b4) (HT.out.below B4.out)
    rw [← HN.out] at hlf
    have HLF := Lib.hid hlf
    clear b4 hlf
    go_wp2_with fail
    refine HLF.out.mono ?_
    rintro e w5 ⟨rfl, b5⟩
    go_wp2
    go_ret
    exact ⟨rfl, B4.out.trans (b5.mono B4.out.size)⟩
  have HM := Lib.hid hm
  go_wp2_with fail
  refine (lnew_yes HT2.out hm).mono ?_
  rintro e w3 ⟨P, own, lf, rfl, hL, hz0, b3⟩
  obtain rfl := zeros hL.len hz0
  have L3 := Lib.hid hL
  have T3 := Lib.hid (T2.out.below b3)
  have B3 := Lib.hid (B2.out.trans (b3.mono B2.out.size))
  have S23 := Lib.hid b3.size
  clear hL hz0 b3
  go_wp2_with fail
  refine (rnew_yes (w0 := w) (HT.out.below B3.out) hm HSZ.out HT.out B3.out).mono ?_
  rintro e w4 ⟨Q, G, rfl, hR, b4⟩
  have B4 := Lib.hid (B3.out.trans (b4.mono B3.out.size))
  have T4 := Lib.hid (T3.out.below b4)
  have P4 := Lib.hid (show PI w w4 P w2.heap.size Q G w3.heap.size g own (.slice a N c) ts (List.replicate ts.length 0) (List.replicate ts.length 0) from by
    have hgc := T2.out.cap
    exact ⟨L3.out.below (B := 0) b4, hR, by have := S12.out; omega, by have := S12.out; have := S23.out; omega, by have := S12.out; omega,
      fun b ho hr => by have := (L3.out.blk ho).2; rcases hr with rfl | rfl <;> have := hR.lo <;> omega,
      fun ho => by have := (L3.out.blk ho).1; omega, fun hr => by have := S23.out; rcases hr with rfl | rfl <;> have := hR.lo <;> omega⟩)
  have hlf := leftT_any ts (.slice a N c) w4 (by have := HN.out; omega) T4.out (HT.out.below B4.out)
  rw [← HN.out] at hlf
  have HLF := Lib.hid hlf
  clear b4 hlf hR hm
  go_wp2_with fail
  refine HLF.out.mono ?_
  rintro e w5 ⟨rfl, b5⟩
  obtain ⟨cur, hcur, hcs⟩ := (T4.out.below b5).row
  obtain ⟨X, hX⟩ : ∃ X, X = w2.heap.size := ⟨_, rfl⟩
  obtain ⟨Y, hY⟩ : ∃ Y, Y = w3.heap.size := ⟨_, rfl⟩
  have P5 := Lib.hid (show PT w w5 P X Q G Y g N own (.slice a N c) ts from ⟨⟨_, by rw [hX, hY]; exact P4.out.below b5⟩, cur, hcur, by rw [HN.out]; exact hcs⟩)
  clear hcur hcs b5 HLF P4 T4 B4 L3 T3 B3 S23 T2 B2 S12 HT2 B1 hX hY
  have k0 : ((0 : Nat) : Int) = 0 := rfl
  go_wp2
  go_loopg [10] N (fun gg s10 wr => ∃ k : Nat, k + gg = N ∧ s10 = .int .i64 (k : Int) ∧ Hid (PT w wr P X Q G Y g N own (.slice a N c) ts))
  case atStart => exact ⟨0, by omega, rfl, P5⟩
  case round =>
    clear P5 k0
    obtain ⟨k, hk, rfl, HP⟩ := hrel
    by_cases hlt : k < N
    · have n0 : (0 : Int) ≤ (k : Int) := by omega
      have n1 : (k : Int) < (N : Int) := by omega
      have w2' : IntKind.i64.wrap ((k : Int) + 1) = ((k + 1 : Nat) : Int) := IntWalk.i64_in _ (by omega)
      obtain ⟨cur, hcur, hcs⟩ := HP.out.row
      obtain ⟨y, hy⟩ : ∃ y, wr.cell? ⟨g, k * 3 + 2, none⟩ = some y := by
        unfold World.cell?
        rw [hcur]
        exact ⟨cur[k * 3 + 2]'(by omega), by simp [show k * 3 + 2 < cur.size by omega]⟩
      have fy : wr.frozen? ⟨g, k * 3 + 2, none⟩ = false := by unfold World.frozen?; rw [hcur]; simp
      have HS := Lib.hid (HP.out.step (k * 3 + 2) (.int .i64 1))
      clear hcur hcs
      go_wp2
      go_roundg (N - (k + 1))
      case measure => omega
      case rel => exact ⟨k + 1, by omega, by first | rfl | simp, HS⟩
    · have n1 : ¬ (k : Int) < (N : Int) := by omega
      have HE := Lib.hid HP.out.p
      have k0 : ((0 : Nat) : Int) = 0 := rfl
      go_wp2
      clear HP
      go_loopg [11] A (fun gg s11 wr => ∃ k : Nat, k + gg = A ∧ s11 = .int .i64 (k : Int) ∧ Hid (PE w wr P X Q G Y g own (.slice a N c) ts))
      case atStart => exact ⟨0, by omega, rfl, HE⟩
      case round =>
        clear HE k0
        obtain ⟨i, hi, rfl, HP⟩ := hrel
        by_cases hia : i < A
        · obtain ⟨lf, hp⟩ := HP.out
          obtain ⟨ub, uo, rfl, hub, hcell⟩ := HAR.out (by have := HA.out; omega)
          obtain ⟨x, hx⟩ : ∃ x, acs[i]? = some x := ⟨_, List.getElem?_eq_getElem (by have := HA.out; omega)⟩
          obtain ⟨hat, hok⟩ := hcell i x hx
          obtain ⟨c0, c1, c2, c3⟩ := hat.below hub hp.bel
          have HKO := Lib.hid hok.2.1
          have hd := hok.1
          have n0 : (0 : Int) ≤ (i : Int) := by omega
          have n2 : (i : Int) < (A : Int) := by omega
          have w2' : IntKind.i64.wrap ((i : Int) + 1) = ((i + 1 : Nat) : Int) := IntWalk.i64_in _ (by omega)
          obtain ⟨W2, hW2⟩ : ∃ W2, W2 = wr.alloc (.cells #[.int .u8 (x.d : Int), .int .i64 x.t, .int .i64 x.n, .string x.s] 51) := ⟨_, rfl⟩
          have PB2 := Lib.hid (PB.new (ac := x) hp hW2)
          have x0 := al_cell wr #[.int .u8 (x.d : Int), .int .i64 x.t, .int .i64 x.n, .string x.s] 51 0
          have x1 := al_cell wr #[.int .u8 (x.d : Int), .int .i64 x.t, .int .i64 x.n, .string x.s] 51 1
          have x2 := al_cell wr #[.int .u8 (x.d : Int), .int .i64 x.t, .int .i64 x.n, .string x.s] 51 2
          have x3 := al_cell wr #[.int .u8 (x.d : Int), .int .i64 x.t, .int .i64 x.n, .string x.s] 51 3
          obtain ⟨bx, hbx⟩ : ∃ bx, bx = wr.heap.size := ⟨_, rfl⟩
          clear hcell hx hat hok hp
          obtain ⟨ad, at', an, as'⟩ := x
          have hm5 : ad % 5 < 5 := Nat.mod_lt _ (by decide)
          obtain ⟨m5, hm⟩ : ∃ m, m = ad % 5 := ⟨_, rfl⟩
          have hmI : (ad : Int) % 5 = (m5 : Int) := by omega
          rw [← hm] at hm5
          clear hm
          match m5, hm5, hmI with
          | 0, _, hmI =>
            have hmI : (ad : Int) % 5 = 0 := hmI
            go_wp2_with fail
            rw [← hW2]
            clear x0 x1 x2 x3 hW2 c0 c1 c2 c3
            refine (ltick_any PB2.out.pi.l).mono ?_
            rintro e w3 ⟨rfl, hL, hk', hb'⟩
            have PB3 := Lib.hid (PB2.out.onL hL hk' hb')
            clear hL hk' hb'
            go_wp2_with fail
            refine (rtick_any PB3.out.pi.r PB3.out.pi.y).mono ?_
            rintro e w4 ⟨rfl, hR, hk', hb'⟩
            have HE2 := Lib.hid (show PE w w4 P X Q G Y g own (.slice a N c) ts from ⟨_, (PB3.out.onR hR hk').pi⟩)
            clear hR hk' hb' PB2 PB3
            go_wp2
            go_roundg (A - (i + 1))
            case measure => omega
            case rel => exact ⟨i + 1, by omega, by first | rfl | simp, HE2⟩
          | 1, _, hmI =>
            have hmI : (ad : Int) % 5 = 1 := hmI
            go_wp2
            rw [← hW2]
            rw [← hbx] at PB2
            simp only [← hbx]
            clear x0 x1 x2 x3 hW2 c0 c1 c2 c3 hbx
            have hT := PB2.out.below (Below.refl _ _).drew
            have kS1 := Lib.hid (fun W (h : PB w W P X Q G Y g bx own (.slice a N c) ts ⟨ad, at', an, as'⟩ lf lf) => pb_spend h HKO.out)
            have kS2 := Lib.hid (fun W (h : PB w W P X Q G Y g bx own (.slice a N c) ts ⟨ad, at', an, as'⟩ (spendL ts lf at' an) lf) => pb_rspend h)
            obtain ⟨E, hE⟩ : ∃ E, E = spendE ts lf at' an := ⟨_, rfl⟩
            dsimp only at kS1 kS2
            rw [← hE] at kS1 kS2
            clear hE
            have eE : (E == E) = true := by simp
            have eE2 : (E != E) = false := by simp
            go_region_held3 (fun w' => w'.cell? ⟨bx, 1, none⟩ = some (.int .i64 at') ∧ w'.cell? ⟨bx, 2, none⟩ = some (.int .i64 an) ∧ PBq w w' P X Q G Y g bx own (.slice a N c) ts ⟨ad, at', an, as'⟩)
              (first
                | exact ⟨hT.c1, hT.c2, ⟨_, _, hT⟩⟩
                | fail)
              (first
                | (go_at_call 13; (with_reducible refine (kS1.out _ hT).mono ?_); rintro e w5 ⟨rfl, hT⟩)
                | (go_at_call 23; (with_reducible refine (kS2.out _ hT).mono ?_); rintro e w5 ⟨rfl, hT⟩)
                | fail)
            have HE2 := Lib.hid (show PE w _ P X Q G Y g own (.slice a N c) ts from ⟨_, hT.pi⟩)
            clear hT kS1 kS2 PB2
            go_wp2
            go_roundg (A - (i + 1))
            case measure => omega
            case rel => exact ⟨i + 1, by omega, by first | rfl | simp, HE2⟩
          | 2, _, hmI =>
            have hmI : (ad : Int) % 5 = 2 := hmI
            go_wp2
            rw [← hW2]
            rw [← hbx] at PB2
            simp only [← hbx]
            clear x0 x1 x2 x3 hW2 c0 c1 c2 c3 hbx
            have hT := PB2.out.below (Below.refl _ _).drew
            have kS1 := Lib.hid (fun W (h : PB w W P X Q G Y g bx own (.slice a N c) ts ⟨ad, at', an, as'⟩ lf lf) => pb_spend h HKO.out)
            have kS2 := Lib.hid (fun W (h : PB w W P X Q G Y g bx own (.slice a N c) ts ⟨ad, at', an, as'⟩ (spendL ts lf at' an) lf) => pb_rspend h)
            obtain ⟨E, hE⟩ : ∃ E, E = spendE ts lf at' an := ⟨_, rfl⟩
            dsimp only at kS1 kS2
            rw [← hE] at kS1 kS2
            clear hE
            have eE : (E == E) = true := by simp
            have eE2 : (E != E) = false := by simp
            go_region_held3 (fun w' => w'.cell? ⟨bx, 1, none⟩ = some (.int .i64 at') ∧ w'.cell? ⟨bx, 2, none⟩ = some (.int .i64 an) ∧ PBq w w' P X Q G Y g bx own (.slice a N c) ts ⟨ad, at', an, as'⟩)
              (first
                | exact ⟨hT.c1, hT.c2, ⟨_, _, hT⟩⟩
                | fail)
              (first
                | (go_at_call 13; (with_reducible refine (kS1.out _ hT).mono ?_); rintro e w5 ⟨rfl, hT⟩)
                | (go_at_call 23; (with_reducible refine (kS2.out _ hT).mono ?_); rintro e w5 ⟨rfl, hT⟩)
                | fail)
            have HE2 := Lib.hid (show PE w _ P X Q G Y g own (.slice a N c) ts from ⟨_, hT.pi⟩)
            clear hT kS1 kS2 PB2
            go_wp2
            go_roundg (A - (i + 1))
            case measure => omega
            case rel => exact ⟨i + 1, by omega, by first | rfl | simp, HE2⟩
          | 3, _, hmI =>
            have hmI : (ad : Int) % 5 = 3 := hmI
            have k1 := lleft_any PB2.out.pi.l HKO.out
            have k2 := rleft_any PB2.out.pi.r (k := at')
            obtain ⟨LA, hLA⟩ : ∃ LA, LA = leftA ts lf at' := ⟨_, rfl⟩
            obtain ⟨LE, hLE⟩ : ∃ LE, LE = leftE ts at' := ⟨_, rfl⟩
            dsimp only at k1
            rw [← hLA, ← hLE] at k1 k2
            have K1 := Lib.hid k1
            have K2 := Lib.hid k2
            clear k1 k2 hLA hLE
            have e1 : (LA == LA) = true := by simp
            have e2 : (LA != LA) = false := by simp
            have e3 : (LE == LE) = true := by simp
            have e4 : (LE != LE) = false := by simp
            have y1 := PB2.out.c1
            go_wp2_with fail
            rw [← hW2]
            clear x0 x1 x2 x3 c0 c1 c2 c3 hW2
            refine K1.out.mono ?_
            rintro e w3 ⟨rfl, rfl⟩
            go_wp2_with fail
            refine K2.out.mono ?_
            rintro e w3 ⟨rfl, rfl⟩
            have HE2 := Lib.hid (show PE w W2 P X Q G Y g own (.slice a N c) ts from ⟨_, PB2.out.pi⟩)
            clear y1
            go_wp2
            go_roundg (A - (i + 1))
            case measure => omega
            case rel => exact ⟨i + 1, by omega, by first | rfl | simp, HE2⟩
          | 4, _, hmI =>
            have hmI : (ad : Int) % 5 = 4 := hmI
            go_wp2_with fail
            rw [← hW2]
            rw [← hbx] at PB2
            clear x0 x1 x2 x3 c0 c1 c2 c3 hW2
            obtain ⟨Z, hZ⟩ : ∃ Z, Z = findT 0 ts as' := ⟨_, rfl⟩
            have HZ := Lib.hid hZ
            clear hZ
            simp only [← hbx]
            clear hbx
            cases Z with
            | none =>
              refine (lfind_any (nm := as') PB2.out.pi.l).mono ?_
              rintro e w3 ⟨rfl, b3⟩
              rw [show findT 0 ts as' = none from HZ.out.symm]
              dsimp only [findV]
              have al := alloc_below w3 (.cells #[.string ⟨#[]⟩, .string ⟨#[]⟩, .int .i64 0] 32)
              obtain ⟨W4, hW4⟩ : ∃ W4, W4 = w3.alloc (.cells #[.string ⟨#[]⟩, .string ⟨#[]⟩, .int .i64 0] 32) := ⟨_, rfl⟩
              have PB4 := Lib.hid (show PB w W4 P X Q G Y g bx own (.slice a N c) ts ⟨ad, at', an, as'⟩ lf lf by rw [hW4]; exact (PB2.out.below b3).below al)
              have cc := PB4.out.c3
              rw [hW4] at cc
              have e0 : W4.cell? ⟨w3.heap.size, 0, none⟩ = some (.string ⟨#[]⟩) := by rw [hW4]; exact al_cell w3 _ _ 0
              have e1 : W4.cell? ⟨w3.heap.size, 1, none⟩ = some (.string ⟨#[]⟩) := by rw [hW4]; exact al_cell w3 _ _ 1
              have e2 : W4.cell? ⟨w3.heap.size, 2, none⟩ = some (.int .i64 0) := by rw [hW4]; exact al_cell w3 _ _ 2
              have s4 : w3.heap.size < W4.heap.size := by rw [hW4]; simp
              clear al b3
              go_wp2_with fail
              rw [← hW4]
              clear cc hW4
              refine (rfind_any (nm := as') PB4.out.pi.r).mono ?_
              rintro e w5 ⟨rfl, b5⟩
              rw [show findT 0 ts as' = none from HZ.out.symm]
              dsimp only [findV]
              have al := alloc_below w5 (.cells #[.string ⟨#[]⟩, .string ⟨#[]⟩, .int .i64 0] 32)
              have b6 := b5.trans (al.mono b5.size)
              have HE2 := Lib.hid (show PE w (w5.alloc (.cells #[.string ⟨#[]⟩, .string ⟨#[]⟩, .int .i64 0] 32)) P X Q G Y g own (.slice a N c) ts from ⟨lf, PB4.out.pi.below b6⟩)
              have f0 := (b6.cell (p := ⟨w3.heap.size, 0, none⟩) s4).trans e0
              have f1 := (b6.cell (p := ⟨w3.heap.size, 1, none⟩) s4).trans e1
              have f2 := (b6.cell (p := ⟨w3.heap.size, 2, none⟩) s4).trans e2
              have g0 : (w5.alloc (.cells #[.string ⟨#[]⟩, .string ⟨#[]⟩, .int .i64 0] 32)).cell? ⟨w5.heap.size, 0, none⟩ = some (.string ⟨#[]⟩) := al_cell w5 _ _ 0
              have g1 : (w5.alloc (.cells #[.string ⟨#[]⟩, .string ⟨#[]⟩, .int .i64 0] 32)).cell? ⟨w5.heap.size, 1, none⟩ = some (.string ⟨#[]⟩) := al_cell w5 _ _ 1
              have g2 : (w5.alloc (.cells #[.string ⟨#[]⟩, .string ⟨#[]⟩, .int .i64 0] 32)).cell? ⟨w5.heap.size, 2, none⟩ = some (.int .i64 0) := al_cell w5 _ _ 2
              have hneq := zero_neqP
              clear al b5 b6 e0 e1 e2 s4
              go_wp2
              go_roundg (A - (i + 1))
              case measure => omega
              case rel => exact ⟨i + 1, by omega, by first | rfl | simp, HE2⟩
            | some y =>
              obtain ⟨tj, tn, tk, tr⟩ := y
              refine (lfind_any (nm := as') PB2.out.pi.l).mono ?_
              rintro e w3 ⟨rfl, b3⟩
              rw [show findT 0 ts as' = some (tj, ⟨tn, tk, tr⟩) from HZ.out.symm]
              dsimp only [findV]
              have al := alloc_below w3 (.cells #[.string tn, .string tk, .int .i64 tr] 32)
              obtain ⟨W4, hW4⟩ : ∃ W4, W4 = w3.alloc (.cells #[.string tn, .string tk, .int .i64 tr] 32) := ⟨_, rfl⟩
              have PB4 := Lib.hid (show PB w W4 P X Q G Y g bx own (.slice a N c) ts ⟨ad, at', an, as'⟩ lf lf by rw [hW4]; exact (PB2.out.below b3).below al)
              have cc := PB4.out.c3
              rw [hW4] at cc
              have e0 : W4.cell? ⟨w3.heap.size, 0, none⟩ = some (.string tn) := by rw [hW4]; exact al_cell w3 _ _ 0
              have e1 : W4.cell? ⟨w3.heap.size, 1, none⟩ = some (.string tk) := by rw [hW4]; exact al_cell w3 _ _ 1
              have e2 : W4.cell? ⟨w3.heap.size, 2, none⟩ = some (.int .i64 tr) := by rw [hW4]; exact al_cell w3 _ _ 2
              have s4 : w3.heap.size < W4.heap.size := by rw [hW4]; simp
              clear al b3
              go_wp2_with fail
              rw [← hW4]
              clear cc hW4
              refine (rfind_any (nm := as') PB4.out.pi.r).mono ?_
              rintro e w5 ⟨rfl, b5⟩
              rw [show findT 0 ts as' = some (tj, ⟨tn, tk, tr⟩) from HZ.out.symm]
              dsimp only [findV]
              have al := alloc_below w5 (.cells #[.string tn, .string tk, .int .i64 tr] 32)
              have b6 := b5.trans (al.mono b5.size)
              have HE2 := Lib.hid (show PE w (w5.alloc (.cells #[.string tn, .string tk, .int .i64 tr] 32)) P X Q G Y g own (.slice a N c) ts from ⟨lf, PB4.out.pi.below b6⟩)
              have f0 := (b6.cell (p := ⟨w3.heap.size, 0, none⟩) s4).trans e0
              have f1 := (b6.cell (p := ⟨w3.heap.size, 1, none⟩) s4).trans e1
              have f2 := (b6.cell (p := ⟨w3.heap.size, 2, none⟩) s4).trans e2
              have g0 : (w5.alloc (.cells #[.string tn, .string tk, .int .i64 tr] 32)).cell? ⟨w5.heap.size, 0, none⟩ = some (.string tn) := al_cell w5 _ _ 0
              have g1 : (w5.alloc (.cells #[.string tn, .string tk, .int .i64 tr] 32)).cell? ⟨w5.heap.size, 1, none⟩ = some (.string tk) := al_cell w5 _ _ 1
              have g2 : (w5.alloc (.cells #[.string tn, .string tk, .int .i64 tr] 32)).cell? ⟨w5.heap.size, 2, none⟩ = some (.int .i64 tr) := al_cell w5 _ _ 2
              have hneq := ten_neq ⟨tn, tk, tr⟩
              clear al b5 b6 e0 e1 e2 s4
              go_wp2
              go_roundg (A - (i + 1))
              case measure => omega
              case rel => exact ⟨i + 1, by omega, by first | rfl | simp, HE2⟩
        · have n2 : ¬ (i : Int) < (A : Int) := by omega
          obtain ⟨lf, hp⟩ := HP.out
          have HB := Lib.hid hp.bel
          clear hp
          go_wp2
          go_ret
          exact ⟨rfl, HB.out⟩
end Go.Proofs.Ytegfjndlkjfepaa
