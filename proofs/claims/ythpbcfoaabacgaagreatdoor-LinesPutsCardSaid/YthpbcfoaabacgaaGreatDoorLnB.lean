/- Lines: what came in pieces: mathematics; the document's small functions. -/
import Derived.Test.YthpbcfoaabacgaaGreatDoorLnW
import Derived.Laws.IdiomStrings
namespace Go.Proofs.YthpbcfoaabacgaaGreatDoor
open Go Go.Proofs Go.RowKit Go.Shelf

attribute [local go_sem] Oper.semAt_some
set_option maxRecDepth 100000
namespace Ln
/-- may a byte not stand in a line? -/
def ill (c : UInt8) : Bool := (decide (c.toNat < 32) && !(c == 9)) || decide (126 < c.toNat)
def may (l : List UInt8) : Bool := l.all (fun c => !ill c) && decide (l.length ≤ 70000)
/-- what stood up to a byte 10, as a line -/
def cut (l : List UInt8) : List UInt8 := if l.getLast? = some 13 then l.dropLast else l
def line (l : List UInt8) : List UInt8 × Bool := if may (cut l) then (cut l, false) else ([], true)
/-- the lines of what comes behind cur, and what is left -/
def lgo : List UInt8 → List UInt8 → List (List UInt8 × Bool) × List UInt8
  | cur, [] => ([], cur)
  | cur, c :: t => if c == 10 then (line cur :: (lgo [] t).1, (lgo [] t).2) else lgo (cur ++ [c]) t
theorem lgo_few : ∀ (l cur : List UInt8), (lgo cur l).1.length ≤ l.length
  | [], cur => by simp [lgo]
  | c :: t, cur => by
    unfold lgo
    split
    · have := lgo_few t []
      simp only [List.length_cons]
      omega
    · have := lgo_few t (cur ++ [c])
      simp only [List.length_cons]
      omega
theorem lgo_left : ∀ (l cur : List UInt8), (lgo cur l).2.length ≤ cur.length + l.length
  | [], cur => by simp [lgo]
  | c :: t, cur => by
    unfold lgo
    split
    · have := lgo_left t []
      simp only [List.length_cons, List.length_nil] at *
      omega
    · have := lgo_left t (cur ++ [c])
      simp only [List.length_cons, List.length_append, List.length_nil] at *
      omega
/-- one byte on that ends no line -/
theorem lgo_next {l cur : List UInt8} {i : Nat} {c : UInt8} (hc : l[i]? = some c) (h : (c == 10) = false) : lgo cur (l.drop i) = lgo (cur ++ [c]) (l.drop (i + 1)) := by
  have hlt := (List.getElem?_eq_some_iff.1 hc).1
  have hg := (List.getElem?_eq_some_iff.1 hc).2
  rw [List.drop_eq_getElem_cons hlt, hg]
  conv => lhs; unfold lgo
  simp [h]
theorem lgo_line {l cur : List UInt8} {i : Nat} {c : UInt8} (hc : l[i]? = some c) (h : (c == 10) = true) : lgo cur (l.drop i) = (line cur :: (lgo [] (l.drop (i + 1))).1, (lgo [] (l.drop (i + 1))).2) := by
  have hlt := (List.getElem?_eq_some_iff.1 hc).1
  have hg := (List.getElem?_eq_some_iff.1 hc).2
  rw [List.drop_eq_getElem_cons hlt, hg]
  conv => lhs; unfold lgo
  simp [h]
theorem may_ill {l : List UInt8} {k : Nat} {c : UInt8} (hc : l[k]? = some c) (h : ill c = true) : may l = false := by
  have hm := List.mem_of_getElem? hc
  unfold may
  rw [Bool.and_eq_false_iff]
  left
  rw [List.all_eq_false]
  exact ⟨c, hm, by simp [h]⟩
theorem may_all {l : List UInt8} (h : ∀ (j : Nat) (c : UInt8), l[j]? = some c → ill c = false) : may l = decide (l.length ≤ 70000) := by
  unfold may
  have : l.all (fun c => !ill c) = true := by
    rw [List.all_eq_true]
    intro c hc
    obtain ⟨j, hj⟩ := List.getElem?_of_mem hc
    simp [h j c hj]
  rw [this, Bool.true_and]
end Ln
def bcell (c : UInt8) : Value := .int .u8 (c.toNat : Int)
def bcells (l : List UInt8) : List Value := l.map bcell
theorem bcells_get {l : List UInt8} {k : Nat} {c : UInt8} (h : l[k]? = some c) : (bcells l)[k]? = some (bcell c) := by unfold bcells; rw [List.getElem?_map, h]; rfl
def tcellB (b : Bool) : Value := .bool b
def BFresh (W : World) (base : Nat) (v : Value) (bs : List Bool) : Prop := W.ownsRow base 4 1 v bs.length (bs.map tcellB)
theorem BFresh.nil (W : World) (base : Nat) : BFresh W base (.slice none 0 0) [] := World.ownsRow_nil W base _ 1
theorem BFresh.snoc {W : World} {base : Nat} {v : Value} {bs : List Bool} {b : Bool} (h : W.ownsRow base 4 1 v (bs.length + 1) (bs.map tcellB ++ [tcellB b])) : BFresh W base v (bs ++ [b]) := by
  unfold BFresh
  rw [List.length_append, List.map_append]
  exact h
set_option maxHeartbeats 4000000 in
theorem may_any {W : World} {v : Value} {l : List UInt8} (hv : RdC W v l.length (bcells l)) (hl : l.length ≤ 10000000) :
    Calls Tryz.prog 21 #[v] W fun e w' => e = .returned (.bool (Ln.may l)) ∧ W = w' := by
  obtain ⟨a, c, rfl, hac, ha⟩ := hv
  obtain ⟨N, hN⟩ : ∃ N, N = l.length := ⟨_, rfl⟩
  have HN := Lib.hid hN
  have HA := Lib.hid ha
  rw [← hN] at hl hac ⊢
  clear hN ha
  have k0 : ((0 : Nat) : Int) = 0 := rfl
  go_enter Tryz.func21, Tryz.ntmps21
  go_wp2
  go_loopg [3] N (fun g i wx => ∃ k : Nat, k + g = N ∧ i = .int .i64 (k : Int) ∧ Hid (∀ j c, j < k → l[j]? = some c → Ln.ill c = false) ∧ wx = W)
  case atStart => exact ⟨0, by omega, rfl, Lib.hid (fun j c hj => absurd hj (Nat.not_lt_zero _)), rfl⟩
  case round =>
    clear k0
    obtain ⟨k, hkg, rfl, HK, rfl⟩ := hrel
    by_cases hlk : k < N
    · obtain ⟨ba, oa, rfl, hba, hca⟩ := HA.out (by have := HN.out; omega)
      obtain ⟨d, hd⟩ : ∃ d, l[k]? = some d := ⟨_, List.getElem?_eq_getElem (by have := HN.out; omega)⟩
      have a0 := hca k _ (bcells_get hd)
      have HD := Lib.hid hd
      obtain ⟨X, hX⟩ : ∃ X : Int, X = (d.toNat : Int) := ⟨_, rfl⟩
      unfold bcell at a0
      rw [← hX] at a0
      have HX := Lib.hid hX
      have w0 : IntKind.i64.wrap ((k : Int) + 1) = ((k + 1 : Nat) : Int) := IntWalk.i64_in _ (by omega)
      have q0 : (0 : Int) ≤ (k : Int) := by omega
      have q1 : (k : Int) < (N : Int) := by omega
      clear hca hd hX
      have HOK := Lib.hid (show Ln.ill d = false → ∀ j c, j < k + 1 → l[j]? = some c → Ln.ill c = false from fun h j c hj hc => by
        by_cases e : j = k
        · subst e
          rw [HD.out] at hc
          cases hc
          exact h
        · exact HK.out j c (by omega) hc)
      by_cases h9 : X = 9
      · have HI := Lib.hid (HOK.out (by
          have : d = 9 := UInt8.toNat_inj.1 (by show d.toNat = 9; have := HX.out; omega)
          rw [this]; rfl))
        subst h9
        clear HX
        go_wp2
        go_roundg (N - (k + 1))
        case measure => omega
        case rel => exact ⟨k + 1, by omega, by first | rfl | simp, HI, rfl⟩
      · have y9 : (X != 9) = true := bne_iff_ne.2 h9
        have HN9 := Lib.hid (show (d == 9) = false by rw [beq_eq_false_iff_ne]; intro e; exact h9 (by rw [HX.out, e]; rfl))
        by_cases h32 : X < 32
        · have HI := Lib.hid (Ln.may_ill HD.out (show Ln.ill d = true by
            unfold Ln.ill
            rw [HN9.out, decide_eq_true (show d.toNat < 32 by have := HX.out; omega)]
            rfl))
          go_wp2
          go_ret
          exact ⟨by rw [HI.out]; rfl, rfl⟩
        · by_cases h126 : 126 < X
          · have HI := Lib.hid (Ln.may_ill HD.out (show Ln.ill d = true by
              unfold Ln.ill
              rw [decide_eq_true (show 126 < d.toNat by have := HX.out; omega)]
              simp))
            go_wp2
            go_ret
            exact ⟨by rw [HI.out]; rfl, rfl⟩
          · have HI := Lib.hid (HOK.out (show Ln.ill d = false by
              unfold Ln.ill
              rw [decide_eq_false (show ¬ d.toNat < 32 by have := HX.out; omega), decide_eq_false (show ¬ 126 < d.toNat by have := HX.out; omega)]
              rfl))
            go_wp2
            go_roundg (N - (k + 1))
            case measure => omega
            case rel => exact ⟨k + 1, by omega, by first | rfl | simp, HI, rfl⟩
    · have HM := Lib.hid (show Ln.may l = decide (N ≤ 70000) by
        rw [HN.out]
        exact Ln.may_all fun j c hc => HK.out j c (by have := (List.getElem?_eq_some_iff.1 hc).1; have := HN.out; omega) hc)
      go_wp2
      go_ret
      exact ⟨by rw [HM.out]; simp; omega, rfl⟩
set_option maxHeartbeats 4000000 in
theorem sameBools_any {W : World} {u v : Value} {bs : List Bool} (hu : RdC W u bs.length (bs.map tcellB)) (hv : RdC W v bs.length (bs.map tcellB)) (hl : bs.length ≤ 2000000) :
    Calls Tryz.prog 11 #[u, v] W fun e w' => e = .returned (.bool true) ∧ Below W.heap.size W w' := by
  obtain ⟨a, c, rfl, hac, ha⟩ := hu
  obtain ⟨b, d, rfl, hbd, hb⟩ := hv
  obtain ⟨N, hN⟩ : ∃ N, N = bs.length := ⟨_, rfl⟩
  have HN := Lib.hid hN
  have HA := Lib.hid ha
  have HB := Lib.hid hb
  rw [← hN] at hl hac hbd ⊢
  clear hN ha hb
  have k0 : ((0 : Nat) : Int) = 0 := rfl
  go_enter Tryz.func11, Tryz.ntmps11
  go_wp2
  go_loopg [5] N (fun g i wx => ∃ k : Nat, k + g = N ∧ i = .int .i64 (k : Int) ∧ ∃ n, wx = W.drewN n)
  case atStart => exact ⟨0, by omega, rfl, 0, rfl⟩
  case round =>
    clear k0
    obtain ⟨k, hkg, rfl, nd, rfl⟩ := hrel
    by_cases hlk : k < N
    · have h0 : 0 < bs.length := by have := HN.out; omega
      obtain ⟨ba, oa, rfl, hba, hca⟩ := HA.out h0
      obtain ⟨bb, ob, rfl, hbb, hcb⟩ := HB.out h0
      have hk2 : k < bs.length := by have := HN.out; omega
      obtain ⟨D, hD⟩ : ∃ D, D = bs[k] := ⟨_, rfl⟩
      have hsc : (bs.map tcellB)[k]? = some (.bool D) := by rw [List.getElem?_map, List.getElem?_eq_getElem hk2, hD]; rfl
      have a0 := hca k _ hsc
      have b0 := hcb k _ hsc
      have w0 : IntKind.i64.wrap ((k : Int) + 1) = ((k + 1 : Nat) : Int) := IntWalk.i64_in _ (by omega)
      clear hca hcb h0 hk2 hD hsc
      have q0 : (0 : Int) ≤ (k : Int) := by omega
      have q1 : (k : Int) < (N : Int) := by omega
      go_wp2
      go_quiet (fail)
      go_wp2
      go_roundg (N - (k + 1))
      case measure => omega
      case rel => exact ⟨k + 1, by omega, by first | rfl | simp, nd + nq, by first | rfl | exact World.drewN_drewN _ _ _⟩
    · go_wp2
      go_ret
      exact ⟨rfl, below_drewN (Below.refl _ _) nd⟩
end Go.Proofs.YthpbcfoaabacgaaGreatDoor
