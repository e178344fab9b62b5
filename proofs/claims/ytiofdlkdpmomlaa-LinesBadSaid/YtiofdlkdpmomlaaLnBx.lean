/- LinesBad: for all inputs. -/
import Derived.Test.YtiofdlkdpmomlaaLnBw
namespace Go.Proofs.Ytiofdlkdpmomlaa
open Go Go.Proofs Go.RowKit Go.Shelf
set_option linter.unusedVariables false

attribute [local go_sem] Oper.semAt_some
set_option maxRecDepth 100000 in
set_option maxHeartbeats 4000000 in
theorem bad_great {w : World} {a : Option Addr} {k c p q : Nat} {X : Int} (h : k < 3 ∨ (3 ≤ k ∧ 30 < k) ∨ (3 ≤ k ∧ k ≤ 30 ∧ X = 10)) :
    Calls Try.prog 8 #[.slice a k c, .int .u8 X, .agg #[.int .u8 (p : Int), .int .u8 (q : Int)]] w fun e w' => e = .returned (.bool true) ∧ Below w.heap.size w w' := by
  rcases h with h | ⟨h0, h⟩ | ⟨h0, h1, rfl⟩
  · have l1 : (k : Int) < 3 := by omega
    go_enter Try.func8, Try.ntmps8
    go_wp2_with fail
    refine (l_alive _).mono ?_
    rintro e w1 ⟨rfl, rr⟩
    have B0 := Lib.hid (then_below (alloc_below w _) rr)
    clear rr
    go_wp2_with fail
    refine (l_alive _).mono ?_
    rintro e w2 ⟨rfl, rr⟩
    replace B0 := Lib.hid (then_below B0.out rr)
    clear rr
    go_wp2_with fail
    go_ret
    exact ⟨rfl, B0.out⟩
  · have l0 : ¬ (k : Int) < 3 := by omega
    have l1 : (30 : Int) < (k : Int) := by omega
    go_enter Try.func8, Try.ntmps8
    go_wp2_with fail
    refine (l_alive _).mono ?_
    rintro e w1 ⟨rfl, rr⟩
    have B0 := Lib.hid (then_below (alloc_below w _) rr)
    clear rr
    go_wp2_with fail
    refine (l_alive _).mono ?_
    rintro e w2 ⟨rfl, rr⟩
    replace B0 := Lib.hid (then_below B0.out rr)
    clear rr
    go_wp2_with fail
    go_ret
    exact ⟨rfl, B0.out⟩
  · have l0 : ¬ (k : Int) < 3 := by omega
    have l1 : ¬ (30 : Int) < (k : Int) := by omega
    go_enter Try.func8, Try.ntmps8
    go_wp2_with fail
    refine (l_alive _).mono ?_
    rintro e w1 ⟨rfl, rr⟩
    have B0 := Lib.hid (then_below (alloc_below w _) rr)
    clear rr
    go_wp2_with fail
    refine (l_alive _).mono ?_
    rintro e w2 ⟨rfl, rr⟩
    replace B0 := Lib.hid (then_below B0.out rr)
    clear rr
    go_wp2_with fail
    go_ret
    exact ⟨rfl, B0.out⟩
theorem bad_all {w : World} {v : Value} {ls : List (List UInt8)} {n p q : Nat} (hv : RowB w v ls) (hn : n < 256) (hpq : p < 256 ∧ q < 256) :
    Calls Try.prog 8 #[v, .int .u8 (n : Int), .agg #[.int .u8 (p : Int), .int .u8 (q : Int)]] w fun e w' => e = .returned (.bool true) ∧ Below w.heap.size w w' := by
  by_cases h3 : 3 ≤ ls.length
  · by_cases h30 : ls.length ≤ 30
    · by_cases h10 : n = 10
      · obtain ⟨a, c, rfl, _⟩ := hv
        exact bad_great (.inr (.inr ⟨h3, h30, by omega⟩))
      · have e : (UInt8.ofNat n).toNat = n := by rw [UInt8.toNat_ofNat']; omega
        have := bad_walk (cc := UInt8.ofNat n) hv h3 h30 (fun h => h10 (by have := congrArg UInt8.toNat h; rw [e] at this; exact this)) hpq.1 hpq.2
        rwa [e] at this
    · obtain ⟨a, c, rfl, _⟩ := hv
      exact bad_great (.inr (.inl ⟨h3, by omega⟩))
  · obtain ⟨a, c, rfl, _⟩ := hv
    exact bad_great (.inl (by omega))
end Go.Proofs.Ytiofdlkdpmomlaa
