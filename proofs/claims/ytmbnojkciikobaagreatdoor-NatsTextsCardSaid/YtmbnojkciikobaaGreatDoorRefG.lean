/- The document's answer: a number of 64 bits, by hand, and as one; a text's number. -/
import Derived.Test.YtmbnojkciikobaaGreatDoorBits
import Derived.Test.YtmbnojkciikobaaGreatDoorRefF
import Derived.Test.YtmbnojkciikobaaGreatDoorWord
import Derived.Test.YtmbnojkciikobaaGreatDoorParseB
namespace Go.Proofs.YtmbnojkciikobaaGreatDoor
open Go Go.Proofs Go.RowKit Go.Shelf Nu

attribute [local go_sem] Oper.semAt_some

set_option maxHeartbeats 1000000 in
theorem rof_any (n : Nat) (hn : n < 18446744073709551616) (w : World) :
    Calls Tryz.prog 36 #[.int .u64 n] w fun e w' => ∃ v, e = .returned v ∧ Reads w' v (digs n) ∧ Below w.heap.size w w' := by
  have hF : Fresh (w.alloc (.cells #[.int .u32 (n % 4294967296 : Nat), .int .u32 (n / 4294967296 : Nat)] 78)) w.heap.size (.slice (some ⟨w.heap.size, 0, none⟩) 2 2) [n % 4294967296, n / 4294967296] :=
    ⟨rfl, .inr ⟨w.heap.size, 2, _, rfl, Nat.le_refl _, World.alloc_heap_new w _, Nat.le_refl _, small_max (by omega), rfl, rfl⟩⟩
  have hsm : Sm [n % 4294967296, n / 4294967296] := Sm.cons (by omega) (Sm.cons (by omega) Sm.nil)
  have kt := rtrim_any hF.reads (by simp)
  have ev : val [n % 4294967296, n / 4294967296] = n := by simp [val]; omega
  rw [cut_eq hsm, ev] at kt
  rw [show ((n % 4294967296 : Nat) : Int) = (n : Int) % 4294967296 by omega, show ((n / 4294967296 : Nat) : Int) = (n : Int) / 4294967296 by omega] at kt
  have KT := Lib.hid kt
  clear kt hF hsm ev
  go_enter Tryz.func36, Tryz.ntmps36
  go_wp2_with fail
  go_at_call 75
  refine KT.out.mono ?_
  rintro e w' ⟨⟨u, rfl, hu⟩, rfl⟩
  have HU := Lib.hid hu
  clear hu
  go_wp2_with fail
  go_ret
  exact ⟨_, rfl, HU.out, (Below.refl _ _).alloc (Nat.le_refl _) _⟩

theorem or_low (n x : Nat) (hn : n < 4294967296) (hx : x < 4294967296) : ((n : Int) * 4294967296 % 18446744073709551616).toNat ||| x = n * 4294967296 + x := by
  have : ((n : Int) * 4294967296 % 18446744073709551616).toNat = n * 4294967296 := by omega
  rw [this]
  have := Nat.two_pow_add_eq_or_of_lt (i := 32) hx n
  rw [show (2 : Nat) ^ 32 = 4294967296 by rfl, Nat.mul_comm] at this
  exact this.symm

set_option maxRecDepth 100000 in
set_option maxHeartbeats 2000000 in
theorem rback_any {w : World} {v : Value} {l : List Nat} (h : Reads w v l) (hl : l.length ≤ 1000000) (hs : Sm l) :
    Calls Tryz.prog 28 #[v] w fun e w' => e = .returned (backV l) ∧ Below w.heap.size w w' := by
  have h0 := Lib.hid h
  have kc := rcheck_any h hl
  obtain ⟨a1, c1, rfl⟩ := h.form
  have HS := Lib.hid hs
  clear h hs
  cases hc : chk l with
  | false =>
    have ev : backV l = .tuple #[.int .u64 0, .int .i64 1] := by simp [backV, hc]
    rw [ev]
    rw [hc] at kc
    clear hc ev
    go_enter Tryz.func28, Tryz.ntmps28
    go_wp2_with (go_at_call 33; refine kc.mono ?_; rintro e w' ⟨rfl, rfl⟩)
    go_ret2
    exact ⟨rfl, Below.refl _ _⟩
  | true =>
    rw [hc] at kc
    by_cases h2 : 2 < l.length
    · have ev : backV l = .tuple #[.int .u64 0, .int .i64 3] := by simp [backV, hc, h2]
      rw [ev]
      clear hc ev
      go_enter Tryz.func28, Tryz.ntmps28
      go_wp2_with (go_at_call 33; refine kc.mono ?_; rintro e w' ⟨rfl, rfl⟩)
      go_ret2
      exact ⟨rfl, Below.refl _ _⟩
    · have ev : backV l = .tuple #[.int .u64 (val l : Nat), .int .i64 0] := by simp [backV, hc, h2]
      rw [ev]
      clear hc ev
      obtain ⟨m, hm⟩ : ∃ m, m = l.length := ⟨_, rfl⟩
      have HM := Lib.hid hm
      rw [← hm] at h2 kc ⊢
      have hm2 : m ≤ 2 := by omega
      clear hm
      go_enter Tryz.func28, Tryz.ntmps28
      go_wp2_with (go_at_call 33; refine kc.mono ?_; clear kc; rintro e w' ⟨rfl, rfl⟩)
      go_loopg [4, 5] m (fun g sn si wr => ∃ (z : Int) (q : Nat), si = .int .i64 z ∧ z = (g : Int) - 1 ∧ g ≤ m ∧ sn = .int .u64 (q : Int) ∧ Hid (q = val (l.drop g)) ∧ wr = w)
      case atStart => exact ⟨_, 0, rfl, rfl, Nat.le_refl _, rfl, Lib.hid (by rw [HM.out, List.drop_length]; rfl), rfl⟩
      case round =>
        obtain ⟨z, q, rfl, hz, hg, rfl, HQ, rfl⟩ := hrel
        by_cases hg0 : gk = 0
        · have hz1 : z = -1 := by omega
          subst hz1
          have hv : Hid (q = val l) := Lib.hid (by rw [HQ.out, hg0, List.drop_zero])
          clear hz
          go_wp2
          go_ret2
          exact ⟨by simp [hv.out], Below.refl _ _⟩
        · obtain ⟨p, hp⟩ : ∃ p : Nat, z = (p : Int) := ⟨gk - 1, by omega⟩
          subst hp
          have hpl : p < m := by omega
          obtain ⟨ba, oa, hba, hca⟩ := h0.out.addr
          rw [← HM.out] at hba hca
          have r1 := hca p hpl
          have ea := (hba (by omega)).1
          subst ea
          obtain ⟨x, hx⟩ : ∃ x, x = l.getD p 0 := ⟨_, rfl⟩
          rw [← hx] at r1
          have hxb : x < 4294967296 := by rw [hx]; exact HS.out.getD p
          have hgp : gk = p + 1 := by omega
          have hqb : q < 4294967296 := by
            have h3 := val_lt (HS.out.drop gk)
            rw [HQ.out]
            refine Nat.lt_of_lt_of_le h3 ?_
            have h4 : (l.drop gk).length ≤ 1 := by rw [List.length_drop]; have := HM.out; omega
            exact Nat.le_trans (Nat.pow_le_pow_right (by decide) h4) (by decide)
          have hor := or_low q x hqb hxb
          have hnext : q * 4294967296 + x = val (l.drop p) := by
            have h3 : l.drop p = x :: l.drop (p + 1) := by
              rw [List.drop_eq_getElem_cons (by have := HM.out; omega), hx, List.getD_eq_getElem?_getD, List.getElem?_eq_getElem (by have := HM.out; omega)]; rfl
            rw [h3, val, HQ.out, hgp, Nat.mul_comm, Nat.add_comm]
          have HNX := Lib.hid hnext
          have HG := Lib.hid hgp
          clear hz hba hca hx hgp hg0 hnext
          go_wp2
          go_roundg p
          case measure => have := HG.out; omega
          case rel => exact ⟨_, q * 4294967296 + x, rfl, rfl, by omega, by congr 1; exact or_shl q x hqb hxb, HNX, rfl⟩

end Go.Proofs.YtmbnojkciikobaaGreatDoor
