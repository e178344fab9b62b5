/- The document's answer: a text's number, by hand. -/
import Derived.Test.YtmbnojkciikobaaGreatDoorRefL
import Derived.Deep.RegionWith
namespace Go.Proofs.YtmbnojkciikobaaGreatDoor
open Go Go.Proofs Go.RowKit Go.Shelf Nu

attribute [local go_sem] Oper.semAt_some

set_option maxRecDepth 100000 in
set_option maxHeartbeats 4000000 in
theorem rnumber_any (s : ByteArray) (w : World) (hs : s.size ≤ 10000) (hd : allDig s) :
    Calls Tryz.prog 128 #[.string s] w fun e w' => ∃ v, e = .returned v ∧ Reads w' v (digs (numv s s.size)) ∧ Below w.heap.size w w' := by
  obtain ⟨N, hN⟩ : ∃ N, N = s.size := ⟨_, rfl⟩
  have HN := Lib.hid hN
  have hN1 : N ≤ 10000 := by omega
  have HD := Lib.hid hd.1
  have hlen : ∀ W : World, (Builtin.len_ #[9] 3 #[.string s]).run Tryz.prog W = .ok (.int .i64 (N : Int)) W := fun W => by rw [run_len_string W _ _ s (by kernel_rfl), hN]; rfl
  have hba := Lib.hid (byte_at s)
  rw [← hN]
  clear hN hs hd
  go_enter Tryz.func128, Tryz.ntmps128
  go_wp2
  go_loopg [3, 4] N (fun g va x wr => ∃ k : Nat, k + g = N ∧ x = .int .i64 k ∧ Hid (Reads wr va (digs (numv s k))) ∧ Hid (Below w.heap.size w wr))
  case atStart => exact ⟨0, by omega, rfl, Lib.hid (by rw [show numv s 0 = 0 from rfl, digs_zero]; exact Reads.nil _), Lib.hid (Below.refl _ _)⟩
  case round =>
    obtain ⟨k, hk, rfl, HR, HB⟩ := hrel
    by_cases hlt : k < N
    · obtain ⟨c, hce⟩ : ∃ c, c = bt s k - 48 := ⟨_, rfl⟩
      have hdk := HD.out k (by have := HN.out; omega)
      have hb := hba.out k (by have := HN.out; omega)
      rw [show ((bt s k : Nat) : Int) = (c : Int) + 48 by omega] at hb
      have HC := Lib.hid hce
      have hc9 : c ≤ 9 := by omega
      have u1 : IntKind.u8.wrap ((c : Int) + 48 - 48) = (c : Int) := by rw [IntKind.wrap_u8']; omega
      have u2 : (c : Int) + 48 - 48 = (c : Int) := by omega
      have hle57 : ∀ j, j < k → bt s j ≤ 57 := fun j hj => (HD.out j (by have := HN.out; omega)).2
      have hl1 : (digs (numv s k)).length ≤ 100000 := by have := numv_len s k hle57; omega
      have hl2 : (digs (numv s k * 10)).length ≤ 100000 := by
        have h1 := numv_lt s k hle57
        have h2 : (digs (numv s k * 10)).length ≤ k + 1 := digs_length_le (Nat.lt_of_lt_of_le (show numv s k * 10 < 10 ^ (k + 1) by rw [Nat.pow_succ]; omega) (Nat.pow_le_pow_left (by decide) (k + 1)))
        omega
      have hl3 : (digs c).length ≤ 100000 := by
        have h2 : (digs c).length ≤ 1 := digs_length_le (by omega)
        omega
      have hF : Fresh (wr.alloc (.cells #[.int .u32 10] 78)) wr.heap.size (.slice (some ⟨wr.heap.size, 0, none⟩) 1 1) [10] :=
        ⟨rfl, .inr ⟨wr.heap.size, 1, _, rfl, Nat.le_refl _, World.alloc_heap_new wr _, Nat.le_refl _, small_max (by omega), rfl, rfl⟩⟩
      have hB1 : Below wr.heap.size wr (wr.alloc (.cells #[.int .u32 10] 78)).drew := ((Below.refl _ _).alloc (Nat.le_refl _) _).drew
      have hT := hF.reads.below (Below.refl _ _).drew
      have km := rmul_any (HR.out.below hB1) hT hl1 (by simp) (sm_digs _) (Sm.cons (by omega) Sm.nil)
      rw [nv_digs, show nv [10] = 10 by rfl] at km
      have KM := Lib.hid km
      have HB1 := Lib.hid hB1
      have u4 : IntKind.u8.wrap (c : Int) = (c : Int) := by rw [IntKind.wrap_u8']; omega
      have u3 : IntKind.u64.wrap (c : Int) = (c : Int) := by rw [IntKind.wrap_u64]; omega
      have KO := Lib.hid (rof_any c (by omega))
      obtain ⟨a1, c1, ea⟩ := HR.out.form
      subst ea
      clear hce hdk hF hT km hB1 hle57
      go_wp2_with fail
      go_region_with (first
        | (go_at_call 18; refine KM.out.mono ?_; rintro e w2 ⟨v1, rfl, r1, b1⟩; have R1 := Lib.hid r1; have B2 := Lib.hid (then_below HB1.out b1); clear r1 b1)
        | (go_at_call 36; refine (KO.out _).mono ?_; rintro e w3 ⟨v2, rfl, r2, b2⟩; have KA := Lib.hid (radd_any (R1.out.below b2) r2 hl2 hl3 (sm_digs _) (sm_digs _)); have B3 := Lib.hid (then_below B2.out b2); clear r2 b2)
        | (go_at_call 17; refine KA.out.mono ?_; rintro e w4 ⟨v3, rfl, r3, b3⟩; have R3 := Lib.hid r3; have B4 := Lib.hid (then_below B3.out b3); clear r3 b3))
      all_goals
        go_wp2
        go_roundg (N - (k + 1))
        case measure => omega
        case rel =>
          refine ⟨k + 1, by omega, by simp, Lib.hid ?_, Lib.hid (then_below HB.out B4.out)⟩
          have h := R3.out
          rw [nv_digs, nv_digs] at h
          rw [show numv s (k + 1) = numv s k * 10 + c by rw [numv, HC.out, Nat.mul_comm]]
          exact h
    · obtain rfl : k = N := by omega
      go_wp2
      go_ret
      exact ⟨_, rfl, HR.out, HB.out⟩

end Go.Proofs.YtmbnojkciikobaaGreatDoor
