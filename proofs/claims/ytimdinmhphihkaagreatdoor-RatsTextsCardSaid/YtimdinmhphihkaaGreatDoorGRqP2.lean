/- The document's answer for fractions: what a text is read as. -/
import Derived.Test.YtimdinmhphihkaaGreatDoorGRqP1
set_option linter.unusedSimpArgs false
set_option linter.unusedVariables false
namespace Go.Proofs.YtimdinmhphihkaaGreatDoor
open Go Go.Proofs Go.RowKit Go.Shelf Nu

attribute [local go_sem] Oper.semAt_some

set_option maxRecDepth 100000 in
set_option maxHeartbeats 4000000 in
theorem rq_HA_F1 {w : World} {s d p : ByteArray} (h1 : s.size ≠ 0) (hb : bt s 0 = 45) (hd : ∀ W : World, (Instr.slice 9 (.string s) (some (.int .i64 1)) none none).run Tryz.prog W = .ok (.string d) W) (hr : d.size ≤ 2000) {K : Nat} (hK : K = d.size) (hC : Clear d K) (hp : p = d)
    (k1 : ∀ W, Calls Tryz.prog 49 #[.string p] W fun e w' => e = .returned (.bool false) ∧ w' = W) :
    Calls Tryz.prog 10 #[.string s] w fun e w' => e = .returned (.tuple #[.agg #[.bool false, .slice none 0 0, .slice none 0 0], .int .i64 4]) ∧ Below w.heap.size w w' := by
  have K1 := Lib.hid k1
  clear k1
  have hlen : ∀ W : World, (Builtin.len_ #[9] 3 #[.string d]).run Tryz.prog W = .ok (.int .i64 (K : Int)) W := fun W => by rw [run_len_string W _ _ d (by kernel_rfl), hK]; rfl
  have hba := Lib.hid (fun (j : Nat) (hj : j < K) => byte_at d j (by omega))
  have hf : ∀ W : World, (Instr.slice 9 (.string d) none (some (.int .i64 (K : Int))) none).run Tryz.prog W = .ok (.string p) W := fun W => by
      rw [hp]; have this : (Instr.slice 9 (.string d) none (some (.int .i64 (K : Int))) none).run Tryz.prog W = .ok (.string (d.extract 0 K)) W := run_slice_string_h W _ d (by kernel_rfl) .i64 (K : Int) (by omega) (by omega); rw [show d.extract 0 K = d by rw [hK]; exact ext_all _] at this; exact this
  clear hp
  have HC := Lib.hid hC
  have hN1 : K ≤ 2000 := by omega
  obtain ⟨f1, f2, f3, f4⟩ := some_bytesR s h1
  have hi : ∀ W : World, (Instr.index 9 (.string s) (.int .i64 0)).run Tryz.prog W = .ok (.int .u8 45) W := fun W => by
      have := byte_at s 0 (Nat.pos_of_ne_zero h1) W
      rw [hb] at this
      exact this
  clear hb
  have M : Mem w [(w.heap.size, 27, [.bool false, .slice none 0 0, .slice none 0 0])] [] (w.alloc (.cells #[.bool false, .slice none 0 0, .slice none 0 0] 27)) := (Mem.start w).new _ _
  clear hr hK hC h1
  go_enter Tryz.func10, Tryz.ntmps10
  go_wp2
  go_loopg [5] K (fun g x wr => ∃ k : Nat, k + g = K ∧ x = .int .i64 (k : Int) ∧ wr = w.alloc (.cells #[.bool false, .slice none 0 0, .slice none 0 0] 27))
  case atStart => exact ⟨0, by omega, rfl, rfl⟩
  case round =>
    obtain ⟨k, hk, rfl, hw⟩ := hrel
    subst wr
    by_cases hlt : k < K
    · obtain ⟨c, hce⟩ : ∃ c, c = bt d k := ⟨_, rfl⟩
      have hb := hba.out k (by omega)
      have hcl := HC.out k hlt
      rw [← hce] at hb hcl
      obtain ⟨x1, x2, x3⟩ := byte_not hcl.1
      obtain ⟨x4, x5, x6⟩ := byte_not hcl.2
      simp only [Int.cast_ofNat_Int] at x1 x2 x3 x4 x5 x6
      have hkN : (k : Int) < (K : Int) := by omega
      have hkN2 : decide ((k : Int) < (K : Int)) = true := decide_eq_true hkN
      clear hce hcl
      go_wp2
      go_roundg (K - (k + 1))
      case measure => omega
      case rel => exact ⟨k + 1, by omega, by simp, rfl⟩
    · obtain rfl : k = K := by omega
      clear hk hlt
      have hkN : ¬ (k : Int) < (k : Int) := by omega
      have hkN2 : decide ((k : Int) < (k : Int)) = false := decide_eq_false hkN
      go_wp2_with fail
      refine (K1.out _).mono ?_
      rintro e v0 ⟨rfl, hv⟩
      subst v0
      have z0 := M.cell 0 rfl 0 rfl; have z1 := M.cell 0 rfl 1 rfl; have z2 := M.cell 0 rfl 2 rfl; have y0 := M.fr 0 rfl 0; have y1 := M.fr 0 rfl 1; have y2 := M.fr 0 rfl 2
      go_wp2_with fail
      refine ret_boxN_tmp rfl rfl rfl (M.box 0 rfl) Tryz.underlying27 size_rat rfl ?_
      exact ⟨rfl, M.below⟩
set_option maxRecDepth 100000 in
set_option maxHeartbeats 4000000 in
theorem rq_HA_Z {w : World} {s d p : ByteArray} (h1 : s.size ≠ 0) (hb : bt s 0 = 45) (hd : ∀ W : World, (Instr.slice 9 (.string s) (some (.int .i64 1)) none none).run Tryz.prog W = .ok (.string d) W) (hr : d.size ≤ 2000) {K : Nat} (hK : K = d.size) (hC : Clear d K) (hp : p = d) (hp0 : p = ⟨#[48]⟩)
    (k1 : ∀ W, Calls Tryz.prog 49 #[.string p] W fun e w' => e = .returned (.bool true) ∧ w' = W)
    (k2 : ∀ W, Calls Tryz.prog 49 #[.string ⟨#[49]⟩] W fun e w' => e = .returned (.bool true) ∧ w' = W) :
    Calls Tryz.prog 10 #[.string s] w fun e w' => e = .returned (.tuple #[.agg #[.bool false, .slice none 0 0, .slice none 0 0], .int .i64 4]) ∧ Below w.heap.size w w' := by
  have K1 := Lib.hid k1
  have K2 := Lib.hid k2
  clear k1 k2
  have hlen : ∀ W : World, (Builtin.len_ #[9] 3 #[.string d]).run Tryz.prog W = .ok (.int .i64 (K : Int)) W := fun W => by rw [run_len_string W _ _ d (by kernel_rfl), hK]; rfl
  have hba := Lib.hid (fun (j : Nat) (hj : j < K) => byte_at d j (by omega))
  have hf : ∀ W : World, (Instr.slice 9 (.string d) none (some (.int .i64 (K : Int))) none).run Tryz.prog W = .ok (.string p) W := fun W => by
      rw [hp]; have this : (Instr.slice 9 (.string d) none (some (.int .i64 (K : Int))) none).run Tryz.prog W = .ok (.string (d.extract 0 K)) W := run_slice_string_h W _ d (by kernel_rfl) .i64 (K : Int) (by omega) (by omega); rw [show d.extract 0 K = d by rw [hK]; exact ext_all _] at this; exact this
  clear hp
  have HC := Lib.hid hC
  have hN1 : K ≤ 2000 := by omega
  obtain ⟨f1, f2, f3, f4⟩ := some_bytesR s h1
  have hi : ∀ W : World, (Instr.index 9 (.string s) (.int .i64 0)).run Tryz.prog W = .ok (.int .u8 45) W := fun W => by
      have := byte_at s 0 (Nat.pos_of_ne_zero h1) W
      rw [hb] at this
      exact this
  clear hb
  subst hp0
  have M : Mem w [(w.heap.size, 27, [.bool false, .slice none 0 0, .slice none 0 0])] [] (w.alloc (.cells #[.bool false, .slice none 0 0, .slice none 0 0] 27)) := (Mem.start w).new _ _
  clear hr hK hC h1
  go_enter Tryz.func10, Tryz.ntmps10
  go_wp2
  go_loopg [5] K (fun g x wr => ∃ k : Nat, k + g = K ∧ x = .int .i64 (k : Int) ∧ wr = w.alloc (.cells #[.bool false, .slice none 0 0, .slice none 0 0] 27))
  case atStart => exact ⟨0, by omega, rfl, rfl⟩
  case round =>
    obtain ⟨k, hk, rfl, hw⟩ := hrel
    subst wr
    by_cases hlt : k < K
    · obtain ⟨c, hce⟩ : ∃ c, c = bt d k := ⟨_, rfl⟩
      have hb := hba.out k (by omega)
      have hcl := HC.out k hlt
      rw [← hce] at hb hcl
      obtain ⟨x1, x2, x3⟩ := byte_not hcl.1
      obtain ⟨x4, x5, x6⟩ := byte_not hcl.2
      simp only [Int.cast_ofNat_Int] at x1 x2 x3 x4 x5 x6
      have hkN : (k : Int) < (K : Int) := by omega
      have hkN2 : decide ((k : Int) < (K : Int)) = true := decide_eq_true hkN
      clear hce hcl
      go_wp2
      go_roundg (K - (k + 1))
      case measure => omega
      case rel => exact ⟨k + 1, by omega, by simp, rfl⟩
    · obtain rfl : k = K := by omega
      clear hk hlt
      have hkN : ¬ (k : Int) < (k : Int) := by omega
      have hkN2 : decide ((k : Int) < (k : Int)) = false := decide_eq_false hkN
      go_wp2_with fail
      refine (K1.out _).mono ?_
      rintro e v0 ⟨rfl, hv⟩
      subst v0
      go_wp2_with fail
      refine (K2.out _).mono ?_
      rintro e v1 ⟨rfl, hv⟩
      subst v1
      have z0 := M.cell 0 rfl 0 rfl; have z1 := M.cell 0 rfl 1 rfl; have z2 := M.cell 0 rfl 2 rfl; have y0 := M.fr 0 rfl 0; have y1 := M.fr 0 rfl 1; have y2 := M.fr 0 rfl 2
      go_wp2_with fail
      refine ret_boxN_tmp rfl rfl rfl (M.box 0 rfl) Tryz.underlying27 size_rat rfl ?_
      exact ⟨rfl, M.below⟩
set_option maxRecDepth 100000 in
set_option maxHeartbeats 4000000 in
theorem rq_HA_L1 {w : World} {s d p : ByteArray} (h1 : s.size ≠ 0) (hb : bt s 0 = 45) (hd : ∀ W : World, (Instr.slice 9 (.string s) (some (.int .i64 1)) none none).run Tryz.prog W = .ok (.string d) W) (hr : d.size ≤ 2000) {K : Nat} (hK : K = d.size) (hC : Clear d K) (hp : p = d) (hp0 : p ≠ ⟨#[48]⟩) (hl : 200 < p.size)
    (k1 : ∀ W, Calls Tryz.prog 49 #[.string p] W fun e w' => e = .returned (.bool true) ∧ w' = W)
    (k2 : ∀ W, Calls Tryz.prog 49 #[.string ⟨#[49]⟩] W fun e w' => e = .returned (.bool true) ∧ w' = W) :
    Calls Tryz.prog 10 #[.string s] w fun e w' => e = .returned (.tuple #[.agg #[.bool false, .slice none 0 0, .slice none 0 0], .int .i64 3]) ∧ Below w.heap.size w w' := by
  have K1 := Lib.hid k1
  have K2 := Lib.hid k2
  clear k1 k2
  have hlen : ∀ W : World, (Builtin.len_ #[9] 3 #[.string d]).run Tryz.prog W = .ok (.int .i64 (K : Int)) W := fun W => by rw [run_len_string W _ _ d (by kernel_rfl), hK]; rfl
  have hba := Lib.hid (fun (j : Nat) (hj : j < K) => byte_at d j (by omega))
  have hf : ∀ W : World, (Instr.slice 9 (.string d) none (some (.int .i64 (K : Int))) none).run Tryz.prog W = .ok (.string p) W := fun W => by
      rw [hp]; have this : (Instr.slice 9 (.string d) none (some (.int .i64 (K : Int))) none).run Tryz.prog W = .ok (.string (d.extract 0 K)) W := run_slice_string_h W _ d (by kernel_rfl) .i64 (K : Int) (by omega) (by omega); rw [show d.extract 0 K = d by rw [hK]; exact ext_all _] at this; exact this
  clear hp
  have HC := Lib.hid hC
  have hN1 : K ≤ 2000 := by omega
  have hlp : ∀ W : World, (Builtin.len_ #[9] 3 #[.string p]).run Tryz.prog W = .ok (.int .i64 (p.size : Int)) W := fun W => by rw [run_len_string W _ _ p (by kernel_rfl)]; rfl
  have w1 : (200 : Int) < (p.size : Int) := by omega
  have w2 : decide ((200 : Int) < (p.size : Int)) = true := decide_eq_true w1
  obtain ⟨f1, f2, f3, f4⟩ := some_bytesR s h1
  have hi : ∀ W : World, (Instr.index 9 (.string s) (.int .i64 0)).run Tryz.prog W = .ok (.int .u8 45) W := fun W => by
      have := byte_at s 0 (Nat.pos_of_ne_zero h1) W
      rw [hb] at this
      exact this
  clear hb
  obtain ⟨n1, n2, n3⟩ := not_nought hp0
  have M : Mem w [(w.heap.size, 27, [.bool false, .slice none 0 0, .slice none 0 0])] [] (w.alloc (.cells #[.bool false, .slice none 0 0, .slice none 0 0] 27)) := (Mem.start w).new _ _
  clear hr hK hC h1 hl hp0
  go_enter Tryz.func10, Tryz.ntmps10
  go_wp2
  go_loopg [5] K (fun g x wr => ∃ k : Nat, k + g = K ∧ x = .int .i64 (k : Int) ∧ wr = w.alloc (.cells #[.bool false, .slice none 0 0, .slice none 0 0] 27))
  case atStart => exact ⟨0, by omega, rfl, rfl⟩
  case round =>
    obtain ⟨k, hk, rfl, hw⟩ := hrel
    subst wr
    by_cases hlt : k < K
    · obtain ⟨c, hce⟩ : ∃ c, c = bt d k := ⟨_, rfl⟩
      have hb := hba.out k (by omega)
      have hcl := HC.out k hlt
      rw [← hce] at hb hcl
      obtain ⟨x1, x2, x3⟩ := byte_not hcl.1
      obtain ⟨x4, x5, x6⟩ := byte_not hcl.2
      simp only [Int.cast_ofNat_Int] at x1 x2 x3 x4 x5 x6
      have hkN : (k : Int) < (K : Int) := by omega
      have hkN2 : decide ((k : Int) < (K : Int)) = true := decide_eq_true hkN
      clear hce hcl
      go_wp2
      go_roundg (K - (k + 1))
      case measure => omega
      case rel => exact ⟨k + 1, by omega, by simp, rfl⟩
    · obtain rfl : k = K := by omega
      clear hk hlt
      have hkN : ¬ (k : Int) < (k : Int) := by omega
      have hkN2 : decide ((k : Int) < (k : Int)) = false := decide_eq_false hkN
      go_wp2_with fail
      refine (K1.out _).mono ?_
      rintro e v0 ⟨rfl, hv⟩
      subst v0
      go_wp2_with fail
      refine (K2.out _).mono ?_
      rintro e v1 ⟨rfl, hv⟩
      subst v1
      have z0 := M.cell 0 rfl 0 rfl; have z1 := M.cell 0 rfl 1 rfl; have z2 := M.cell 0 rfl 2 rfl; have y0 := M.fr 0 rfl 0; have y1 := M.fr 0 rfl 1; have y2 := M.fr 0 rfl 2
      go_wp2_with fail
      refine ret_boxN_tmp rfl rfl rfl (M.box 0 rfl) Tryz.underlying27 size_rat rfl ?_
      exact ⟨rfl, M.below⟩
set_option maxRecDepth 100000 in
set_option maxHeartbeats 4000000 in
theorem rq_HA_OK {w : World} {s d p : ByteArray} (h1 : s.size ≠ 0) (hb : bt s 0 = 45) (hd : ∀ W : World, (Instr.slice 9 (.string s) (some (.int .i64 1)) none none).run Tryz.prog W = .ok (.string d) W) (hr : d.size ≤ 2000) {K : Nat} (hK : K = d.size) (hC : Clear d K) (hp : p = d) (hp0 : p ≠ ⟨#[48]⟩) (hl : p.size ≤ 200) {sN sZ : Bool} {Ln Ld LZ DZ : List Nat}
    (k1 : ∀ W, Calls Tryz.prog 49 #[.string p] W fun e w' => e = .returned (.bool true) ∧ w' = W)
    (k2 : ∀ W, Calls Tryz.prog 49 #[.string ⟨#[49]⟩] W fun e w' => e = .returned (.bool true) ∧ w' = W)
    (kn : ∀ W, Calls Tryz.prog 52 #[.string p] W fun e w' => ∃ a c, e = .returned (.slice a Ln.length c) ∧ Reads w' (.slice a Ln.length c) Ln ∧ Below W.heap.size W w')
    (kd : ∀ W, Calls Tryz.prog 52 #[.string ⟨#[49]⟩] W fun e w' => ∃ a c, e = .returned (.slice a Ld.length c) ∧ Reads w' (.slice a Ld.length c) Ld ∧ Below W.heap.size W w')
    (ks : ∀ (W : World) (a : Option Addr) (c : Nat), Calls Tryz.prog 54 #[.bool true, .slice a Ln.length c] W fun e w' => e = .returned (.agg #[.bool sN, .slice a Ln.length c]) ∧ Below W.heap.size W w')
    (kl : ∀ (W : World) {a b : Option Addr} {c d : Nat}, Reads W (.slice a Ln.length c) Ln → Reads W (.slice b Ld.length d) Ld → Calls Tryz.prog 53 #[.agg #[.bool sN, .slice a Ln.length c], .slice b Ld.length d] W fun e w' => ∃ a c a' c', e = .returned (.agg #[.bool sZ, .slice a LZ.length c, .slice a' DZ.length c']) ∧ Reads w' (.slice a LZ.length c) LZ ∧ Reads w' (.slice a' DZ.length c') DZ ∧ Below W.heap.size W w') :
    Calls Tryz.prog 10 #[.string s] w fun e w' => ∃ a c a' c', e = .returned (.tuple #[.agg #[.bool sZ, .slice a LZ.length c, .slice a' DZ.length c'], .int .i64 0]) ∧ Reads w' (.slice a LZ.length c) LZ ∧ Reads w' (.slice a' DZ.length c') DZ ∧ Below w.heap.size w w' := by
  have K1 := Lib.hid k1
  have K2 := Lib.hid k2
  have KN := Lib.hid kn
  have KD := Lib.hid kd
  have KS := Lib.hid ks
  have KL := Lib.hid (fun (W : World) {a b : Option Addr} {c d : Nat} => kl W (a := a) (b := b) (c := c) (d := d))
  clear k1 k2 kn kd ks kl
  have hlen : ∀ W : World, (Builtin.len_ #[9] 3 #[.string d]).run Tryz.prog W = .ok (.int .i64 (K : Int)) W := fun W => by rw [run_len_string W _ _ d (by kernel_rfl), hK]; rfl
  have hba := Lib.hid (fun (j : Nat) (hj : j < K) => byte_at d j (by omega))
  have hf : ∀ W : World, (Instr.slice 9 (.string d) none (some (.int .i64 (K : Int))) none).run Tryz.prog W = .ok (.string p) W := fun W => by
      rw [hp]; have this : (Instr.slice 9 (.string d) none (some (.int .i64 (K : Int))) none).run Tryz.prog W = .ok (.string (d.extract 0 K)) W := run_slice_string_h W _ d (by kernel_rfl) .i64 (K : Int) (by omega) (by omega); rw [show d.extract 0 K = d by rw [hK]; exact ext_all _] at this; exact this
  clear hp
  have HC := Lib.hid hC
  have hN1 : K ≤ 2000 := by omega
  have hlp : ∀ W : World, (Builtin.len_ #[9] 3 #[.string p]).run Tryz.prog W = .ok (.int .i64 (p.size : Int)) W := fun W => by rw [run_len_string W _ _ p (by kernel_rfl)]; rfl
  have w1 : ¬ (200 : Int) < (p.size : Int) := by omega
  have w2 : decide ((200 : Int) < (p.size : Int)) = false := decide_eq_false w1
  obtain ⟨f1, f2, f3, f4⟩ := some_bytesR s h1
  have hi : ∀ W : World, (Instr.index 9 (.string s) (.int .i64 0)).run Tryz.prog W = .ok (.int .u8 45) W := fun W => by
      have := byte_at s 0 (Nat.pos_of_ne_zero h1) W
      rw [hb] at this
      exact this
  clear hb
  obtain ⟨n1, n2, n3⟩ := not_nought hp0
  have M : Mem w [(w.heap.size, 27, [.bool false, .slice none 0 0, .slice none 0 0])] [] (w.alloc (.cells #[.bool false, .slice none 0 0, .slice none 0 0] 27)) := (Mem.start w).new _ _
  clear hr hK hC h1 hl hp0
  go_enter Tryz.func10, Tryz.ntmps10
  go_wp2
  go_loopg [5] K (fun g x wr => ∃ k : Nat, k + g = K ∧ x = .int .i64 (k : Int) ∧ wr = w.alloc (.cells #[.bool false, .slice none 0 0, .slice none 0 0] 27))
  case atStart => exact ⟨0, by omega, rfl, rfl⟩
  case round =>
    obtain ⟨k, hk, rfl, hw⟩ := hrel
    subst wr
    by_cases hlt : k < K
    · obtain ⟨c, hce⟩ : ∃ c, c = bt d k := ⟨_, rfl⟩
      have hb := hba.out k (by omega)
      have hcl := HC.out k hlt
      rw [← hce] at hb hcl
      obtain ⟨x1, x2, x3⟩ := byte_not hcl.1
      obtain ⟨x4, x5, x6⟩ := byte_not hcl.2
      simp only [Int.cast_ofNat_Int] at x1 x2 x3 x4 x5 x6
      have hkN : (k : Int) < (K : Int) := by omega
      have hkN2 : decide ((k : Int) < (K : Int)) = true := decide_eq_true hkN
      clear hce hcl
      go_wp2
      go_roundg (K - (k + 1))
      case measure => omega
      case rel => exact ⟨k + 1, by omega, by simp, rfl⟩
    · obtain rfl : k = K := by omega
      clear hk hlt
      have hkN : ¬ (k : Int) < (k : Int) := by omega
      have hkN2 : decide ((k : Int) < (k : Int)) = false := decide_eq_false hkN
      go_wp2_with fail
      refine (K1.out _).mono ?_
      rintro e v0 ⟨rfl, hv⟩
      subst v0
      go_wp2_with fail
      refine (K2.out _).mono ?_
      rintro e v1 ⟨rfl, hv⟩
      subst v1
      go_wp2_with fail
      refine (KN.out _).mono ?_
      rintro e v2 ⟨an, can, rfl, g, rr⟩
      have M' := (M.up rr).add g; clear M rr g; have M := M'; clear M'
      go_wp2_with fail
      refine (KS.out _ _ _).mono ?_
      rintro e v3 ⟨rfl, rr⟩
      have M' := M.up rr; clear M rr; have M := M'; clear M'
      go_wp2_with fail
      refine (KD.out _).mono ?_
      rintro e v4 ⟨ad, cad, rfl, g, rr⟩
      have M' := (M.up rr).add g; clear M rr g; have M := M'; clear M'
      go_wp2_with fail
      refine (KL.out _ (M.get 1 rfl) (M.get 0 rfl)).mono ?_
      rintro e v5 ⟨az, cz, oz, rz, rfl, g, g', rr⟩
      have M' := ((M.up rr).add g).add g'; clear M rr g g'; have M := M'; clear M'
      have z0 := M.cell 0 rfl 0 rfl; have z1 := M.cell 0 rfl 1 rfl; have z2 := M.cell 0 rfl 2 rfl; have y0 := M.fr 0 rfl 0; have y1 := M.fr 0 rfl 1; have y2 := M.fr 0 rfl 2
      go_wp2_with fail
      have M' := ((M.put 0 rfl rfl 0 (.bool sZ)).put 0 rfl rfl 1 (.slice az LZ.length cz)).put 0 rfl rfl 2 (.slice oz DZ.length rz)
      refine ret_boxN_tmp rfl rfl rfl (M'.box 0 rfl) Tryz.underlying27 size_rat rfl ?_
      exact ⟨az, cz, oz, rz, rfl, M'.get 1 rfl, M'.get 0 rfl, M'.below⟩
set_option maxRecDepth 100000 in
set_option maxHeartbeats 4000000 in
theorem rq_HB_F1 {w : World} {s d p q : ByteArray} (h1 : s.size ≠ 0) (hb : bt s 0 = 45) (hd : ∀ W : World, (Instr.slice 9 (.string s) (some (.int .i64 1)) none none).run Tryz.prog W = .ok (.string d) W) (hr : d.size ≤ 2000) {K : Nat} (hK : K < d.size) (hC : Clear d K) (hc : bt d K = 47) (hp : p = d.extract 0 K) (hq : q = d.extract (K + 1) d.size)
    (k1 : ∀ W, Calls Tryz.prog 49 #[.string p] W fun e w' => e = .returned (.bool false) ∧ w' = W) :
    Calls Tryz.prog 10 #[.string s] w fun e w' => e = .returned (.tuple #[.agg #[.bool false, .slice none 0 0, .slice none 0 0], .int .i64 4]) ∧ Below w.heap.size w w' := by
  have K1 := Lib.hid k1
  clear k1
  have ep : p.size = K := by rw [hp]; exact ext_size0 (by omega)
  have eq0 : q.size = d.size - (K + 1) := by rw [hq]; exact ext_sizeN _ _
  obtain ⟨N, hN⟩ : ∃ N, N = d.size := ⟨_, rfl⟩
  have hlen : ∀ W : World, (Builtin.len_ #[9] 3 #[.string d]).run Tryz.prog W = .ok (.int .i64 (N : Int)) W := fun W => by rw [run_len_string W _ _ d (by kernel_rfl), hN]; rfl
  have hba := Lib.hid (fun (j : Nat) (hj : j < N) => byte_at d j (by omega))
  have hf : ∀ W : World, (Instr.slice 9 (.string d) none (some (.int .i64 (K : Int))) none).run Tryz.prog W = .ok (.string p) W := fun W => by
      rw [hp]; exact run_slice_string_h W _ d (by kernel_rfl) .i64 (K : Int) (by omega) (by omega)
  have hg : ∀ W : World, (Instr.slice 9 (.string d) (some (.int .i64 ((K : Int) + 1))) none none).run Tryz.prog W = .ok (.string q) W := fun W => by
      have : (Instr.slice 9 (.string d) (some (.int .i64 ((K : Int) + 1))) none none).run Tryz.prog W = .ok (.string (d.extract ((K : Int) + 1).toNat d.size)) W := run_slice_string_l W _ d (by kernel_rfl) .i64 ((K : Int) + 1) (by omega) (by omega)
      rw [show ((K : Int) + 1).toNat = K + 1 by omega] at this
      rw [hq]; exact this
  have hw1 : wrap64 ((K : Int) + 1) = (K : Int) + 1 := by unfold wrap64; omega
  clear hp hq
  have HC := Lib.hid hC
  have hKN : K < N := by omega
  have hk1 : (K : Int) < (N : Int) := by omega
  have hk2 : decide ((K : Int) < (N : Int)) = true := decide_eq_true hk1
  have hcK : ∀ W : World, (Instr.index 9 (.string d) (.int .i64 (K : Int))).run Tryz.prog W = .ok (.int .u8 47) W := fun W => by
      have := byte_at d K hK W
      rw [hc] at this
      exact this
  have hN1 : N ≤ 2000 := by omega
  obtain ⟨f1, f2, f3, f4⟩ := some_bytesR s h1
  have hi : ∀ W : World, (Instr.index 9 (.string s) (.int .i64 0)).run Tryz.prog W = .ok (.int .u8 45) W := fun W => by
      have := byte_at s 0 (Nat.pos_of_ne_zero h1) W
      rw [hb] at this
      exact this
  clear hb
  have M : Mem w [(w.heap.size, 27, [.bool false, .slice none 0 0, .slice none 0 0])] [] (w.alloc (.cells #[.bool false, .slice none 0 0, .slice none 0 0] 27)) := (Mem.start w).new _ _
  clear hr hN hC hK hc ep eq0 h1
  go_enter Tryz.func10, Tryz.ntmps10
  go_wp2
  go_loopg [5] K (fun g x wr => ∃ k : Nat, k + g = K ∧ x = .int .i64 (k : Int) ∧ wr = w.alloc (.cells #[.bool false, .slice none 0 0, .slice none 0 0] 27))
  case atStart => exact ⟨0, by omega, rfl, rfl⟩
  case round =>
    obtain ⟨k, hk, rfl, hw⟩ := hrel
    subst wr
    by_cases hlt : k < K
    · obtain ⟨c, hce⟩ : ∃ c, c = bt d k := ⟨_, rfl⟩
      have hb := hba.out k (by omega)
      have hcl := HC.out k hlt
      rw [← hce] at hb hcl
      obtain ⟨x1, x2, x3⟩ := byte_not hcl.1
      obtain ⟨x4, x5, x6⟩ := byte_not hcl.2
      simp only [Int.cast_ofNat_Int] at x1 x2 x3 x4 x5 x6
      have hkN : (k : Int) < (N : Int) := by omega
      have hkN2 : decide ((k : Int) < (N : Int)) = true := decide_eq_true hkN
      clear hce hcl
      go_wp2
      go_roundg (K - (k + 1))
      case measure => omega
      case rel => exact ⟨k + 1, by omega, by simp, rfl⟩
    · obtain rfl : k = K := by omega
      clear hk hlt
      go_wp2_with fail
      refine (K1.out _).mono ?_
      rintro e v0 ⟨rfl, hv⟩
      subst v0
      have z0 := M.cell 0 rfl 0 rfl; have z1 := M.cell 0 rfl 1 rfl; have z2 := M.cell 0 rfl 2 rfl; have y0 := M.fr 0 rfl 0; have y1 := M.fr 0 rfl 1; have y2 := M.fr 0 rfl 2
      go_wp2_with fail
      refine ret_boxN_tmp rfl rfl rfl (M.box 0 rfl) Tryz.underlying27 size_rat rfl ?_
      exact ⟨rfl, M.below⟩
set_option maxRecDepth 100000 in
set_option maxHeartbeats 4000000 in
theorem rq_HB_F2 {w : World} {s d p q : ByteArray} (h1 : s.size ≠ 0) (hb : bt s 0 = 45) (hd : ∀ W : World, (Instr.slice 9 (.string s) (some (.int .i64 1)) none none).run Tryz.prog W = .ok (.string d) W) (hr : d.size ≤ 2000) {K : Nat} (hK : K < d.size) (hC : Clear d K) (hc : bt d K = 47) (hp : p = d.extract 0 K) (hq : q = d.extract (K + 1) d.size)
    (k1 : ∀ W, Calls Tryz.prog 49 #[.string p] W fun e w' => e = .returned (.bool true) ∧ w' = W)
    (k2 : ∀ W, Calls Tryz.prog 49 #[.string q] W fun e w' => e = .returned (.bool false) ∧ w' = W) :
    Calls Tryz.prog 10 #[.string s] w fun e w' => e = .returned (.tuple #[.agg #[.bool false, .slice none 0 0, .slice none 0 0], .int .i64 4]) ∧ Below w.heap.size w w' := by
  have K1 := Lib.hid k1
  have K2 := Lib.hid k2
  clear k1 k2
  have ep : p.size = K := by rw [hp]; exact ext_size0 (by omega)
  have eq0 : q.size = d.size - (K + 1) := by rw [hq]; exact ext_sizeN _ _
  obtain ⟨N, hN⟩ : ∃ N, N = d.size := ⟨_, rfl⟩
  have hlen : ∀ W : World, (Builtin.len_ #[9] 3 #[.string d]).run Tryz.prog W = .ok (.int .i64 (N : Int)) W := fun W => by rw [run_len_string W _ _ d (by kernel_rfl), hN]; rfl
  have hba := Lib.hid (fun (j : Nat) (hj : j < N) => byte_at d j (by omega))
  have hf : ∀ W : World, (Instr.slice 9 (.string d) none (some (.int .i64 (K : Int))) none).run Tryz.prog W = .ok (.string p) W := fun W => by
      rw [hp]; exact run_slice_string_h W _ d (by kernel_rfl) .i64 (K : Int) (by omega) (by omega)
  have hg : ∀ W : World, (Instr.slice 9 (.string d) (some (.int .i64 ((K : Int) + 1))) none none).run Tryz.prog W = .ok (.string q) W := fun W => by
      have : (Instr.slice 9 (.string d) (some (.int .i64 ((K : Int) + 1))) none none).run Tryz.prog W = .ok (.string (d.extract ((K : Int) + 1).toNat d.size)) W := run_slice_string_l W _ d (by kernel_rfl) .i64 ((K : Int) + 1) (by omega) (by omega)
      rw [show ((K : Int) + 1).toNat = K + 1 by omega] at this
      rw [hq]; exact this
  have hw1 : wrap64 ((K : Int) + 1) = (K : Int) + 1 := by unfold wrap64; omega
  clear hp hq
  have HC := Lib.hid hC
  have hKN : K < N := by omega
  have hk1 : (K : Int) < (N : Int) := by omega
  have hk2 : decide ((K : Int) < (N : Int)) = true := decide_eq_true hk1
  have hcK : ∀ W : World, (Instr.index 9 (.string d) (.int .i64 (K : Int))).run Tryz.prog W = .ok (.int .u8 47) W := fun W => by
      have := byte_at d K hK W
      rw [hc] at this
      exact this
  have hN1 : N ≤ 2000 := by omega
  obtain ⟨f1, f2, f3, f4⟩ := some_bytesR s h1
  have hi : ∀ W : World, (Instr.index 9 (.string s) (.int .i64 0)).run Tryz.prog W = .ok (.int .u8 45) W := fun W => by
      have := byte_at s 0 (Nat.pos_of_ne_zero h1) W
      rw [hb] at this
      exact this
  clear hb
  have M : Mem w [(w.heap.size, 27, [.bool false, .slice none 0 0, .slice none 0 0])] [] (w.alloc (.cells #[.bool false, .slice none 0 0, .slice none 0 0] 27)) := (Mem.start w).new _ _
  clear hr hN hC hK hc ep eq0 h1
  go_enter Tryz.func10, Tryz.ntmps10
  go_wp2
  go_loopg [5] K (fun g x wr => ∃ k : Nat, k + g = K ∧ x = .int .i64 (k : Int) ∧ wr = w.alloc (.cells #[.bool false, .slice none 0 0, .slice none 0 0] 27))
  case atStart => exact ⟨0, by omega, rfl, rfl⟩
  case round =>
    obtain ⟨k, hk, rfl, hw⟩ := hrel
    subst wr
    by_cases hlt : k < K
    · obtain ⟨c, hce⟩ : ∃ c, c = bt d k := ⟨_, rfl⟩
      have hb := hba.out k (by omega)
      have hcl := HC.out k hlt
      rw [← hce] at hb hcl
      obtain ⟨x1, x2, x3⟩ := byte_not hcl.1
      obtain ⟨x4, x5, x6⟩ := byte_not hcl.2
      simp only [Int.cast_ofNat_Int] at x1 x2 x3 x4 x5 x6
      have hkN : (k : Int) < (N : Int) := by omega
      have hkN2 : decide ((k : Int) < (N : Int)) = true := decide_eq_true hkN
      clear hce hcl
      go_wp2
      go_roundg (K - (k + 1))
      case measure => omega
      case rel => exact ⟨k + 1, by omega, by simp, rfl⟩
    · obtain rfl : k = K := by omega
      clear hk hlt
      go_wp2_with fail
      refine (K1.out _).mono ?_
      rintro e v0 ⟨rfl, hv⟩
      subst v0
      go_wp2_with fail
      refine (K2.out _).mono ?_
      rintro e v1 ⟨rfl, hv⟩
      subst v1
      have z0 := M.cell 0 rfl 0 rfl; have z1 := M.cell 0 rfl 1 rfl; have z2 := M.cell 0 rfl 2 rfl; have y0 := M.fr 0 rfl 0; have y1 := M.fr 0 rfl 1; have y2 := M.fr 0 rfl 2
      go_wp2_with fail
      refine ret_boxN_tmp rfl rfl rfl (M.box 0 rfl) Tryz.underlying27 size_rat rfl ?_
      exact ⟨rfl, M.below⟩
set_option maxRecDepth 100000 in
set_option maxHeartbeats 4000000 in
theorem rq_HB_F3 {w : World} {s d p q : ByteArray} (h1 : s.size ≠ 0) (hb : bt s 0 = 45) (hd : ∀ W : World, (Instr.slice 9 (.string s) (some (.int .i64 1)) none none).run Tryz.prog W = .ok (.string d) W) (hr : d.size ≤ 2000) {K : Nat} (hK : K < d.size) (hC : Clear d K) (hc : bt d K = 47) (hp : p = d.extract 0 K) (hq : q = d.extract (K + 1) d.size) (hq0 : q = ⟨#[48]⟩)
    (k1 : ∀ W, Calls Tryz.prog 49 #[.string p] W fun e w' => e = .returned (.bool true) ∧ w' = W)
    (k2 : ∀ W, Calls Tryz.prog 49 #[.string q] W fun e w' => e = .returned (.bool true) ∧ w' = W) :
    Calls Tryz.prog 10 #[.string s] w fun e w' => e = .returned (.tuple #[.agg #[.bool false, .slice none 0 0, .slice none 0 0], .int .i64 4]) ∧ Below w.heap.size w w' := by
  have K1 := Lib.hid k1
  have K2 := Lib.hid k2
  clear k1 k2
  have ep : p.size = K := by rw [hp]; exact ext_size0 (by omega)
  have eq0 : q.size = d.size - (K + 1) := by rw [hq]; exact ext_sizeN _ _
  obtain ⟨N, hN⟩ : ∃ N, N = d.size := ⟨_, rfl⟩
  have hlen : ∀ W : World, (Builtin.len_ #[9] 3 #[.string d]).run Tryz.prog W = .ok (.int .i64 (N : Int)) W := fun W => by rw [run_len_string W _ _ d (by kernel_rfl), hN]; rfl
  have hba := Lib.hid (fun (j : Nat) (hj : j < N) => byte_at d j (by omega))
  have hf : ∀ W : World, (Instr.slice 9 (.string d) none (some (.int .i64 (K : Int))) none).run Tryz.prog W = .ok (.string p) W := fun W => by
      rw [hp]; exact run_slice_string_h W _ d (by kernel_rfl) .i64 (K : Int) (by omega) (by omega)
  have hg : ∀ W : World, (Instr.slice 9 (.string d) (some (.int .i64 ((K : Int) + 1))) none none).run Tryz.prog W = .ok (.string q) W := fun W => by
      have : (Instr.slice 9 (.string d) (some (.int .i64 ((K : Int) + 1))) none none).run Tryz.prog W = .ok (.string (d.extract ((K : Int) + 1).toNat d.size)) W := run_slice_string_l W _ d (by kernel_rfl) .i64 ((K : Int) + 1) (by omega) (by omega)
      rw [show ((K : Int) + 1).toNat = K + 1 by omega] at this
      rw [hq]; exact this
  have hw1 : wrap64 ((K : Int) + 1) = (K : Int) + 1 := by unfold wrap64; omega
  clear hp hq
  have HC := Lib.hid hC
  have hKN : K < N := by omega
  have hk1 : (K : Int) < (N : Int) := by omega
  have hk2 : decide ((K : Int) < (N : Int)) = true := decide_eq_true hk1
  have hcK : ∀ W : World, (Instr.index 9 (.string d) (.int .i64 (K : Int))).run Tryz.prog W = .ok (.int .u8 47) W := fun W => by
      have := byte_at d K hK W
      rw [hc] at this
      exact this
  have hN1 : N ≤ 2000 := by omega
  obtain ⟨f1, f2, f3, f4⟩ := some_bytesR s h1
  have hi : ∀ W : World, (Instr.index 9 (.string s) (.int .i64 0)).run Tryz.prog W = .ok (.int .u8 45) W := fun W => by
      have := byte_at s 0 (Nat.pos_of_ne_zero h1) W
      rw [hb] at this
      exact this
  clear hb
  subst hq0
  have M : Mem w [(w.heap.size, 27, [.bool false, .slice none 0 0, .slice none 0 0])] [] (w.alloc (.cells #[.bool false, .slice none 0 0, .slice none 0 0] 27)) := (Mem.start w).new _ _
  clear hr hN hC hK hc ep eq0 h1
  go_enter Tryz.func10, Tryz.ntmps10
  go_wp2
  go_loopg [5] K (fun g x wr => ∃ k : Nat, k + g = K ∧ x = .int .i64 (k : Int) ∧ wr = w.alloc (.cells #[.bool false, .slice none 0 0, .slice none 0 0] 27))
  case atStart => exact ⟨0, by omega, rfl, rfl⟩
  case round =>
    obtain ⟨k, hk, rfl, hw⟩ := hrel
    subst wr
    by_cases hlt : k < K
    · obtain ⟨c, hce⟩ : ∃ c, c = bt d k := ⟨_, rfl⟩
      have hb := hba.out k (by omega)
      have hcl := HC.out k hlt
      rw [← hce] at hb hcl
      obtain ⟨x1, x2, x3⟩ := byte_not hcl.1
      obtain ⟨x4, x5, x6⟩ := byte_not hcl.2
      simp only [Int.cast_ofNat_Int] at x1 x2 x3 x4 x5 x6
      have hkN : (k : Int) < (N : Int) := by omega
      have hkN2 : decide ((k : Int) < (N : Int)) = true := decide_eq_true hkN
      clear hce hcl
      go_wp2
      go_roundg (K - (k + 1))
      case measure => omega
      case rel => exact ⟨k + 1, by omega, by simp, rfl⟩
    · obtain rfl : k = K := by omega
      clear hk hlt
      go_wp2_with fail
      refine (K1.out _).mono ?_
      rintro e v0 ⟨rfl, hv⟩
      subst v0
      go_wp2_with fail
      refine (K2.out _).mono ?_
      rintro e v1 ⟨rfl, hv⟩
      subst v1
      have z0 := M.cell 0 rfl 0 rfl; have z1 := M.cell 0 rfl 1 rfl; have z2 := M.cell 0 rfl 2 rfl; have y0 := M.fr 0 rfl 0; have y1 := M.fr 0 rfl 1; have y2 := M.fr 0 rfl 2
      go_wp2_with fail
      refine ret_boxN_tmp rfl rfl rfl (M.box 0 rfl) Tryz.underlying27 size_rat rfl ?_
      exact ⟨rfl, M.below⟩
set_option maxRecDepth 100000 in
set_option maxHeartbeats 4000000 in
theorem rq_HB_Z {w : World} {s d p q : ByteArray} (h1 : s.size ≠ 0) (hb : bt s 0 = 45) (hd : ∀ W : World, (Instr.slice 9 (.string s) (some (.int .i64 1)) none none).run Tryz.prog W = .ok (.string d) W) (hr : d.size ≤ 2000) {K : Nat} (hK : K < d.size) (hC : Clear d K) (hc : bt d K = 47) (hp : p = d.extract 0 K) (hq : q = d.extract (K + 1) d.size) (hq0 : q ≠ ⟨#[48]⟩) (hp0 : p = ⟨#[48]⟩)
    (k1 : ∀ W, Calls Tryz.prog 49 #[.string p] W fun e w' => e = .returned (.bool true) ∧ w' = W)
    (k2 : ∀ W, Calls Tryz.prog 49 #[.string q] W fun e w' => e = .returned (.bool true) ∧ w' = W) :
    Calls Tryz.prog 10 #[.string s] w fun e w' => e = .returned (.tuple #[.agg #[.bool false, .slice none 0 0, .slice none 0 0], .int .i64 4]) ∧ Below w.heap.size w w' := by
  have K1 := Lib.hid k1
  have K2 := Lib.hid k2
  clear k1 k2
  have ep : p.size = K := by rw [hp]; exact ext_size0 (by omega)
  have eq0 : q.size = d.size - (K + 1) := by rw [hq]; exact ext_sizeN _ _
  obtain ⟨N, hN⟩ : ∃ N, N = d.size := ⟨_, rfl⟩
  have hlen : ∀ W : World, (Builtin.len_ #[9] 3 #[.string d]).run Tryz.prog W = .ok (.int .i64 (N : Int)) W := fun W => by rw [run_len_string W _ _ d (by kernel_rfl), hN]; rfl
  have hba := Lib.hid (fun (j : Nat) (hj : j < N) => byte_at d j (by omega))
  have hf : ∀ W : World, (Instr.slice 9 (.string d) none (some (.int .i64 (K : Int))) none).run Tryz.prog W = .ok (.string p) W := fun W => by
      rw [hp]; exact run_slice_string_h W _ d (by kernel_rfl) .i64 (K : Int) (by omega) (by omega)
  have hg : ∀ W : World, (Instr.slice 9 (.string d) (some (.int .i64 ((K : Int) + 1))) none none).run Tryz.prog W = .ok (.string q) W := fun W => by
      have : (Instr.slice 9 (.string d) (some (.int .i64 ((K : Int) + 1))) none none).run Tryz.prog W = .ok (.string (d.extract ((K : Int) + 1).toNat d.size)) W := run_slice_string_l W _ d (by kernel_rfl) .i64 ((K : Int) + 1) (by omega) (by omega)
      rw [show ((K : Int) + 1).toNat = K + 1 by omega] at this
      rw [hq]; exact this
  have hw1 : wrap64 ((K : Int) + 1) = (K : Int) + 1 := by unfold wrap64; omega
  clear hp hq
  have HC := Lib.hid hC
  have hKN : K < N := by omega
  have hk1 : (K : Int) < (N : Int) := by omega
  have hk2 : decide ((K : Int) < (N : Int)) = true := decide_eq_true hk1
  have hcK : ∀ W : World, (Instr.index 9 (.string d) (.int .i64 (K : Int))).run Tryz.prog W = .ok (.int .u8 47) W := fun W => by
      have := byte_at d K hK W
      rw [hc] at this
      exact this
  have hN1 : N ≤ 2000 := by omega
  obtain ⟨f1, f2, f3, f4⟩ := some_bytesR s h1
  have hi : ∀ W : World, (Instr.index 9 (.string s) (.int .i64 0)).run Tryz.prog W = .ok (.int .u8 45) W := fun W => by
      have := byte_at s 0 (Nat.pos_of_ne_zero h1) W
      rw [hb] at this
      exact this
  clear hb
  obtain ⟨d1, d2, d3⟩ := not_nought hq0
  subst hp0
  have M : Mem w [(w.heap.size, 27, [.bool false, .slice none 0 0, .slice none 0 0])] [] (w.alloc (.cells #[.bool false, .slice none 0 0, .slice none 0 0] 27)) := (Mem.start w).new _ _
  clear hr hN hC hK hc ep eq0 h1 hq0
  go_enter Tryz.func10, Tryz.ntmps10
  go_wp2
  go_loopg [5] K (fun g x wr => ∃ k : Nat, k + g = K ∧ x = .int .i64 (k : Int) ∧ wr = w.alloc (.cells #[.bool false, .slice none 0 0, .slice none 0 0] 27))
  case atStart => exact ⟨0, by omega, rfl, rfl⟩
  case round =>
    obtain ⟨k, hk, rfl, hw⟩ := hrel
    subst wr
    by_cases hlt : k < K
    · obtain ⟨c, hce⟩ : ∃ c, c = bt d k := ⟨_, rfl⟩
      have hb := hba.out k (by omega)
      have hcl := HC.out k hlt
      rw [← hce] at hb hcl
      obtain ⟨x1, x2, x3⟩ := byte_not hcl.1
      obtain ⟨x4, x5, x6⟩ := byte_not hcl.2
      simp only [Int.cast_ofNat_Int] at x1 x2 x3 x4 x5 x6
      have hkN : (k : Int) < (N : Int) := by omega
      have hkN2 : decide ((k : Int) < (N : Int)) = true := decide_eq_true hkN
      clear hce hcl
      go_wp2
      go_roundg (K - (k + 1))
      case measure => omega
      case rel => exact ⟨k + 1, by omega, by simp, rfl⟩
    · obtain rfl : k = K := by omega
      clear hk hlt
      go_wp2_with fail
      refine (K1.out _).mono ?_
      rintro e v0 ⟨rfl, hv⟩
      subst v0
      go_wp2_with fail
      refine (K2.out _).mono ?_
      rintro e v1 ⟨rfl, hv⟩
      subst v1
      have z0 := M.cell 0 rfl 0 rfl; have z1 := M.cell 0 rfl 1 rfl; have z2 := M.cell 0 rfl 2 rfl; have y0 := M.fr 0 rfl 0; have y1 := M.fr 0 rfl 1; have y2 := M.fr 0 rfl 2
      go_wp2_with fail
      refine ret_boxN_tmp rfl rfl rfl (M.box 0 rfl) Tryz.underlying27 size_rat rfl ?_
      exact ⟨rfl, M.below⟩
set_option maxRecDepth 100000 in
set_option maxHeartbeats 4000000 in
theorem rq_HB_L1 {w : World} {s d p q : ByteArray} (h1 : s.size ≠ 0) (hb : bt s 0 = 45) (hd : ∀ W : World, (Instr.slice 9 (.string s) (some (.int .i64 1)) none none).run Tryz.prog W = .ok (.string d) W) (hr : d.size ≤ 2000) {K : Nat} (hK : K < d.size) (hC : Clear d K) (hc : bt d K = 47) (hp : p = d.extract 0 K) (hq : q = d.extract (K + 1) d.size) (hq0 : q ≠ ⟨#[48]⟩) (hp0 : p ≠ ⟨#[48]⟩) (hl : 200 < p.size)
    (k1 : ∀ W, Calls Tryz.prog 49 #[.string p] W fun e w' => e = .returned (.bool true) ∧ w' = W)
    (k2 : ∀ W, Calls Tryz.prog 49 #[.string q] W fun e w' => e = .returned (.bool true) ∧ w' = W) :
    Calls Tryz.prog 10 #[.string s] w fun e w' => e = .returned (.tuple #[.agg #[.bool false, .slice none 0 0, .slice none 0 0], .int .i64 3]) ∧ Below w.heap.size w w' := by
  have K1 := Lib.hid k1
  have K2 := Lib.hid k2
  clear k1 k2
  have ep : p.size = K := by rw [hp]; exact ext_size0 (by omega)
  have eq0 : q.size = d.size - (K + 1) := by rw [hq]; exact ext_sizeN _ _
  obtain ⟨N, hN⟩ : ∃ N, N = d.size := ⟨_, rfl⟩
  have hlen : ∀ W : World, (Builtin.len_ #[9] 3 #[.string d]).run Tryz.prog W = .ok (.int .i64 (N : Int)) W := fun W => by rw [run_len_string W _ _ d (by kernel_rfl), hN]; rfl
  have hba := Lib.hid (fun (j : Nat) (hj : j < N) => byte_at d j (by omega))
  have hf : ∀ W : World, (Instr.slice 9 (.string d) none (some (.int .i64 (K : Int))) none).run Tryz.prog W = .ok (.string p) W := fun W => by
      rw [hp]; exact run_slice_string_h W _ d (by kernel_rfl) .i64 (K : Int) (by omega) (by omega)
  have hg : ∀ W : World, (Instr.slice 9 (.string d) (some (.int .i64 ((K : Int) + 1))) none none).run Tryz.prog W = .ok (.string q) W := fun W => by
      have : (Instr.slice 9 (.string d) (some (.int .i64 ((K : Int) + 1))) none none).run Tryz.prog W = .ok (.string (d.extract ((K : Int) + 1).toNat d.size)) W := run_slice_string_l W _ d (by kernel_rfl) .i64 ((K : Int) + 1) (by omega) (by omega)
      rw [show ((K : Int) + 1).toNat = K + 1 by omega] at this
      rw [hq]; exact this
  have hw1 : wrap64 ((K : Int) + 1) = (K : Int) + 1 := by unfold wrap64; omega
  clear hp hq
  have HC := Lib.hid hC
  have hKN : K < N := by omega
  have hk1 : (K : Int) < (N : Int) := by omega
  have hk2 : decide ((K : Int) < (N : Int)) = true := decide_eq_true hk1
  have hcK : ∀ W : World, (Instr.index 9 (.string d) (.int .i64 (K : Int))).run Tryz.prog W = .ok (.int .u8 47) W := fun W => by
      have := byte_at d K hK W
      rw [hc] at this
      exact this
  have hN1 : N ≤ 2000 := by omega
  have hlp : ∀ W : World, (Builtin.len_ #[9] 3 #[.string p]).run Tryz.prog W = .ok (.int .i64 (p.size : Int)) W := fun W => by rw [run_len_string W _ _ p (by kernel_rfl)]; rfl
  have hlq : ∀ W : World, (Builtin.len_ #[9] 3 #[.string q]).run Tryz.prog W = .ok (.int .i64 (q.size : Int)) W := fun W => by rw [run_len_string W _ _ q (by kernel_rfl)]; rfl
  have w1 : (200 : Int) < (p.size : Int) := by omega
  have w2 : decide ((200 : Int) < (p.size : Int)) = true := decide_eq_true w1
  obtain ⟨f1, f2, f3, f4⟩ := some_bytesR s h1
  have hi : ∀ W : World, (Instr.index 9 (.string s) (.int .i64 0)).run Tryz.prog W = .ok (.int .u8 45) W := fun W => by
      have := byte_at s 0 (Nat.pos_of_ne_zero h1) W
      rw [hb] at this
      exact this
  clear hb
  obtain ⟨d1, d2, d3⟩ := not_nought hq0
  obtain ⟨n1, n2, n3⟩ := not_nought hp0
  have M : Mem w [(w.heap.size, 27, [.bool false, .slice none 0 0, .slice none 0 0])] [] (w.alloc (.cells #[.bool false, .slice none 0 0, .slice none 0 0] 27)) := (Mem.start w).new _ _
  clear hr hN hC hK hc ep eq0 h1 hl hq0 hp0
  go_enter Tryz.func10, Tryz.ntmps10
  go_wp2
  go_loopg [5] K (fun g x wr => ∃ k : Nat, k + g = K ∧ x = .int .i64 (k : Int) ∧ wr = w.alloc (.cells #[.bool false, .slice none 0 0, .slice none 0 0] 27))
  case atStart => exact ⟨0, by omega, rfl, rfl⟩
  case round =>
    obtain ⟨k, hk, rfl, hw⟩ := hrel
    subst wr
    by_cases hlt : k < K
    · obtain ⟨c, hce⟩ : ∃ c, c = bt d k := ⟨_, rfl⟩
      have hb := hba.out k (by omega)
      have hcl := HC.out k hlt
      rw [← hce] at hb hcl
      obtain ⟨x1, x2, x3⟩ := byte_not hcl.1
      obtain ⟨x4, x5, x6⟩ := byte_not hcl.2
      simp only [Int.cast_ofNat_Int] at x1 x2 x3 x4 x5 x6
      have hkN : (k : Int) < (N : Int) := by omega
      have hkN2 : decide ((k : Int) < (N : Int)) = true := decide_eq_true hkN
      clear hce hcl
      go_wp2
      go_roundg (K - (k + 1))
      case measure => omega
      case rel => exact ⟨k + 1, by omega, by simp, rfl⟩
    · obtain rfl : k = K := by omega
      clear hk hlt
      go_wp2_with fail
      refine (K1.out _).mono ?_
      rintro e v0 ⟨rfl, hv⟩
      subst v0
      go_wp2_with fail
      refine (K2.out _).mono ?_
      rintro e v1 ⟨rfl, hv⟩
      subst v1
      have z0 := M.cell 0 rfl 0 rfl; have z1 := M.cell 0 rfl 1 rfl; have z2 := M.cell 0 rfl 2 rfl; have y0 := M.fr 0 rfl 0; have y1 := M.fr 0 rfl 1; have y2 := M.fr 0 rfl 2
      go_wp2_with fail
      refine ret_boxN_tmp rfl rfl rfl (M.box 0 rfl) Tryz.underlying27 size_rat rfl ?_
      exact ⟨rfl, M.below⟩
set_option maxRecDepth 100000 in
set_option maxHeartbeats 4000000 in
theorem rq_HB_L2 {w : World} {s d p q : ByteArray} (h1 : s.size ≠ 0) (hb : bt s 0 = 45) (hd : ∀ W : World, (Instr.slice 9 (.string s) (some (.int .i64 1)) none none).run Tryz.prog W = .ok (.string d) W) (hr : d.size ≤ 2000) {K : Nat} (hK : K < d.size) (hC : Clear d K) (hc : bt d K = 47) (hp : p = d.extract 0 K) (hq : q = d.extract (K + 1) d.size) (hq0 : q ≠ ⟨#[48]⟩) (hp0 : p ≠ ⟨#[48]⟩) (hl : p.size ≤ 200) (hl2 : 200 < q.size)
    (k1 : ∀ W, Calls Tryz.prog 49 #[.string p] W fun e w' => e = .returned (.bool true) ∧ w' = W)
    (k2 : ∀ W, Calls Tryz.prog 49 #[.string q] W fun e w' => e = .returned (.bool true) ∧ w' = W) :
    Calls Tryz.prog 10 #[.string s] w fun e w' => e = .returned (.tuple #[.agg #[.bool false, .slice none 0 0, .slice none 0 0], .int .i64 3]) ∧ Below w.heap.size w w' := by
  have K1 := Lib.hid k1
  have K2 := Lib.hid k2
  clear k1 k2
  have ep : p.size = K := by rw [hp]; exact ext_size0 (by omega)
  have eq0 : q.size = d.size - (K + 1) := by rw [hq]; exact ext_sizeN _ _
  obtain ⟨N, hN⟩ : ∃ N, N = d.size := ⟨_, rfl⟩
  have hlen : ∀ W : World, (Builtin.len_ #[9] 3 #[.string d]).run Tryz.prog W = .ok (.int .i64 (N : Int)) W := fun W => by rw [run_len_string W _ _ d (by kernel_rfl), hN]; rfl
  have hba := Lib.hid (fun (j : Nat) (hj : j < N) => byte_at d j (by omega))
  have hf : ∀ W : World, (Instr.slice 9 (.string d) none (some (.int .i64 (K : Int))) none).run Tryz.prog W = .ok (.string p) W := fun W => by
      rw [hp]; exact run_slice_string_h W _ d (by kernel_rfl) .i64 (K : Int) (by omega) (by omega)
  have hg : ∀ W : World, (Instr.slice 9 (.string d) (some (.int .i64 ((K : Int) + 1))) none none).run Tryz.prog W = .ok (.string q) W := fun W => by
      have : (Instr.slice 9 (.string d) (some (.int .i64 ((K : Int) + 1))) none none).run Tryz.prog W = .ok (.string (d.extract ((K : Int) + 1).toNat d.size)) W := run_slice_string_l W _ d (by kernel_rfl) .i64 ((K : Int) + 1) (by omega) (by omega)
      rw [show ((K : Int) + 1).toNat = K + 1 by omega] at this
      rw [hq]; exact this
  have hw1 : wrap64 ((K : Int) + 1) = (K : Int) + 1 := by unfold wrap64; omega
  clear hp hq
  have HC := Lib.hid hC
  have hKN : K < N := by omega
  have hk1 : (K : Int) < (N : Int) := by omega
  have hk2 : decide ((K : Int) < (N : Int)) = true := decide_eq_true hk1
  have hcK : ∀ W : World, (Instr.index 9 (.string d) (.int .i64 (K : Int))).run Tryz.prog W = .ok (.int .u8 47) W := fun W => by
      have := byte_at d K hK W
      rw [hc] at this
      exact this
  have hN1 : N ≤ 2000 := by omega
  have hlp : ∀ W : World, (Builtin.len_ #[9] 3 #[.string p]).run Tryz.prog W = .ok (.int .i64 (p.size : Int)) W := fun W => by rw [run_len_string W _ _ p (by kernel_rfl)]; rfl
  have hlq : ∀ W : World, (Builtin.len_ #[9] 3 #[.string q]).run Tryz.prog W = .ok (.int .i64 (q.size : Int)) W := fun W => by rw [run_len_string W _ _ q (by kernel_rfl)]; rfl
  have w1 : ¬ (200 : Int) < (p.size : Int) := by omega
  have w2 : decide ((200 : Int) < (p.size : Int)) = false := decide_eq_false w1
  have v1 : (200 : Int) < (q.size : Int) := by omega
  have v2 : decide ((200 : Int) < (q.size : Int)) = true := decide_eq_true v1
  obtain ⟨f1, f2, f3, f4⟩ := some_bytesR s h1
  have hi : ∀ W : World, (Instr.index 9 (.string s) (.int .i64 0)).run Tryz.prog W = .ok (.int .u8 45) W := fun W => by
      have := byte_at s 0 (Nat.pos_of_ne_zero h1) W
      rw [hb] at this
      exact this
  clear hb
  obtain ⟨d1, d2, d3⟩ := not_nought hq0
  obtain ⟨n1, n2, n3⟩ := not_nought hp0
  have M : Mem w [(w.heap.size, 27, [.bool false, .slice none 0 0, .slice none 0 0])] [] (w.alloc (.cells #[.bool false, .slice none 0 0, .slice none 0 0] 27)) := (Mem.start w).new _ _
  clear hr hN hC hK hc ep eq0 h1 hl hl2 hq0 hp0
  go_enter Tryz.func10, Tryz.ntmps10
  go_wp2
  go_loopg [5] K (fun g x wr => ∃ k : Nat, k + g = K ∧ x = .int .i64 (k : Int) ∧ wr = w.alloc (.cells #[.bool false, .slice none 0 0, .slice none 0 0] 27))
  case atStart => exact ⟨0, by omega, rfl, rfl⟩
  case round =>
    obtain ⟨k, hk, rfl, hw⟩ := hrel
    subst wr
    by_cases hlt : k < K
    · obtain ⟨c, hce⟩ : ∃ c, c = bt d k := ⟨_, rfl⟩
      have hb := hba.out k (by omega)
      have hcl := HC.out k hlt
      rw [← hce] at hb hcl
      obtain ⟨x1, x2, x3⟩ := byte_not hcl.1
      obtain ⟨x4, x5, x6⟩ := byte_not hcl.2
      simp only [Int.cast_ofNat_Int] at x1 x2 x3 x4 x5 x6
      have hkN : (k : Int) < (N : Int) := by omega
      have hkN2 : decide ((k : Int) < (N : Int)) = true := decide_eq_true hkN
      clear hce hcl
      go_wp2
      go_roundg (K - (k + 1))
      case measure => omega
      case rel => exact ⟨k + 1, by omega, by simp, rfl⟩
    · obtain rfl : k = K := by omega
      clear hk hlt
      go_wp2_with fail
      refine (K1.out _).mono ?_
      rintro e v0 ⟨rfl, hv⟩
      subst v0
      go_wp2_with fail
      refine (K2.out _).mono ?_
      rintro e v1 ⟨rfl, hv⟩
      subst v1
      have z0 := M.cell 0 rfl 0 rfl; have z1 := M.cell 0 rfl 1 rfl; have z2 := M.cell 0 rfl 2 rfl; have y0 := M.fr 0 rfl 0; have y1 := M.fr 0 rfl 1; have y2 := M.fr 0 rfl 2
      go_wp2_with fail
      refine ret_boxN_tmp rfl rfl rfl (M.box 0 rfl) Tryz.underlying27 size_rat rfl ?_
      exact ⟨rfl, M.below⟩
set_option maxRecDepth 100000 in
set_option maxHeartbeats 4000000 in
theorem rq_HB_OK {w : World} {s d p q : ByteArray} (h1 : s.size ≠ 0) (hb : bt s 0 = 45) (hd : ∀ W : World, (Instr.slice 9 (.string s) (some (.int .i64 1)) none none).run Tryz.prog W = .ok (.string d) W) (hr : d.size ≤ 2000) {K : Nat} (hK : K < d.size) (hC : Clear d K) (hc : bt d K = 47) (hp : p = d.extract 0 K) (hq : q = d.extract (K + 1) d.size) (hq0 : q ≠ ⟨#[48]⟩) (hp0 : p ≠ ⟨#[48]⟩) (hl : p.size ≤ 200) (hl2 : q.size ≤ 200) {sN sZ : Bool} {Ln Ld LZ DZ : List Nat}
    (k1 : ∀ W, Calls Tryz.prog 49 #[.string p] W fun e w' => e = .returned (.bool true) ∧ w' = W)
    (k2 : ∀ W, Calls Tryz.prog 49 #[.string q] W fun e w' => e = .returned (.bool true) ∧ w' = W)
    (kn : ∀ W, Calls Tryz.prog 52 #[.string p] W fun e w' => ∃ a c, e = .returned (.slice a Ln.length c) ∧ Reads w' (.slice a Ln.length c) Ln ∧ Below W.heap.size W w')
    (kd : ∀ W, Calls Tryz.prog 52 #[.string q] W fun e w' => ∃ a c, e = .returned (.slice a Ld.length c) ∧ Reads w' (.slice a Ld.length c) Ld ∧ Below W.heap.size W w')
    (ks : ∀ (W : World) (a : Option Addr) (c : Nat), Calls Tryz.prog 54 #[.bool true, .slice a Ln.length c] W fun e w' => e = .returned (.agg #[.bool sN, .slice a Ln.length c]) ∧ Below W.heap.size W w')
    (kl : ∀ (W : World) {a b : Option Addr} {c d : Nat}, Reads W (.slice a Ln.length c) Ln → Reads W (.slice b Ld.length d) Ld → Calls Tryz.prog 53 #[.agg #[.bool sN, .slice a Ln.length c], .slice b Ld.length d] W fun e w' => ∃ a c a' c', e = .returned (.agg #[.bool sZ, .slice a LZ.length c, .slice a' DZ.length c']) ∧ Reads w' (.slice a LZ.length c) LZ ∧ Reads w' (.slice a' DZ.length c') DZ ∧ Below W.heap.size W w') :
    Calls Tryz.prog 10 #[.string s] w fun e w' => ∃ a c a' c', e = .returned (.tuple #[.agg #[.bool sZ, .slice a LZ.length c, .slice a' DZ.length c'], .int .i64 0]) ∧ Reads w' (.slice a LZ.length c) LZ ∧ Reads w' (.slice a' DZ.length c') DZ ∧ Below w.heap.size w w' := by
  have K1 := Lib.hid k1
  have K2 := Lib.hid k2
  have KN := Lib.hid kn
  have KD := Lib.hid kd
  have KS := Lib.hid ks
  have KL := Lib.hid (fun (W : World) {a b : Option Addr} {c d : Nat} => kl W (a := a) (b := b) (c := c) (d := d))
  clear k1 k2 kn kd ks kl
  have ep : p.size = K := by rw [hp]; exact ext_size0 (by omega)
  have eq0 : q.size = d.size - (K + 1) := by rw [hq]; exact ext_sizeN _ _
  obtain ⟨N, hN⟩ : ∃ N, N = d.size := ⟨_, rfl⟩
  have hlen : ∀ W : World, (Builtin.len_ #[9] 3 #[.string d]).run Tryz.prog W = .ok (.int .i64 (N : Int)) W := fun W => by rw [run_len_string W _ _ d (by kernel_rfl), hN]; rfl
  have hba := Lib.hid (fun (j : Nat) (hj : j < N) => byte_at d j (by omega))
  have hf : ∀ W : World, (Instr.slice 9 (.string d) none (some (.int .i64 (K : Int))) none).run Tryz.prog W = .ok (.string p) W := fun W => by
      rw [hp]; exact run_slice_string_h W _ d (by kernel_rfl) .i64 (K : Int) (by omega) (by omega)
  have hg : ∀ W : World, (Instr.slice 9 (.string d) (some (.int .i64 ((K : Int) + 1))) none none).run Tryz.prog W = .ok (.string q) W := fun W => by
      have : (Instr.slice 9 (.string d) (some (.int .i64 ((K : Int) + 1))) none none).run Tryz.prog W = .ok (.string (d.extract ((K : Int) + 1).toNat d.size)) W := run_slice_string_l W _ d (by kernel_rfl) .i64 ((K : Int) + 1) (by omega) (by omega)
      rw [show ((K : Int) + 1).toNat = K + 1 by omega] at this
      rw [hq]; exact this
  have hw1 : wrap64 ((K : Int) + 1) = (K : Int) + 1 := by unfold wrap64; omega
  clear hp hq
  have HC := Lib.hid hC
  have hKN : K < N := by omega
  have hk1 : (K : Int) < (N : Int) := by omega
  have hk2 : decide ((K : Int) < (N : Int)) = true := decide_eq_true hk1
  have hcK : ∀ W : World, (Instr.index 9 (.string d) (.int .i64 (K : Int))).run Tryz.prog W = .ok (.int .u8 47) W := fun W => by
      have := byte_at d K hK W
      rw [hc] at this
      exact this
  have hN1 : N ≤ 2000 := by omega
  have hlp : ∀ W : World, (Builtin.len_ #[9] 3 #[.string p]).run Tryz.prog W = .ok (.int .i64 (p.size : Int)) W := fun W => by rw [run_len_string W _ _ p (by kernel_rfl)]; rfl
  have hlq : ∀ W : World, (Builtin.len_ #[9] 3 #[.string q]).run Tryz.prog W = .ok (.int .i64 (q.size : Int)) W := fun W => by rw [run_len_string W _ _ q (by kernel_rfl)]; rfl
  have w1 : ¬ (200 : Int) < (p.size : Int) := by omega
  have w2 : decide ((200 : Int) < (p.size : Int)) = false := decide_eq_false w1
  have v1 : ¬ (200 : Int) < (q.size : Int) := by omega
  have v2 : decide ((200 : Int) < (q.size : Int)) = false := decide_eq_false v1
  obtain ⟨f1, f2, f3, f4⟩ := some_bytesR s h1
  have hi : ∀ W : World, (Instr.index 9 (.string s) (.int .i64 0)).run Tryz.prog W = .ok (.int .u8 45) W := fun W => by
      have := byte_at s 0 (Nat.pos_of_ne_zero h1) W
      rw [hb] at this
      exact this
  clear hb
  obtain ⟨d1, d2, d3⟩ := not_nought hq0
  obtain ⟨n1, n2, n3⟩ := not_nought hp0
  have M : Mem w [(w.heap.size, 27, [.bool false, .slice none 0 0, .slice none 0 0])] [] (w.alloc (.cells #[.bool false, .slice none 0 0, .slice none 0 0] 27)) := (Mem.start w).new _ _
  clear hr hN hC hK hc ep eq0 h1 hl hl2 hq0 hp0
  go_enter Tryz.func10, Tryz.ntmps10
  go_wp2
  go_loopg [5] K (fun g x wr => ∃ k : Nat, k + g = K ∧ x = .int .i64 (k : Int) ∧ wr = w.alloc (.cells #[.bool false, .slice none 0 0, .slice none 0 0] 27))
  case atStart => exact ⟨0, by omega, rfl, rfl⟩
  case round =>
    obtain ⟨k, hk, rfl, hw⟩ := hrel
    subst wr
    by_cases hlt : k < K
    · obtain ⟨c, hce⟩ : ∃ c, c = bt d k := ⟨_, rfl⟩
      have hb := hba.out k (by omega)
      have hcl := HC.out k hlt
      rw [← hce] at hb hcl
      obtain ⟨x1, x2, x3⟩ := byte_not hcl.1
      obtain ⟨x4, x5, x6⟩ := byte_not hcl.2
      simp only [Int.cast_ofNat_Int] at x1 x2 x3 x4 x5 x6
      have hkN : (k : Int) < (N : Int) := by omega
      have hkN2 : decide ((k : Int) < (N : Int)) = true := decide_eq_true hkN
      clear hce hcl
      go_wp2
      go_roundg (K - (k + 1))
      case measure => omega
      case rel => exact ⟨k + 1, by omega, by simp, rfl⟩
    · obtain rfl : k = K := by omega
      clear hk hlt
      go_wp2_with fail
      refine (K1.out _).mono ?_
      rintro e v0 ⟨rfl, hv⟩
      subst v0
      go_wp2_with fail
      refine (K2.out _).mono ?_
      rintro e v1 ⟨rfl, hv⟩
      subst v1
      go_wp2_with fail
      refine (KN.out _).mono ?_
      rintro e v2 ⟨an, can, rfl, g, rr⟩
      have M' := (M.up rr).add g; clear M rr g; have M := M'; clear M'
      go_wp2_with fail
      refine (KS.out _ _ _).mono ?_
      rintro e v3 ⟨rfl, rr⟩
      have M' := M.up rr; clear M rr; have M := M'; clear M'
      go_wp2_with fail
      refine (KD.out _).mono ?_
      rintro e v4 ⟨ad, cad, rfl, g, rr⟩
      have M' := (M.up rr).add g; clear M rr g; have M := M'; clear M'
      go_wp2_with fail
      refine (KL.out _ (M.get 1 rfl) (M.get 0 rfl)).mono ?_
      rintro e v5 ⟨az, cz, oz, rz, rfl, g, g', rr⟩
      have M' := ((M.up rr).add g).add g'; clear M rr g g'; have M := M'; clear M'
      have z0 := M.cell 0 rfl 0 rfl; have z1 := M.cell 0 rfl 1 rfl; have z2 := M.cell 0 rfl 2 rfl; have y0 := M.fr 0 rfl 0; have y1 := M.fr 0 rfl 1; have y2 := M.fr 0 rfl 2
      go_wp2_with fail
      have M' := ((M.put 0 rfl rfl 0 (.bool sZ)).put 0 rfl rfl 1 (.slice az LZ.length cz)).put 0 rfl rfl 2 (.slice oz DZ.length rz)
      refine ret_boxN_tmp rfl rfl rfl (M'.box 0 rfl) Tryz.underlying27 size_rat rfl ?_
      exact ⟨az, cz, oz, rz, rfl, M'.get 1 rfl, M'.get 0 rfl, M'.below⟩
set_option maxRecDepth 100000 in
set_option maxHeartbeats 4000000 in
theorem rq_HC_F1 {w : World} {s d p q : ByteArray} (h1 : s.size ≠ 0) (hb : bt s 0 = 45) (hd : ∀ W : World, (Instr.slice 9 (.string s) (some (.int .i64 1)) none none).run Tryz.prog W = .ok (.string d) W) (hr : d.size ≤ 2000) {K : Nat} (hK : K < d.size) (hC : Clear d K) (hc : bt d K = 46) (hp : p = d.extract 0 K) (hq : q = d.extract (K + 1) d.size)
    (k1 : ∀ W, Calls Tryz.prog 49 #[.string p] W fun e w' => e = .returned (.bool false) ∧ w' = W) :
    Calls Tryz.prog 10 #[.string s] w fun e w' => e = .returned (.tuple #[.agg #[.bool false, .slice none 0 0, .slice none 0 0], .int .i64 4]) ∧ Below w.heap.size w w' := by
  have K1 := Lib.hid k1
  clear k1
  have ep : p.size = K := by rw [hp]; exact ext_size0 (by omega)
  have eq0 : q.size = d.size - (K + 1) := by rw [hq]; exact ext_sizeN _ _
  obtain ⟨N, hN⟩ : ∃ N, N = d.size := ⟨_, rfl⟩
  have hlen : ∀ W : World, (Builtin.len_ #[9] 3 #[.string d]).run Tryz.prog W = .ok (.int .i64 (N : Int)) W := fun W => by rw [run_len_string W _ _ d (by kernel_rfl), hN]; rfl
  have hba := Lib.hid (fun (j : Nat) (hj : j < N) => byte_at d j (by omega))
  have hf : ∀ W : World, (Instr.slice 9 (.string d) none (some (.int .i64 (K : Int))) none).run Tryz.prog W = .ok (.string p) W := fun W => by
      rw [hp]; exact run_slice_string_h W _ d (by kernel_rfl) .i64 (K : Int) (by omega) (by omega)
  have hg : ∀ W : World, (Instr.slice 9 (.string d) (some (.int .i64 ((K : Int) + 1))) none none).run Tryz.prog W = .ok (.string q) W := fun W => by
      have : (Instr.slice 9 (.string d) (some (.int .i64 ((K : Int) + 1))) none none).run Tryz.prog W = .ok (.string (d.extract ((K : Int) + 1).toNat d.size)) W := run_slice_string_l W _ d (by kernel_rfl) .i64 ((K : Int) + 1) (by omega) (by omega)
      rw [show ((K : Int) + 1).toNat = K + 1 by omega] at this
      rw [hq]; exact this
  have hw1 : wrap64 ((K : Int) + 1) = (K : Int) + 1 := by unfold wrap64; omega
  clear hp hq
  have HC := Lib.hid hC
  have hKN : K < N := by omega
  have hk1 : (K : Int) < (N : Int) := by omega
  have hk2 : decide ((K : Int) < (N : Int)) = true := decide_eq_true hk1
  have hcK : ∀ W : World, (Instr.index 9 (.string d) (.int .i64 (K : Int))).run Tryz.prog W = .ok (.int .u8 46) W := fun W => by
      have := byte_at d K hK W
      rw [hc] at this
      exact this
  have hN1 : N ≤ 2000 := by omega
  obtain ⟨f1, f2, f3, f4⟩ := some_bytesR s h1
  have hi : ∀ W : World, (Instr.index 9 (.string s) (.int .i64 0)).run Tryz.prog W = .ok (.int .u8 45) W := fun W => by
      have := byte_at s 0 (Nat.pos_of_ne_zero h1) W
      rw [hb] at this
      exact this
  clear hb
  have M : Mem w [(w.heap.size, 27, [.bool false, .slice none 0 0, .slice none 0 0])] [] (w.alloc (.cells #[.bool false, .slice none 0 0, .slice none 0 0] 27)) := (Mem.start w).new _ _
  clear hr hN hC hK hc ep eq0 h1
  go_enter Tryz.func10, Tryz.ntmps10
  go_wp2
  go_loopg [5] K (fun g x wr => ∃ k : Nat, k + g = K ∧ x = .int .i64 (k : Int) ∧ wr = w.alloc (.cells #[.bool false, .slice none 0 0, .slice none 0 0] 27))
  case atStart => exact ⟨0, by omega, rfl, rfl⟩
  case round =>
    obtain ⟨k, hk, rfl, hw⟩ := hrel
    subst wr
    by_cases hlt : k < K
    · obtain ⟨c, hce⟩ : ∃ c, c = bt d k := ⟨_, rfl⟩
      have hb := hba.out k (by omega)
      have hcl := HC.out k hlt
      rw [← hce] at hb hcl
      obtain ⟨x1, x2, x3⟩ := byte_not hcl.1
      obtain ⟨x4, x5, x6⟩ := byte_not hcl.2
      simp only [Int.cast_ofNat_Int] at x1 x2 x3 x4 x5 x6
      have hkN : (k : Int) < (N : Int) := by omega
      have hkN2 : decide ((k : Int) < (N : Int)) = true := decide_eq_true hkN
      clear hce hcl
      go_wp2
      go_roundg (K - (k + 1))
      case measure => omega
      case rel => exact ⟨k + 1, by omega, by simp, rfl⟩
    · obtain rfl : k = K := by omega
      clear hk hlt
      go_wp2_with fail
      refine (K1.out _).mono ?_
      rintro e v0 ⟨rfl, hv⟩
      subst v0
      have z0 := M.cell 0 rfl 0 rfl; have z1 := M.cell 0 rfl 1 rfl; have z2 := M.cell 0 rfl 2 rfl; have y0 := M.fr 0 rfl 0; have y1 := M.fr 0 rfl 1; have y2 := M.fr 0 rfl 2
      go_wp2_with fail
      refine ret_boxN_tmp rfl rfl rfl (M.box 0 rfl) Tryz.underlying27 size_rat rfl ?_
      exact ⟨rfl, M.below⟩
set_option maxRecDepth 100000 in
set_option maxHeartbeats 4000000 in
theorem rq_HC_F2 {w : World} {s d p q : ByteArray} (h1 : s.size ≠ 0) (hb : bt s 0 = 45) (hd : ∀ W : World, (Instr.slice 9 (.string s) (some (.int .i64 1)) none none).run Tryz.prog W = .ok (.string d) W) (hr : d.size ≤ 2000) {K : Nat} (hK : K < d.size) (hC : Clear d K) (hc : bt d K = 46) (hp : p = d.extract 0 K) (hq : q = d.extract (K + 1) d.size)
    (k1 : ∀ W, Calls Tryz.prog 49 #[.string p] W fun e w' => e = .returned (.bool true) ∧ w' = W)
    (k2 : ∀ W, Calls Tryz.prog 50 #[.string q] W fun e w' => e = .returned (.bool false) ∧ w' = W) :
    Calls Tryz.prog 10 #[.string s] w fun e w' => e = .returned (.tuple #[.agg #[.bool false, .slice none 0 0, .slice none 0 0], .int .i64 4]) ∧ Below w.heap.size w w' := by
  have K1 := Lib.hid k1
  have K2 := Lib.hid k2
  clear k1 k2
  have ep : p.size = K := by rw [hp]; exact ext_size0 (by omega)
  have eq0 : q.size = d.size - (K + 1) := by rw [hq]; exact ext_sizeN _ _
  obtain ⟨N, hN⟩ : ∃ N, N = d.size := ⟨_, rfl⟩
  have hlen : ∀ W : World, (Builtin.len_ #[9] 3 #[.string d]).run Tryz.prog W = .ok (.int .i64 (N : Int)) W := fun W => by rw [run_len_string W _ _ d (by kernel_rfl), hN]; rfl
  have hba := Lib.hid (fun (j : Nat) (hj : j < N) => byte_at d j (by omega))
  have hf : ∀ W : World, (Instr.slice 9 (.string d) none (some (.int .i64 (K : Int))) none).run Tryz.prog W = .ok (.string p) W := fun W => by
      rw [hp]; exact run_slice_string_h W _ d (by kernel_rfl) .i64 (K : Int) (by omega) (by omega)
  have hg : ∀ W : World, (Instr.slice 9 (.string d) (some (.int .i64 ((K : Int) + 1))) none none).run Tryz.prog W = .ok (.string q) W := fun W => by
      have : (Instr.slice 9 (.string d) (some (.int .i64 ((K : Int) + 1))) none none).run Tryz.prog W = .ok (.string (d.extract ((K : Int) + 1).toNat d.size)) W := run_slice_string_l W _ d (by kernel_rfl) .i64 ((K : Int) + 1) (by omega) (by omega)
      rw [show ((K : Int) + 1).toNat = K + 1 by omega] at this
      rw [hq]; exact this
  have hw1 : wrap64 ((K : Int) + 1) = (K : Int) + 1 := by unfold wrap64; omega
  clear hp hq
  have HC := Lib.hid hC
  have hKN : K < N := by omega
  have hk1 : (K : Int) < (N : Int) := by omega
  have hk2 : decide ((K : Int) < (N : Int)) = true := decide_eq_true hk1
  have hcK : ∀ W : World, (Instr.index 9 (.string d) (.int .i64 (K : Int))).run Tryz.prog W = .ok (.int .u8 46) W := fun W => by
      have := byte_at d K hK W
      rw [hc] at this
      exact this
  have hN1 : N ≤ 2000 := by omega
  obtain ⟨f1, f2, f3, f4⟩ := some_bytesR s h1
  have hi : ∀ W : World, (Instr.index 9 (.string s) (.int .i64 0)).run Tryz.prog W = .ok (.int .u8 45) W := fun W => by
      have := byte_at s 0 (Nat.pos_of_ne_zero h1) W
      rw [hb] at this
      exact this
  clear hb
  have M : Mem w [(w.heap.size, 27, [.bool false, .slice none 0 0, .slice none 0 0])] [] (w.alloc (.cells #[.bool false, .slice none 0 0, .slice none 0 0] 27)) := (Mem.start w).new _ _
  clear hr hN hC hK hc ep eq0 h1
  go_enter Tryz.func10, Tryz.ntmps10
  go_wp2
  go_loopg [5] K (fun g x wr => ∃ k : Nat, k + g = K ∧ x = .int .i64 (k : Int) ∧ wr = w.alloc (.cells #[.bool false, .slice none 0 0, .slice none 0 0] 27))
  case atStart => exact ⟨0, by omega, rfl, rfl⟩
  case round =>
    obtain ⟨k, hk, rfl, hw⟩ := hrel
    subst wr
    by_cases hlt : k < K
    · obtain ⟨c, hce⟩ : ∃ c, c = bt d k := ⟨_, rfl⟩
      have hb := hba.out k (by omega)
      have hcl := HC.out k hlt
      rw [← hce] at hb hcl
      obtain ⟨x1, x2, x3⟩ := byte_not hcl.1
      obtain ⟨x4, x5, x6⟩ := byte_not hcl.2
      simp only [Int.cast_ofNat_Int] at x1 x2 x3 x4 x5 x6
      have hkN : (k : Int) < (N : Int) := by omega
      have hkN2 : decide ((k : Int) < (N : Int)) = true := decide_eq_true hkN
      clear hce hcl
      go_wp2
      go_roundg (K - (k + 1))
      case measure => omega
      case rel => exact ⟨k + 1, by omega, by simp, rfl⟩
    · obtain rfl : k = K := by omega
      clear hk hlt
      go_wp2_with fail
      refine (K1.out _).mono ?_
      rintro e v0 ⟨rfl, hv⟩
      subst v0
      go_wp2_with fail
      refine (K2.out _).mono ?_
      rintro e v1 ⟨rfl, hv⟩
      subst v1
      have z0 := M.cell 0 rfl 0 rfl; have z1 := M.cell 0 rfl 1 rfl; have z2 := M.cell 0 rfl 2 rfl; have y0 := M.fr 0 rfl 0; have y1 := M.fr 0 rfl 1; have y2 := M.fr 0 rfl 2
      go_wp2_with fail
      refine ret_boxN_tmp rfl rfl rfl (M.box 0 rfl) Tryz.underlying27 size_rat rfl ?_
      exact ⟨rfl, M.below⟩
set_option maxRecDepth 100000 in
set_option maxHeartbeats 4000000 in
theorem rq_HC_Z {w : World} {s d p q : ByteArray} (h1 : s.size ≠ 0) (hb : bt s 0 = 45) (hd : ∀ W : World, (Instr.slice 9 (.string s) (some (.int .i64 1)) none none).run Tryz.prog W = .ok (.string d) W) (hr : d.size ≤ 2000) {K : Nat} (hK : K < d.size) (hC : Clear d K) (hc : bt d K = 46) (hp : p = d.extract 0 K) (hq : q = d.extract (K + 1) d.size)
    (k1 : ∀ W, Calls Tryz.prog 49 #[.string p] W fun e w' => e = .returned (.bool true) ∧ w' = W)
    (k2 : ∀ W, Calls Tryz.prog 50 #[.string q] W fun e w' => e = .returned (.bool true) ∧ w' = W)
    (k3 : ∀ W, Calls Tryz.prog 51 #[.string p] W fun e w' => e = .returned (.bool true) ∧ w' = W)
    (k4 : ∀ W, Calls Tryz.prog 51 #[.string q] W fun e w' => e = .returned (.bool true) ∧ w' = W) :
    Calls Tryz.prog 10 #[.string s] w fun e w' => e = .returned (.tuple #[.agg #[.bool false, .slice none 0 0, .slice none 0 0], .int .i64 4]) ∧ Below w.heap.size w w' := by
  have K1 := Lib.hid k1
  have K2 := Lib.hid k2
  have K3 := Lib.hid k3
  have K4 := Lib.hid k4
  clear k1 k2 k3 k4
  have ep : p.size = K := by rw [hp]; exact ext_size0 (by omega)
  have eq0 : q.size = d.size - (K + 1) := by rw [hq]; exact ext_sizeN _ _
  obtain ⟨N, hN⟩ : ∃ N, N = d.size := ⟨_, rfl⟩
  have hlen : ∀ W : World, (Builtin.len_ #[9] 3 #[.string d]).run Tryz.prog W = .ok (.int .i64 (N : Int)) W := fun W => by rw [run_len_string W _ _ d (by kernel_rfl), hN]; rfl
  have hba := Lib.hid (fun (j : Nat) (hj : j < N) => byte_at d j (by omega))
  have hf : ∀ W : World, (Instr.slice 9 (.string d) none (some (.int .i64 (K : Int))) none).run Tryz.prog W = .ok (.string p) W := fun W => by
      rw [hp]; exact run_slice_string_h W _ d (by kernel_rfl) .i64 (K : Int) (by omega) (by omega)
  have hg : ∀ W : World, (Instr.slice 9 (.string d) (some (.int .i64 ((K : Int) + 1))) none none).run Tryz.prog W = .ok (.string q) W := fun W => by
      have : (Instr.slice 9 (.string d) (some (.int .i64 ((K : Int) + 1))) none none).run Tryz.prog W = .ok (.string (d.extract ((K : Int) + 1).toNat d.size)) W := run_slice_string_l W _ d (by kernel_rfl) .i64 ((K : Int) + 1) (by omega) (by omega)
      rw [show ((K : Int) + 1).toNat = K + 1 by omega] at this
      rw [hq]; exact this
  have hw1 : wrap64 ((K : Int) + 1) = (K : Int) + 1 := by unfold wrap64; omega
  clear hp hq
  have HC := Lib.hid hC
  have hKN : K < N := by omega
  have hk1 : (K : Int) < (N : Int) := by omega
  have hk2 : decide ((K : Int) < (N : Int)) = true := decide_eq_true hk1
  have hcK : ∀ W : World, (Instr.index 9 (.string d) (.int .i64 (K : Int))).run Tryz.prog W = .ok (.int .u8 46) W := fun W => by
      have := byte_at d K hK W
      rw [hc] at this
      exact this
  have hN1 : N ≤ 2000 := by omega
  obtain ⟨f1, f2, f3, f4⟩ := some_bytesR s h1
  have hi : ∀ W : World, (Instr.index 9 (.string s) (.int .i64 0)).run Tryz.prog W = .ok (.int .u8 45) W := fun W => by
      have := byte_at s 0 (Nat.pos_of_ne_zero h1) W
      rw [hb] at this
      exact this
  clear hb
  have M : Mem w [(w.heap.size, 27, [.bool false, .slice none 0 0, .slice none 0 0])] [] (w.alloc (.cells #[.bool false, .slice none 0 0, .slice none 0 0] 27)) := (Mem.start w).new _ _
  clear hr hN hC hK hc ep eq0 h1
  go_enter Tryz.func10, Tryz.ntmps10
  go_wp2
  go_loopg [5] K (fun g x wr => ∃ k : Nat, k + g = K ∧ x = .int .i64 (k : Int) ∧ wr = w.alloc (.cells #[.bool false, .slice none 0 0, .slice none 0 0] 27))
  case atStart => exact ⟨0, by omega, rfl, rfl⟩
  case round =>
    obtain ⟨k, hk, rfl, hw⟩ := hrel
    subst wr
    by_cases hlt : k < K
    · obtain ⟨c, hce⟩ : ∃ c, c = bt d k := ⟨_, rfl⟩
      have hb := hba.out k (by omega)
      have hcl := HC.out k hlt
      rw [← hce] at hb hcl
      obtain ⟨x1, x2, x3⟩ := byte_not hcl.1
      obtain ⟨x4, x5, x6⟩ := byte_not hcl.2
      simp only [Int.cast_ofNat_Int] at x1 x2 x3 x4 x5 x6
      have hkN : (k : Int) < (N : Int) := by omega
      have hkN2 : decide ((k : Int) < (N : Int)) = true := decide_eq_true hkN
      clear hce hcl
      go_wp2
      go_roundg (K - (k + 1))
      case measure => omega
      case rel => exact ⟨k + 1, by omega, by simp, rfl⟩
    · obtain rfl : k = K := by omega
      clear hk hlt
      go_wp2_with fail
      refine (K1.out _).mono ?_
      rintro e v0 ⟨rfl, hv⟩
      subst v0
      go_wp2_with fail
      refine (K2.out _).mono ?_
      rintro e v1 ⟨rfl, hv⟩
      subst v1
      go_wp2_with fail
      refine (K3.out _).mono ?_
      rintro e v2 ⟨rfl, hv⟩
      subst v2
      go_wp2_with fail
      refine (K4.out _).mono ?_
      rintro e v3 ⟨rfl, hv⟩
      subst v3
      have z0 := M.cell 0 rfl 0 rfl; have z1 := M.cell 0 rfl 1 rfl; have z2 := M.cell 0 rfl 2 rfl; have y0 := M.fr 0 rfl 0; have y1 := M.fr 0 rfl 1; have y2 := M.fr 0 rfl 2
      go_wp2_with fail
      refine ret_boxN_tmp rfl rfl rfl (M.box 0 rfl) Tryz.underlying27 size_rat rfl ?_
      exact ⟨rfl, M.below⟩
set_option maxRecDepth 100000 in
set_option maxHeartbeats 4000000 in
theorem rq_HC_La {w : World} {s d p q : ByteArray} (h1 : s.size ≠ 0) (hb : bt s 0 = 45) (hd : ∀ W : World, (Instr.slice 9 (.string s) (some (.int .i64 1)) none none).run Tryz.prog W = .ok (.string d) W) (hr : d.size ≤ 2000) {K : Nat} (hK : K < d.size) (hC : Clear d K) (hc : bt d K = 46) (hp : p = d.extract 0 K) (hq : q = d.extract (K + 1) d.size) (hl : 200 < p.size + q.size)
    (k1 : ∀ W, Calls Tryz.prog 49 #[.string p] W fun e w' => e = .returned (.bool true) ∧ w' = W)
    (k2 : ∀ W, Calls Tryz.prog 50 #[.string q] W fun e w' => e = .returned (.bool true) ∧ w' = W)
    (k3 : ∀ W, Calls Tryz.prog 51 #[.string p] W fun e w' => e = .returned (.bool false) ∧ w' = W) :
    Calls Tryz.prog 10 #[.string s] w fun e w' => e = .returned (.tuple #[.agg #[.bool false, .slice none 0 0, .slice none 0 0], .int .i64 3]) ∧ Below w.heap.size w w' := by
  have K1 := Lib.hid k1
  have K2 := Lib.hid k2
  have K3 := Lib.hid k3
  clear k1 k2 k3
  have ep : p.size = K := by rw [hp]; exact ext_size0 (by omega)
  have eq0 : q.size = d.size - (K + 1) := by rw [hq]; exact ext_sizeN _ _
  obtain ⟨N, hN⟩ : ∃ N, N = d.size := ⟨_, rfl⟩
  have hlen : ∀ W : World, (Builtin.len_ #[9] 3 #[.string d]).run Tryz.prog W = .ok (.int .i64 (N : Int)) W := fun W => by rw [run_len_string W _ _ d (by kernel_rfl), hN]; rfl
  have hba := Lib.hid (fun (j : Nat) (hj : j < N) => byte_at d j (by omega))
  have hf : ∀ W : World, (Instr.slice 9 (.string d) none (some (.int .i64 (K : Int))) none).run Tryz.prog W = .ok (.string p) W := fun W => by
      rw [hp]; exact run_slice_string_h W _ d (by kernel_rfl) .i64 (K : Int) (by omega) (by omega)
  have hg : ∀ W : World, (Instr.slice 9 (.string d) (some (.int .i64 ((K : Int) + 1))) none none).run Tryz.prog W = .ok (.string q) W := fun W => by
      have : (Instr.slice 9 (.string d) (some (.int .i64 ((K : Int) + 1))) none none).run Tryz.prog W = .ok (.string (d.extract ((K : Int) + 1).toNat d.size)) W := run_slice_string_l W _ d (by kernel_rfl) .i64 ((K : Int) + 1) (by omega) (by omega)
      rw [show ((K : Int) + 1).toNat = K + 1 by omega] at this
      rw [hq]; exact this
  have hw1 : wrap64 ((K : Int) + 1) = (K : Int) + 1 := by unfold wrap64; omega
  clear hp hq
  have HC := Lib.hid hC
  have hKN : K < N := by omega
  have hk1 : (K : Int) < (N : Int) := by omega
  have hk2 : decide ((K : Int) < (N : Int)) = true := decide_eq_true hk1
  have hcK : ∀ W : World, (Instr.index 9 (.string d) (.int .i64 (K : Int))).run Tryz.prog W = .ok (.int .u8 46) W := fun W => by
      have := byte_at d K hK W
      rw [hc] at this
      exact this
  have hN1 : N ≤ 2000 := by omega
  have hlp : ∀ W : World, (Builtin.len_ #[9] 3 #[.string p]).run Tryz.prog W = .ok (.int .i64 (p.size : Int)) W := fun W => by rw [run_len_string W _ _ p (by kernel_rfl)]; rfl
  have hlq : ∀ W : World, (Builtin.len_ #[9] 3 #[.string q]).run Tryz.prog W = .ok (.int .i64 (q.size : Int)) W := fun W => by rw [run_len_string W _ _ q (by kernel_rfl)]; rfl
  have w0 : wrap64 ((p.size : Int) + (q.size : Int)) = (p.size : Int) + (q.size : Int) := by unfold wrap64; omega
  have w1 : (200 : Int) < (p.size : Int) + (q.size : Int) := by omega
  have w2 : decide ((200 : Int) < (p.size : Int) + (q.size : Int)) = true := decide_eq_true w1
  obtain ⟨f1, f2, f3, f4⟩ := some_bytesR s h1
  have hi : ∀ W : World, (Instr.index 9 (.string s) (.int .i64 0)).run Tryz.prog W = .ok (.int .u8 45) W := fun W => by
      have := byte_at s 0 (Nat.pos_of_ne_zero h1) W
      rw [hb] at this
      exact this
  clear hb
  have M : Mem w [(w.heap.size, 27, [.bool false, .slice none 0 0, .slice none 0 0])] [] (w.alloc (.cells #[.bool false, .slice none 0 0, .slice none 0 0] 27)) := (Mem.start w).new _ _
  clear hr hN hC hK hc ep eq0 h1 hl
  go_enter Tryz.func10, Tryz.ntmps10
  go_wp2
  go_loopg [5] K (fun g x wr => ∃ k : Nat, k + g = K ∧ x = .int .i64 (k : Int) ∧ wr = w.alloc (.cells #[.bool false, .slice none 0 0, .slice none 0 0] 27))
  case atStart => exact ⟨0, by omega, rfl, rfl⟩
  case round =>
    obtain ⟨k, hk, rfl, hw⟩ := hrel
    subst wr
    by_cases hlt : k < K
    · obtain ⟨c, hce⟩ : ∃ c, c = bt d k := ⟨_, rfl⟩
      have hb := hba.out k (by omega)
      have hcl := HC.out k hlt
      rw [← hce] at hb hcl
      obtain ⟨x1, x2, x3⟩ := byte_not hcl.1
      obtain ⟨x4, x5, x6⟩ := byte_not hcl.2
      simp only [Int.cast_ofNat_Int] at x1 x2 x3 x4 x5 x6
      have hkN : (k : Int) < (N : Int) := by omega
      have hkN2 : decide ((k : Int) < (N : Int)) = true := decide_eq_true hkN
      clear hce hcl
      go_wp2
      go_roundg (K - (k + 1))
      case measure => omega
      case rel => exact ⟨k + 1, by omega, by simp, rfl⟩
    · obtain rfl : k = K := by omega
      clear hk hlt
      go_wp2_with fail
      refine (K1.out _).mono ?_
      rintro e v0 ⟨rfl, hv⟩
      subst v0
      go_wp2_with fail
      refine (K2.out _).mono ?_
      rintro e v1 ⟨rfl, hv⟩
      subst v1
      go_wp2_with fail
      refine (K3.out _).mono ?_
      rintro e v2 ⟨rfl, hv⟩
      subst v2
      have z0 := M.cell 0 rfl 0 rfl; have z1 := M.cell 0 rfl 1 rfl; have z2 := M.cell 0 rfl 2 rfl; have y0 := M.fr 0 rfl 0; have y1 := M.fr 0 rfl 1; have y2 := M.fr 0 rfl 2
      go_wp2_with fail
      refine ret_boxN_tmp rfl rfl rfl (M.box 0 rfl) Tryz.underlying27 size_rat rfl ?_
      exact ⟨rfl, M.below⟩
set_option maxRecDepth 100000 in
set_option maxHeartbeats 4000000 in
theorem rq_HC_Lb {w : World} {s d p q : ByteArray} (h1 : s.size ≠ 0) (hb : bt s 0 = 45) (hd : ∀ W : World, (Instr.slice 9 (.string s) (some (.int .i64 1)) none none).run Tryz.prog W = .ok (.string d) W) (hr : d.size ≤ 2000) {K : Nat} (hK : K < d.size) (hC : Clear d K) (hc : bt d K = 46) (hp : p = d.extract 0 K) (hq : q = d.extract (K + 1) d.size) (hl : 200 < p.size + q.size)
    (k1 : ∀ W, Calls Tryz.prog 49 #[.string p] W fun e w' => e = .returned (.bool true) ∧ w' = W)
    (k2 : ∀ W, Calls Tryz.prog 50 #[.string q] W fun e w' => e = .returned (.bool true) ∧ w' = W)
    (k3 : ∀ W, Calls Tryz.prog 51 #[.string p] W fun e w' => e = .returned (.bool true) ∧ w' = W)
    (k4 : ∀ W, Calls Tryz.prog 51 #[.string q] W fun e w' => e = .returned (.bool false) ∧ w' = W) :
    Calls Tryz.prog 10 #[.string s] w fun e w' => e = .returned (.tuple #[.agg #[.bool false, .slice none 0 0, .slice none 0 0], .int .i64 3]) ∧ Below w.heap.size w w' := by
  have K1 := Lib.hid k1
  have K2 := Lib.hid k2
  have K3 := Lib.hid k3
  have K4 := Lib.hid k4
  clear k1 k2 k3 k4
  have ep : p.size = K := by rw [hp]; exact ext_size0 (by omega)
  have eq0 : q.size = d.size - (K + 1) := by rw [hq]; exact ext_sizeN _ _
  obtain ⟨N, hN⟩ : ∃ N, N = d.size := ⟨_, rfl⟩
  have hlen : ∀ W : World, (Builtin.len_ #[9] 3 #[.string d]).run Tryz.prog W = .ok (.int .i64 (N : Int)) W := fun W => by rw [run_len_string W _ _ d (by kernel_rfl), hN]; rfl
  have hba := Lib.hid (fun (j : Nat) (hj : j < N) => byte_at d j (by omega))
  have hf : ∀ W : World, (Instr.slice 9 (.string d) none (some (.int .i64 (K : Int))) none).run Tryz.prog W = .ok (.string p) W := fun W => by
      rw [hp]; exact run_slice_string_h W _ d (by kernel_rfl) .i64 (K : Int) (by omega) (by omega)
  have hg : ∀ W : World, (Instr.slice 9 (.string d) (some (.int .i64 ((K : Int) + 1))) none none).run Tryz.prog W = .ok (.string q) W := fun W => by
      have : (Instr.slice 9 (.string d) (some (.int .i64 ((K : Int) + 1))) none none).run Tryz.prog W = .ok (.string (d.extract ((K : Int) + 1).toNat d.size)) W := run_slice_string_l W _ d (by kernel_rfl) .i64 ((K : Int) + 1) (by omega) (by omega)
      rw [show ((K : Int) + 1).toNat = K + 1 by omega] at this
      rw [hq]; exact this
  have hw1 : wrap64 ((K : Int) + 1) = (K : Int) + 1 := by unfold wrap64; omega
  clear hp hq
  have HC := Lib.hid hC
  have hKN : K < N := by omega
  have hk1 : (K : Int) < (N : Int) := by omega
  have hk2 : decide ((K : Int) < (N : Int)) = true := decide_eq_true hk1
  have hcK : ∀ W : World, (Instr.index 9 (.string d) (.int .i64 (K : Int))).run Tryz.prog W = .ok (.int .u8 46) W := fun W => by
      have := byte_at d K hK W
      rw [hc] at this
      exact this
  have hN1 : N ≤ 2000 := by omega
  have hlp : ∀ W : World, (Builtin.len_ #[9] 3 #[.string p]).run Tryz.prog W = .ok (.int .i64 (p.size : Int)) W := fun W => by rw [run_len_string W _ _ p (by kernel_rfl)]; rfl
  have hlq : ∀ W : World, (Builtin.len_ #[9] 3 #[.string q]).run Tryz.prog W = .ok (.int .i64 (q.size : Int)) W := fun W => by rw [run_len_string W _ _ q (by kernel_rfl)]; rfl
  have w0 : wrap64 ((p.size : Int) + (q.size : Int)) = (p.size : Int) + (q.size : Int) := by unfold wrap64; omega
  have w1 : (200 : Int) < (p.size : Int) + (q.size : Int) := by omega
  have w2 : decide ((200 : Int) < (p.size : Int) + (q.size : Int)) = true := decide_eq_true w1
  obtain ⟨f1, f2, f3, f4⟩ := some_bytesR s h1
  have hi : ∀ W : World, (Instr.index 9 (.string s) (.int .i64 0)).run Tryz.prog W = .ok (.int .u8 45) W := fun W => by
      have := byte_at s 0 (Nat.pos_of_ne_zero h1) W
      rw [hb] at this
      exact this
  clear hb
  have M : Mem w [(w.heap.size, 27, [.bool false, .slice none 0 0, .slice none 0 0])] [] (w.alloc (.cells #[.bool false, .slice none 0 0, .slice none 0 0] 27)) := (Mem.start w).new _ _
  clear hr hN hC hK hc ep eq0 h1 hl
  go_enter Tryz.func10, Tryz.ntmps10
  go_wp2
  go_loopg [5] K (fun g x wr => ∃ k : Nat, k + g = K ∧ x = .int .i64 (k : Int) ∧ wr = w.alloc (.cells #[.bool false, .slice none 0 0, .slice none 0 0] 27))
  case atStart => exact ⟨0, by omega, rfl, rfl⟩
  case round =>
    obtain ⟨k, hk, rfl, hw⟩ := hrel
    subst wr
    by_cases hlt : k < K
    · obtain ⟨c, hce⟩ : ∃ c, c = bt d k := ⟨_, rfl⟩
      have hb := hba.out k (by omega)
      have hcl := HC.out k hlt
      rw [← hce] at hb hcl
      obtain ⟨x1, x2, x3⟩ := byte_not hcl.1
      obtain ⟨x4, x5, x6⟩ := byte_not hcl.2
      simp only [Int.cast_ofNat_Int] at x1 x2 x3 x4 x5 x6
      have hkN : (k : Int) < (N : Int) := by omega
      have hkN2 : decide ((k : Int) < (N : Int)) = true := decide_eq_true hkN
      clear hce hcl
      go_wp2
      go_roundg (K - (k + 1))
      case measure => omega
      case rel => exact ⟨k + 1, by omega, by simp, rfl⟩
    · obtain rfl : k = K := by omega
      clear hk hlt
      go_wp2_with fail
      refine (K1.out _).mono ?_
      rintro e v0 ⟨rfl, hv⟩
      subst v0
      go_wp2_with fail
      refine (K2.out _).mono ?_
      rintro e v1 ⟨rfl, hv⟩
      subst v1
      go_wp2_with fail
      refine (K3.out _).mono ?_
      rintro e v2 ⟨rfl, hv⟩
      subst v2
      go_wp2_with fail
      refine (K4.out _).mono ?_
      rintro e v3 ⟨rfl, hv⟩
      subst v3
      have z0 := M.cell 0 rfl 0 rfl; have z1 := M.cell 0 rfl 1 rfl; have z2 := M.cell 0 rfl 2 rfl; have y0 := M.fr 0 rfl 0; have y1 := M.fr 0 rfl 1; have y2 := M.fr 0 rfl 2
      go_wp2_with fail
      refine ret_boxN_tmp rfl rfl rfl (M.box 0 rfl) Tryz.underlying27 size_rat rfl ?_
      exact ⟨rfl, M.below⟩
set_option maxRecDepth 100000 in
set_option maxHeartbeats 4000000 in
theorem rq_HC_OKa {w : World} {s d p q : ByteArray} (h1 : s.size ≠ 0) (hb : bt s 0 = 45) (hd : ∀ W : World, (Instr.slice 9 (.string s) (some (.int .i64 1)) none none).run Tryz.prog W = .ok (.string d) W) (hr : d.size ≤ 2000) {K : Nat} (hK : K < d.size) (hC : Clear d K) (hc : bt d K = 46) (hp : p = d.extract 0 K) (hq : q = d.extract (K + 1) d.size) (hl : p.size + q.size ≤ 200) {sN sZ : Bool} {Ln Ld LZ DZ : List Nat}
    (k1 : ∀ W, Calls Tryz.prog 49 #[.string p] W fun e w' => e = .returned (.bool true) ∧ w' = W)
    (k2 : ∀ W, Calls Tryz.prog 50 #[.string q] W fun e w' => e = .returned (.bool true) ∧ w' = W)
    (k3 : ∀ W, Calls Tryz.prog 51 #[.string p] W fun e w' => e = .returned (.bool false) ∧ w' = W)
    (kn : ∀ W, Calls Tryz.prog 52 #[.string (p ++ q)] W fun e w' => ∃ a c, e = .returned (.slice a Ln.length c) ∧ Reads w' (.slice a Ln.length c) Ln ∧ Below W.heap.size W w')
    (kd : ∀ W, Calls Tryz.prog 52 #[.string (⟨#[49]⟩ ++ zeros q.size)] W fun e w' => ∃ a c, e = .returned (.slice a Ld.length c) ∧ Reads w' (.slice a Ld.length c) Ld ∧ Below W.heap.size W w')
    (ks : ∀ (W : World) (a : Option Addr) (c : Nat), Calls Tryz.prog 54 #[.bool true, .slice a Ln.length c] W fun e w' => e = .returned (.agg #[.bool sN, .slice a Ln.length c]) ∧ Below W.heap.size W w')
    (kl : ∀ (W : World) {a b : Option Addr} {c d : Nat}, Reads W (.slice a Ln.length c) Ln → Reads W (.slice b Ld.length d) Ld → Calls Tryz.prog 53 #[.agg #[.bool sN, .slice a Ln.length c], .slice b Ld.length d] W fun e w' => ∃ a c a' c', e = .returned (.agg #[.bool sZ, .slice a LZ.length c, .slice a' DZ.length c']) ∧ Reads w' (.slice a LZ.length c) LZ ∧ Reads w' (.slice a' DZ.length c') DZ ∧ Below W.heap.size W w') :
    Calls Tryz.prog 10 #[.string s] w fun e w' => ∃ a c a' c', e = .returned (.tuple #[.agg #[.bool sZ, .slice a LZ.length c, .slice a' DZ.length c'], .int .i64 0]) ∧ Reads w' (.slice a LZ.length c) LZ ∧ Reads w' (.slice a' DZ.length c') DZ ∧ Below w.heap.size w w' := by
  have K1 := Lib.hid k1
  have K2 := Lib.hid k2
  have K3 := Lib.hid k3
  have KN := Lib.hid kn
  have KD := Lib.hid kd
  have KS := Lib.hid ks
  have KL := Lib.hid (fun (W : World) {a b : Option Addr} {c d : Nat} => kl W (a := a) (b := b) (c := c) (d := d))
  clear k1 k2 k3 kn kd ks kl
  have ep : p.size = K := by rw [hp]; exact ext_size0 (by omega)
  have eq0 : q.size = d.size - (K + 1) := by rw [hq]; exact ext_sizeN _ _
  obtain ⟨N, hN⟩ : ∃ N, N = d.size := ⟨_, rfl⟩
  have hlen : ∀ W : World, (Builtin.len_ #[9] 3 #[.string d]).run Tryz.prog W = .ok (.int .i64 (N : Int)) W := fun W => by rw [run_len_string W _ _ d (by kernel_rfl), hN]; rfl
  have hba := Lib.hid (fun (j : Nat) (hj : j < N) => byte_at d j (by omega))
  have hf : ∀ W : World, (Instr.slice 9 (.string d) none (some (.int .i64 (K : Int))) none).run Tryz.prog W = .ok (.string p) W := fun W => by
      rw [hp]; exact run_slice_string_h W _ d (by kernel_rfl) .i64 (K : Int) (by omega) (by omega)
  have hg : ∀ W : World, (Instr.slice 9 (.string d) (some (.int .i64 ((K : Int) + 1))) none none).run Tryz.prog W = .ok (.string q) W := fun W => by
      have : (Instr.slice 9 (.string d) (some (.int .i64 ((K : Int) + 1))) none none).run Tryz.prog W = .ok (.string (d.extract ((K : Int) + 1).toNat d.size)) W := run_slice_string_l W _ d (by kernel_rfl) .i64 ((K : Int) + 1) (by omega) (by omega)
      rw [show ((K : Int) + 1).toNat = K + 1 by omega] at this
      rw [hq]; exact this
  have hw1 : wrap64 ((K : Int) + 1) = (K : Int) + 1 := by unfold wrap64; omega
  clear hp hq
  have HC := Lib.hid hC
  have hKN : K < N := by omega
  have hk1 : (K : Int) < (N : Int) := by omega
  have hk2 : decide ((K : Int) < (N : Int)) = true := decide_eq_true hk1
  have hcK : ∀ W : World, (Instr.index 9 (.string d) (.int .i64 (K : Int))).run Tryz.prog W = .ok (.int .u8 46) W := fun W => by
      have := byte_at d K hK W
      rw [hc] at this
      exact this
  have hN1 : N ≤ 2000 := by omega
  have hlp : ∀ W : World, (Builtin.len_ #[9] 3 #[.string p]).run Tryz.prog W = .ok (.int .i64 (p.size : Int)) W := fun W => by rw [run_len_string W _ _ p (by kernel_rfl)]; rfl
  have hlq : ∀ W : World, (Builtin.len_ #[9] 3 #[.string q]).run Tryz.prog W = .ok (.int .i64 (q.size : Int)) W := fun W => by rw [run_len_string W _ _ q (by kernel_rfl)]; rfl
  have w0 : wrap64 ((p.size : Int) + (q.size : Int)) = (p.size : Int) + (q.size : Int) := by unfold wrap64; omega
  have w1 : ¬ (200 : Int) < (p.size : Int) + (q.size : Int) := by omega
  have w2 : decide ((200 : Int) < (p.size : Int) + (q.size : Int)) = false := decide_eq_false w1
  have hpq : ∀ W : World, (Op.stringOp .add p q).run Tryz.prog W = .ok (.string (p ++ q)) W := fun W => run_string_add_sum W _ _ (by omega)
  have hz := Lib.hid (fun (j : Nat) (hj : j < q.size) (W : World) => show (Op.stringOp .add (⟨#[49]⟩ ++ zeros j) ⟨#[48]⟩).run Tryz.prog W = .ok (.string (⟨#[49]⟩ ++ zeros (j + 1))) W from by
      rw [run_string_add_sum W _ _ (by rw [den_size, show (⟨#[48]⟩ : ByteArray).size = 1 from rfl]; omega), den_succ])
  obtain ⟨J, hJ⟩ : ∃ J, J = q.size := ⟨_, rfl⟩
  rw [← hJ] at hlq hz KD
  have HJ := Lib.hid hJ
  rw [← hJ] at w0 w1 w2
  obtain ⟨f1, f2, f3, f4⟩ := some_bytesR s h1
  have hi : ∀ W : World, (Instr.index 9 (.string s) (.int .i64 0)).run Tryz.prog W = .ok (.int .u8 45) W := fun W => by
      have := byte_at s 0 (Nat.pos_of_ne_zero h1) W
      rw [hb] at this
      exact this
  clear hb
  have M : Mem w [(w.heap.size, 27, [.bool false, .slice none 0 0, .slice none 0 0])] [] (w.alloc (.cells #[.bool false, .slice none 0 0, .slice none 0 0] 27)) := (Mem.start w).new _ _
  clear hr hN hC hK hc ep eq0 hJ h1 hl
  go_enter Tryz.func10, Tryz.ntmps10
  go_wp2
  go_loopg [5] K (fun g x wr => ∃ k : Nat, k + g = K ∧ x = .int .i64 (k : Int) ∧ wr = w.alloc (.cells #[.bool false, .slice none 0 0, .slice none 0 0] 27))
  case atStart => exact ⟨0, by omega, rfl, rfl⟩
  case round =>
    obtain ⟨k, hk, rfl, hw⟩ := hrel
    subst wr
    by_cases hlt : k < K
    · obtain ⟨c, hce⟩ : ∃ c, c = bt d k := ⟨_, rfl⟩
      have hb := hba.out k (by omega)
      have hcl := HC.out k hlt
      rw [← hce] at hb hcl
      obtain ⟨x1, x2, x3⟩ := byte_not hcl.1
      obtain ⟨x4, x5, x6⟩ := byte_not hcl.2
      simp only [Int.cast_ofNat_Int] at x1 x2 x3 x4 x5 x6
      have hkN : (k : Int) < (N : Int) := by omega
      have hkN2 : decide ((k : Int) < (N : Int)) = true := decide_eq_true hkN
      clear hce hcl
      go_wp2
      go_roundg (K - (k + 1))
      case measure => omega
      case rel => exact ⟨k + 1, by omega, by simp, rfl⟩
    · obtain rfl : k = K := by omega
      clear hk hlt
      go_wp2_with fail
      refine (K1.out _).mono ?_
      rintro e v0 ⟨rfl, hv⟩
      subst v0
      go_wp2_with fail
      refine (K2.out _).mono ?_
      rintro e v1 ⟨rfl, hv⟩
      subst v1
      go_wp2_with fail
      refine (K3.out _).mono ?_
      rintro e v2 ⟨rfl, hv⟩
      subst v2
      go_wp2_with fail
      refine (KN.out _).mono ?_
      rintro e v3 ⟨an, can, rfl, g, rr⟩
      have M' := (M.up rr).add g; clear M rr g; have M := M'; clear M'
      obtain ⟨V, hV⟩ : ∃ V, V = v3 := ⟨_, rfl⟩
      rw [← hV] at M ⊢
      clear hV
      go_wp2
      go_loopg [10, 11] J (fun g x y wr => ∃ j : Nat, j + g = J ∧ x = .string (⟨#[49]⟩ ++ zeros j) ∧ y = .int .i64 (j : Int) ∧ wr = V)
      case atStart => exact ⟨0, by omega, by rw [den_zero], rfl, rfl⟩
      case round =>
        obtain ⟨j, hj, rfl, rfl, hw⟩ := hrel
        subst wr
        have HP := HJ.out
        by_cases hlt : j < J
        · have hadd := hz.out j hlt
          have hkj : (j : Int) < (J : Int) := by omega
          have hkj2 : decide ((j : Int) < (J : Int)) = true := decide_eq_true hkj
          clear HP
          go_wp2
          go_roundg (J - (j + 1))
          case measure => omega
          case rel => exact ⟨j + 1, by omega, rfl, by simp, rfl⟩
        · obtain rfl : j = J := by omega
          have hkj : ¬ (j : Int) < (j : Int) := by omega
          have hkj2 : decide ((j : Int) < (j : Int)) = false := decide_eq_false hkj
          clear hj hlt HP
          go_wp2_with fail
          refine (KS.out _ _ _).mono ?_
          rintro e v4 ⟨rfl, rr⟩
          have M' := M.up rr; clear M rr; have M := M'; clear M'
          go_wp2_with fail
          refine (KD.out _).mono ?_
          rintro e v5 ⟨ad, cad, rfl, g, rr⟩
          have M' := (M.up rr).add g; clear M rr g; have M := M'; clear M'
          go_wp2_with fail
          refine (KL.out _ (M.get 1 rfl) (M.get 0 rfl)).mono ?_
          rintro e v6 ⟨az, cz, oz, rz, rfl, g, g', rr⟩
          have M' := ((M.up rr).add g).add g'; clear M rr g g'; have M := M'; clear M'
          have z0 := M.cell 0 rfl 0 rfl; have z1 := M.cell 0 rfl 1 rfl; have z2 := M.cell 0 rfl 2 rfl; have y0 := M.fr 0 rfl 0; have y1 := M.fr 0 rfl 1; have y2 := M.fr 0 rfl 2
          go_wp2_with fail
          have M' := ((M.put 0 rfl rfl 0 (.bool sZ)).put 0 rfl rfl 1 (.slice az LZ.length cz)).put 0 rfl rfl 2 (.slice oz DZ.length rz)
          refine ret_boxN_tmp rfl rfl rfl (M'.box 0 rfl) Tryz.underlying27 size_rat rfl ?_
          exact ⟨az, cz, oz, rz, rfl, M'.get 1 rfl, M'.get 0 rfl, M'.below⟩
set_option maxRecDepth 100000 in
set_option maxHeartbeats 4000000 in
theorem rq_HC_OKb {w : World} {s d p q : ByteArray} (h1 : s.size ≠ 0) (hb : bt s 0 = 45) (hd : ∀ W : World, (Instr.slice 9 (.string s) (some (.int .i64 1)) none none).run Tryz.prog W = .ok (.string d) W) (hr : d.size ≤ 2000) {K : Nat} (hK : K < d.size) (hC : Clear d K) (hc : bt d K = 46) (hp : p = d.extract 0 K) (hq : q = d.extract (K + 1) d.size) (hl : p.size + q.size ≤ 200) {sN sZ : Bool} {Ln Ld LZ DZ : List Nat}
    (k1 : ∀ W, Calls Tryz.prog 49 #[.string p] W fun e w' => e = .returned (.bool true) ∧ w' = W)
    (k2 : ∀ W, Calls Tryz.prog 50 #[.string q] W fun e w' => e = .returned (.bool true) ∧ w' = W)
    (k3 : ∀ W, Calls Tryz.prog 51 #[.string p] W fun e w' => e = .returned (.bool true) ∧ w' = W)
    (k4 : ∀ W, Calls Tryz.prog 51 #[.string q] W fun e w' => e = .returned (.bool false) ∧ w' = W)
    (kn : ∀ W, Calls Tryz.prog 52 #[.string (p ++ q)] W fun e w' => ∃ a c, e = .returned (.slice a Ln.length c) ∧ Reads w' (.slice a Ln.length c) Ln ∧ Below W.heap.size W w')
    (kd : ∀ W, Calls Tryz.prog 52 #[.string (⟨#[49]⟩ ++ zeros q.size)] W fun e w' => ∃ a c, e = .returned (.slice a Ld.length c) ∧ Reads w' (.slice a Ld.length c) Ld ∧ Below W.heap.size W w')
    (ks : ∀ (W : World) (a : Option Addr) (c : Nat), Calls Tryz.prog 54 #[.bool true, .slice a Ln.length c] W fun e w' => e = .returned (.agg #[.bool sN, .slice a Ln.length c]) ∧ Below W.heap.size W w')
    (kl : ∀ (W : World) {a b : Option Addr} {c d : Nat}, Reads W (.slice a Ln.length c) Ln → Reads W (.slice b Ld.length d) Ld → Calls Tryz.prog 53 #[.agg #[.bool sN, .slice a Ln.length c], .slice b Ld.length d] W fun e w' => ∃ a c a' c', e = .returned (.agg #[.bool sZ, .slice a LZ.length c, .slice a' DZ.length c']) ∧ Reads w' (.slice a LZ.length c) LZ ∧ Reads w' (.slice a' DZ.length c') DZ ∧ Below W.heap.size W w') :
    Calls Tryz.prog 10 #[.string s] w fun e w' => ∃ a c a' c', e = .returned (.tuple #[.agg #[.bool sZ, .slice a LZ.length c, .slice a' DZ.length c'], .int .i64 0]) ∧ Reads w' (.slice a LZ.length c) LZ ∧ Reads w' (.slice a' DZ.length c') DZ ∧ Below w.heap.size w w' := by
  have K1 := Lib.hid k1
  have K2 := Lib.hid k2
  have K3 := Lib.hid k3
  have K4 := Lib.hid k4
  have KN := Lib.hid kn
  have KD := Lib.hid kd
  have KS := Lib.hid ks
  have KL := Lib.hid (fun (W : World) {a b : Option Addr} {c d : Nat} => kl W (a := a) (b := b) (c := c) (d := d))
  clear k1 k2 k3 k4 kn kd ks kl
  have ep : p.size = K := by rw [hp]; exact ext_size0 (by omega)
  have eq0 : q.size = d.size - (K + 1) := by rw [hq]; exact ext_sizeN _ _
  obtain ⟨N, hN⟩ : ∃ N, N = d.size := ⟨_, rfl⟩
  have hlen : ∀ W : World, (Builtin.len_ #[9] 3 #[.string d]).run Tryz.prog W = .ok (.int .i64 (N : Int)) W := fun W => by rw [run_len_string W _ _ d (by kernel_rfl), hN]; rfl
  have hba := Lib.hid (fun (j : Nat) (hj : j < N) => byte_at d j (by omega))
  have hf : ∀ W : World, (Instr.slice 9 (.string d) none (some (.int .i64 (K : Int))) none).run Tryz.prog W = .ok (.string p) W := fun W => by
      rw [hp]; exact run_slice_string_h W _ d (by kernel_rfl) .i64 (K : Int) (by omega) (by omega)
  have hg : ∀ W : World, (Instr.slice 9 (.string d) (some (.int .i64 ((K : Int) + 1))) none none).run Tryz.prog W = .ok (.string q) W := fun W => by
      have : (Instr.slice 9 (.string d) (some (.int .i64 ((K : Int) + 1))) none none).run Tryz.prog W = .ok (.string (d.extract ((K : Int) + 1).toNat d.size)) W := run_slice_string_l W _ d (by kernel_rfl) .i64 ((K : Int) + 1) (by omega) (by omega)
      rw [show ((K : Int) + 1).toNat = K + 1 by omega] at this
      rw [hq]; exact this
  have hw1 : wrap64 ((K : Int) + 1) = (K : Int) + 1 := by unfold wrap64; omega
  clear hp hq
  have HC := Lib.hid hC
  have hKN : K < N := by omega
  have hk1 : (K : Int) < (N : Int) := by omega
  have hk2 : decide ((K : Int) < (N : Int)) = true := decide_eq_true hk1
  have hcK : ∀ W : World, (Instr.index 9 (.string d) (.int .i64 (K : Int))).run Tryz.prog W = .ok (.int .u8 46) W := fun W => by
      have := byte_at d K hK W
      rw [hc] at this
      exact this
  have hN1 : N ≤ 2000 := by omega
  have hlp : ∀ W : World, (Builtin.len_ #[9] 3 #[.string p]).run Tryz.prog W = .ok (.int .i64 (p.size : Int)) W := fun W => by rw [run_len_string W _ _ p (by kernel_rfl)]; rfl
  have hlq : ∀ W : World, (Builtin.len_ #[9] 3 #[.string q]).run Tryz.prog W = .ok (.int .i64 (q.size : Int)) W := fun W => by rw [run_len_string W _ _ q (by kernel_rfl)]; rfl
  have w0 : wrap64 ((p.size : Int) + (q.size : Int)) = (p.size : Int) + (q.size : Int) := by unfold wrap64; omega
  have w1 : ¬ (200 : Int) < (p.size : Int) + (q.size : Int) := by omega
  have w2 : decide ((200 : Int) < (p.size : Int) + (q.size : Int)) = false := decide_eq_false w1
  have hpq : ∀ W : World, (Op.stringOp .add p q).run Tryz.prog W = .ok (.string (p ++ q)) W := fun W => run_string_add_sum W _ _ (by omega)
  have hz := Lib.hid (fun (j : Nat) (hj : j < q.size) (W : World) => show (Op.stringOp .add (⟨#[49]⟩ ++ zeros j) ⟨#[48]⟩).run Tryz.prog W = .ok (.string (⟨#[49]⟩ ++ zeros (j + 1))) W from by
      rw [run_string_add_sum W _ _ (by rw [den_size, show (⟨#[48]⟩ : ByteArray).size = 1 from rfl]; omega), den_succ])
  obtain ⟨J, hJ⟩ : ∃ J, J = q.size := ⟨_, rfl⟩
  rw [← hJ] at hlq hz KD
  have HJ := Lib.hid hJ
  rw [← hJ] at w0 w1 w2
  obtain ⟨f1, f2, f3, f4⟩ := some_bytesR s h1
  have hi : ∀ W : World, (Instr.index 9 (.string s) (.int .i64 0)).run Tryz.prog W = .ok (.int .u8 45) W := fun W => by
      have := byte_at s 0 (Nat.pos_of_ne_zero h1) W
      rw [hb] at this
      exact this
  clear hb
  have M : Mem w [(w.heap.size, 27, [.bool false, .slice none 0 0, .slice none 0 0])] [] (w.alloc (.cells #[.bool false, .slice none 0 0, .slice none 0 0] 27)) := (Mem.start w).new _ _
  clear hr hN hC hK hc ep eq0 hJ h1 hl
  go_enter Tryz.func10, Tryz.ntmps10
  go_wp2
  go_loopg [5] K (fun g x wr => ∃ k : Nat, k + g = K ∧ x = .int .i64 (k : Int) ∧ wr = w.alloc (.cells #[.bool false, .slice none 0 0, .slice none 0 0] 27))
  case atStart => exact ⟨0, by omega, rfl, rfl⟩
  case round =>
    obtain ⟨k, hk, rfl, hw⟩ := hrel
    subst wr
    by_cases hlt : k < K
    · obtain ⟨c, hce⟩ : ∃ c, c = bt d k := ⟨_, rfl⟩
      have hb := hba.out k (by omega)
      have hcl := HC.out k hlt
      rw [← hce] at hb hcl
      obtain ⟨x1, x2, x3⟩ := byte_not hcl.1
      obtain ⟨x4, x5, x6⟩ := byte_not hcl.2
      simp only [Int.cast_ofNat_Int] at x1 x2 x3 x4 x5 x6
      have hkN : (k : Int) < (N : Int) := by omega
      have hkN2 : decide ((k : Int) < (N : Int)) = true := decide_eq_true hkN
      clear hce hcl
      go_wp2
      go_roundg (K - (k + 1))
      case measure => omega
      case rel => exact ⟨k + 1, by omega, by simp, rfl⟩
    · obtain rfl : k = K := by omega
      clear hk hlt
      go_wp2_with fail
      refine (K1.out _).mono ?_
      rintro e v0 ⟨rfl, hv⟩
      subst v0
      go_wp2_with fail
      refine (K2.out _).mono ?_
      rintro e v1 ⟨rfl, hv⟩
      subst v1
      go_wp2_with fail
      refine (K3.out _).mono ?_
      rintro e v2 ⟨rfl, hv⟩
      subst v2
      go_wp2_with fail
      refine (K4.out _).mono ?_
      rintro e v3 ⟨rfl, hv⟩
      subst v3
      go_wp2_with fail
      refine (KN.out _).mono ?_
      rintro e v4 ⟨an, can, rfl, g, rr⟩
      have M' := (M.up rr).add g; clear M rr g; have M := M'; clear M'
      obtain ⟨V, hV⟩ : ∃ V, V = v4 := ⟨_, rfl⟩
      rw [← hV] at M ⊢
      clear hV
      go_wp2
      go_loopg [10, 11] J (fun g x y wr => ∃ j : Nat, j + g = J ∧ x = .string (⟨#[49]⟩ ++ zeros j) ∧ y = .int .i64 (j : Int) ∧ wr = V)
      case atStart => exact ⟨0, by omega, by rw [den_zero], rfl, rfl⟩
      case round =>
        obtain ⟨j, hj, rfl, rfl, hw⟩ := hrel
        subst wr
        have HP := HJ.out
        by_cases hlt : j < J
        · have hadd := hz.out j hlt
          have hkj : (j : Int) < (J : Int) := by omega
          have hkj2 : decide ((j : Int) < (J : Int)) = true := decide_eq_true hkj
          clear HP
          go_wp2
          go_roundg (J - (j + 1))
          case measure => omega
          case rel => exact ⟨j + 1, by omega, rfl, by simp, rfl⟩
        · obtain rfl : j = J := by omega
          have hkj : ¬ (j : Int) < (j : Int) := by omega
          have hkj2 : decide ((j : Int) < (j : Int)) = false := decide_eq_false hkj
          clear hj hlt HP
          go_wp2_with fail
          refine (KS.out _ _ _).mono ?_
          rintro e v5 ⟨rfl, rr⟩
          have M' := M.up rr; clear M rr; have M := M'; clear M'
          go_wp2_with fail
          refine (KD.out _).mono ?_
          rintro e v6 ⟨ad, cad, rfl, g, rr⟩
          have M' := (M.up rr).add g; clear M rr g; have M := M'; clear M'
          go_wp2_with fail
          refine (KL.out _ (M.get 1 rfl) (M.get 0 rfl)).mono ?_
          rintro e v7 ⟨az, cz, oz, rz, rfl, g, g', rr⟩
          have M' := ((M.up rr).add g).add g'; clear M rr g g'; have M := M'; clear M'
          have z0 := M.cell 0 rfl 0 rfl; have z1 := M.cell 0 rfl 1 rfl; have z2 := M.cell 0 rfl 2 rfl; have y0 := M.fr 0 rfl 0; have y1 := M.fr 0 rfl 1; have y2 := M.fr 0 rfl 2
          go_wp2_with fail
          have M' := ((M.put 0 rfl rfl 0 (.bool sZ)).put 0 rfl rfl 1 (.slice az LZ.length cz)).put 0 rfl rfl 2 (.slice oz DZ.length rz)
          refine ret_boxN_tmp rfl rfl rfl (M'.box 0 rfl) Tryz.underlying27 size_rat rfl ?_
          exact ⟨az, cz, oz, rz, rfl, M'.get 1 rfl, M'.get 0 rfl, M'.below⟩

end Go.Proofs.YtimdinmhphihkaaGreatDoor
