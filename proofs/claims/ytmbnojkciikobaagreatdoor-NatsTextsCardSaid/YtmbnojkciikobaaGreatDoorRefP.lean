/- The document's answer: the digits of a number as a text: the mathematics; the walk. -/
import Derived.Test.YtmbnojkciikobaaGreatDoorRefN
import Derived.Test.YtmbnojkciikobaaGreatDoorRefH
import Derived.Test.YtmbnojkciikobaaGreatDoorDec
import Derived.Laws.Concat
namespace Go.Proofs.YtmbnojkciikobaaGreatDoor
open Go Go.Proofs Go.RowKit Go.Shelf Nu

attribute [local go_sem] Oper.semAt_some

def DIGS : ByteArray := ⟨#[48, 49, 50, 51, 52, 53, 54, 55, 56, 57]⟩
theorem digs_at : ∀ r, r < 10 → (DIGS.extract r (r + 1)).data.toList = [UInt8.ofNat (48 + r)] := by
  intro r hr
  match r, hr with
  | 0, _ => decide
  | 1, _ => decide
  | 2, _ => decide
  | 3, _ => decide
  | 4, _ => decide
  | 5, _ => decide
  | 6, _ => decide
  | 7, _ => decide
  | 8, _ => decide
  | 9, _ => decide
theorem size_of (d : ByteArray) : d.size = d.data.toList.length := by rw [Array.length_toList]; rfl
theorem no_bytes (d : ByteArray) (h : d.size = 0) : d = ⟨#[]⟩ := by
  rcases d with ⟨⟨l⟩⟩
  cases l with
  | nil => rfl
  | cons a l => simp [ByteArray.size] at h
theorem some_bytes (d : ByteArray) (h : 0 < d.size) : (d.toList == ([] : List UInt8)) = false ∧ d.toList.isEmpty = false ∧ (¬ d.toList = []) ∧ ¬ d = ⟨#[]⟩ := by
  rcases d with ⟨⟨l⟩⟩
  cases l with
  | nil => simp [ByteArray.size] at h
  | cons a l => refine ⟨by rw [Lib.toList_data]; rfl, by rw [Lib.toList_data]; rfl, by rw [Lib.toList_data]; simp, by simp⟩

/-- the digits that are still to come -/
def restD (lk : List Nat) (X : Nat) : List Nat := if X = 0 ∧ lk ≠ [] then [] else low X
structure TW (V : Nat) (s : ByteArray) (lk : List Nat) (X : Nat) : Prop where
  num : low V = lk ++ restD lk X
  tx : s.data.toList = lk.reverse.map UInt8.ofNat
theorem TW.start (V : Nat) : TW V ⟨#[]⟩ [] V := ⟨by simp [restD], rfl⟩
theorem TW.size {V X : Nat} {s : ByteArray} {lk : List Nat} (h : TW V s lk X) : s.size = lk.length := by rw [size_of, h.tx]; simp
theorem TW.le {V X : Nat} {s : ByteArray} {lk : List Nat} (h : TW V s lk X) : s.size ≤ (low V).length := by rw [h.size, h.num]; simp
theorem TW.nil {V X : Nat} {s : ByteArray} {lk : List Nat} (h : TW V s lk X) : s.size = 0 ↔ lk = [] := by rw [h.size]; exact List.length_eq_zero_iff
theorem TW.step {V X d : Nat} {s : ByteArray} {lk : List Nat} (h : TW V s lk X) (hne : ¬ (X = 0 ∧ lk ≠ [])) (hd : d = X % 10) : TW V (DIGS.extract d (d + 1) ++ s) (lk ++ [48 + d]) (X / 10) := by
  have hd10 : d < 10 := by omega
  refine ⟨?_, ?_⟩
  · have e := h.num
    unfold restD at e ⊢
    rw [if_neg hne] at e
    rw [e]
    conv => lhs; rw [low]
    rw [hd]
    by_cases h0 : X / 10 = 0
    · simp [h0]
    · simp [h0]
  · rw [ByteArray.data_append, Array.toList_append, digs_at d hd10, h.tx]
    simp
theorem TW.done {V : Nat} {s : ByteArray} {lk : List Nat} (h : TW V s lk 0) (hl : lk ≠ []) : s = txt V := by
  have e := h.num
  unfold restD at e
  rw [if_pos ⟨rfl, hl⟩, List.append_nil] at e
  have e2 := h.tx
  unfold txt
  rw [e, ← e2]
theorem TW.cast {V X Y : Nat} {s : ByteArray} {lk : List Nat} (h : TW V s lk X) (e : X = Y) : TW V s lk Y := e ▸ h

theorem dig_low {A2 r g gg d i : Nat} (_h9 : i + g = 9) (hg : g = gg + 1) (hd : d = r % 10) : d = (A2 * 10 ^ g + r) % 10 := by
  rw [hd, hg, Nat.pow_succ, ← Nat.mul_assoc, Nat.mul_comm _ 10, Nat.mul_add_mod]
theorem dig_next {i g gg : Nat} (_h9 : i + g = 9) (hg : g = gg + 1) (r A2 : Nat) : (A2 * 10 ^ g + r) / 10 = A2 * 10 ^ gg + r / 10 := by
  rw [hg, Nat.pow_succ, ← Nat.mul_assoc, Nat.mul_comm _ 10, Nat.mul_add_div (by decide)]
theorem dig_pow {g r : Nat} (h : r < 10 ^ (g + 1)) : r / 10 < 10 ^ g := by rw [Nat.pow_succ] at h; omega

set_option maxRecDepth 100000 in
set_option maxHeartbeats 8000000 in
theorem rtext_chk {w : World} {V : Nat} {a1 : Option Addr} {n1 c1 : Nat} (h : Reads w (.slice a1 n1 c1) (digs V)) (hn1 : n1 = (digs V).length) (hl : (digs V).length ≤ 100000) {va : Value}
    (kf : Calls Tryz.prog 74 #[va] w fun e w' => e = .returned (.slice a1 n1 c1) ∧ w' = w) (hv : ∃ a n c, va = .slice a n c) :
    Calls Tryz.prog 35 #[va] w fun e w' => e = .returned (.string (txt V)) ∧ Below w.heap.size w w' := by
  obtain ⟨b1, m1, d1, rfl⟩ := hv
  have HBV : Hid ((low (val (digs V))).length ≤ 2000000) := Lib.hid (by have := low_len_val (sm_digs V); omega)
  have H := Lib.hid h
  have HN1 := Lib.hid hn1
  clear h hn1
  go_enter Tryz.func35, Tryz.ntmps35
  go_wp2_with (go_at_call 74; refine kf.mono ?_; clear kf; rintro e w' ⟨rfl, hw⟩; subst w')
  go_loopg [0, 3] (V + 1) (fun g va vs wr => ∃ (a1 : Option Addr) (n c1 A : Nat) (t : ByteArray) (lk : List Nat), va = .slice a1 n c1 ∧ vs = .string t ∧ Hid (Reads wr (.slice a1 n c1) (digs A)) ∧ Hid (n = (digs A).length ∧ A ≤ V ∧ TW (val (digs V)) t lk A ∧ (lk = [] → A < g) ∧ (lk ≠ [] → A ≤ g)) ∧ Hid (Below w.heap.size w wr))
  case atStart => exact ⟨_, _, _, V, ⟨#[]⟩, [], rfl, rfl, H, Lib.hid ⟨HN1.out, Nat.le_refl _, (TW.start _).cast (val_digs V), fun _ => by omega, fun h => absurd rfl h⟩, Lib.hid (Below.refl _ _)⟩
  case round =>
    obtain ⟨a1, n, c1, A, s, lk, rfl, rfl, HR, HI, HB⟩ := hrel
    have hAV : A ≤ V := HI.out.2.1
    have HT : Hid (TW (val (digs V)) s lk A) := Lib.hid HI.out.2.2.1
    have hlA : (digs A).length ≤ 100000 := Nat.le_trans (digs_mono hAV) hl
    have hks := rsmall_any (t := 1000000000) HR.out hlA (sm_digs A) (by decide) (by decide)
    rw [val_digs] at hks
    obtain ⟨A2, hA2⟩ : ∃ A2, A2 = A / 1000000000 := ⟨_, rfl⟩
    obtain ⟨r0, hr0⟩ : ∃ r0, r0 = A % 1000000000 := ⟨_, rfl⟩
    rw [← hA2, ← hr0, show ((1000000000 : Nat) : Int) = 1000000000 by rfl] at hks
    obtain ⟨n2, hn2⟩ : ∃ n2, n2 = (digs A2).length := ⟨_, rfl⟩
    have HP2 : Hid ((0 < n2 → 0 < A2) ∧ (¬ 0 < n2 → A2 = 0)) := Lib.hid (by
      rcases Nat.eq_zero_or_pos A2 with e | e
      · rw [hn2, e, digs_zero]; simp
      · have := digs_len_pos (n := A2) (by omega); exact ⟨fun _ => e, fun h => by omega⟩)
    have HP : Hid ((0 < n → 0 < A) ∧ (¬ 0 < n → A = 0)) := Lib.hid (by
      have h1 := HI.out.1
      rcases Nat.eq_zero_or_pos A with e | e
      · rw [h1, e, digs_zero]; simp
      · have := digs_len_pos (n := A) (by omega); exact ⟨fun _ => e, fun h => by omega⟩)
    have KS := Lib.hid hks
    have HN2 := Lib.hid hn2
    have HR0 : Hid (r0 < 1000000000) := Lib.hid (by omega)
    have HA2 : Hid (A = A2 * 10 ^ 9 + r0) := Lib.hid (by omega)
    have HL2 : Hid (A2 ≤ V) := Lib.hid (by omega)
    have HD2 : Hid (0 < A → A2 < A) := Lib.hid (fun _ => by omega)
    have HD3 : Hid (A2 ≤ A) := Lib.hid (by omega)
    clear hks hA2 hr0 hn2 hAV hlA
    by_cases hn : 0 < n
    · have g1 : decide ((0 : Int) < (n : Int)) = true := by simp; omega
      have g2 : decide (0 < n) = true := by simp; omega
      have HME : Hid (A2 < gk) := Lib.hid (by
        have h1 := HP.out.1 hn
        have h2 := HD2.out h1
        by_cases e : lk = []
        · have := HI.out.2.2.2.1 e; omega
        · have := HI.out.2.2.2.2 e; omega)
      go_wp2_with (go_at_call 119; go_loud (refine KS.out.mono ?_); rintro e w2 ⟨vq, rfl, rq, bq⟩; obtain ⟨a2, c2, eq⟩ := rq.form; rw [← HN2.out] at eq; subst eq; have RQ := Lib.hid rq; have BQ := Lib.hid (then_below HB.out bq); clear rq bq)
      go_loopg [3, 5, 6] 9 (fun g vs vr vi wx => ∃ (i r : Nat) (t : ByteArray) (lk : List Nat), vs = .string t ∧ vr = .int .u32 (r : Int) ∧ vi = .int .i64 (i : Int) ∧ i + g = 9 ∧ r ≤ 999999999 ∧ Hid (r < 10 ^ g ∧ (0 < i → lk ≠ []) ∧ TW (val (digs V)) t lk (A2 * 10 ^ g + r)) ∧ wx = w2)
      case atStart => exact ⟨0, r0, s, lk, rfl, rfl, rfl, by omega, by have := HR0.out; omega, Lib.hid ⟨by have := HR0.out; omega, fun h => by omega, HT.out.cast HA2.out⟩, rfl⟩
      case round =>
        obtain ⟨i, r, s, lk, rfl, rfl, rfl, hi, hr9, HW, hwx⟩ := hrel
        subst wr
        by_cases hi9 : i < 9
        · obtain ⟨gg, hgg⟩ : ∃ gg, gk = gg + 1 := ⟨8 - i, by omega⟩
          have HG9 := Lib.hid hi
          have g1 : decide ((i : Int) < 9) = true := by simp; omega
          have g2 : decide (i < 9) = true := by simp; omega
          by_cases hn2 : 0 < n2
          · have g3 : decide ((0 : Int) < (n2 : Int)) = true := by simp; omega
            have g4 : decide (0 < n2) = true := by simp; omega
            have hA2 : 0 < A2 := HP2.out.1 hn2
            have hgo : ¬ (A2 * 10 ^ gk + r = 0 ∧ lk ≠ []) := fun h => by have := Nat.mul_pos hA2 (Nat.pow_pos (n := gk) (show 0 < 10 by decide)); omega
            obtain ⟨d, hd⟩ : ∃ d, d = r % 10 := ⟨_, rfl⟩
            have hd10 : d < 10 := by omega
            have hm1 : (r : Int) % 10 = (d : Int) := by rw [hd]; simp
            obtain ⟨s', hs'⟩ : ∃ s', s' = DIGS.extract d (d + 1) ++ s := ⟨_, rfl⟩
            have hstep := HW.out.2.2.step hgo (d := d) (dig_low HG9.out hgg hd)
            have hx := dig_next HG9.out hgg r A2
            rw [← hs', hx] at hstep
            have hadd : ∀ W, (Op.stringOp .add (DIGS.extract d (d + 1)) s).run Tryz.prog W = .ok (.string s') W := fun W => by
              rw [hs']; exact run_string_add_sum W _ _ (by rw [size_of, digs_at d hd10]; have := HW.out.2.2.le; have := HBV.out; simp only [List.length_singleton]; omega)
            have r0 : (0 : Int) ≤ (d : Int) := by omega
            have r1 : (d : Int) ≤ (d : Int) + 1 := by omega
            have r2 : (d : Int) + 1 ≤ 10 := by omega
            have r3 : ((d : Int) + 1).toNat = d + 1 := by omega
            have hpw := dig_pow (g := gg) (r := r) (by have h := HW.out.1; rw [hgg] at h; exact h)
            have REL : ∃ (i' r' : Nat) (t : ByteArray) (lk : List Nat), Value.string s' = .string t ∧ Value.int .u32 ((r / 10 : Nat) : Int) = .int .u32 (r' : Int) ∧ Value.int .i64 ((i : Int) + 1) = .int .i64 (i' : Int) ∧ i' + gg = 9 ∧ r' ≤ 999999999 ∧ Hid (r' < 10 ^ gg ∧ (0 < i' → lk ≠ []) ∧ TW (val (digs V)) t lk (A2 * 10 ^ gg + r')) ∧ w2 = w2 :=
              ⟨i + 1, r / 10, s', _, rfl, rfl, by simp, by omega, by omega, Lib.hid ⟨hpw, fun _ => by simp, hstep⟩, rfl⟩
            have REL' := Lib.hid REL
            unfold DIGS at hadd
            clear hs' hstep hx hpw hd REL hgo
            go_wp2_with fail
            go_roundg gg
            case measure => omega
            case rel => have h := REL'.out; simpa using h
          · have g3 : decide ((0 : Int) < (n2 : Int)) = false := by simp; omega
            have g4 : decide (0 < n2) = false := by simp; omega
            have hA0 : A2 = 0 := HP2.out.2 hn2
            by_cases hr0 : 0 < r
            · have g5 : decide ((0 : Int) < (r : Int)) = true := by simp; omega
              have g6 : decide (0 < r) = true := by simp; omega
              have hgo : ¬ (A2 * 10 ^ gk + r = 0 ∧ lk ≠ []) := fun h => by omega
              obtain ⟨d, hd⟩ : ∃ d, d = r % 10 := ⟨_, rfl⟩
              have hd10 : d < 10 := by omega
              have hm1 : (r : Int) % 10 = (d : Int) := by rw [hd]; simp
              obtain ⟨s', hs'⟩ : ∃ s', s' = DIGS.extract d (d + 1) ++ s := ⟨_, rfl⟩
              have hstep := HW.out.2.2.step hgo (d := d) (dig_low HG9.out hgg hd)
              have hx := dig_next HG9.out hgg r A2
              rw [← hs', hx] at hstep
              have hadd : ∀ W, (Op.stringOp .add (DIGS.extract d (d + 1)) s).run Tryz.prog W = .ok (.string s') W := fun W => by
                rw [hs']; exact run_string_add_sum W _ _ (by rw [size_of, digs_at d hd10]; have := HW.out.2.2.le; have := HBV.out; simp only [List.length_singleton]; omega)
              have r0 : (0 : Int) ≤ (d : Int) := by omega
              have r1 : (d : Int) ≤ (d : Int) + 1 := by omega
              have r2 : (d : Int) + 1 ≤ 10 := by omega
              have r3 : ((d : Int) + 1).toNat = d + 1 := by omega
              have hpw := dig_pow (g := gg) (r := r) (by have h := HW.out.1; rw [hgg] at h; exact h)
              have REL : ∃ (i' r' : Nat) (t : ByteArray) (lk : List Nat), Value.string s' = .string t ∧ Value.int .u32 ((r / 10 : Nat) : Int) = .int .u32 (r' : Int) ∧ Value.int .i64 ((i : Int) + 1) = .int .i64 (i' : Int) ∧ i' + gg = 9 ∧ r' ≤ 999999999 ∧ Hid (r' < 10 ^ gg ∧ (0 < i' → lk ≠ []) ∧ TW (val (digs V)) t lk (A2 * 10 ^ gg + r')) ∧ w2 = w2 :=
                ⟨i + 1, r / 10, s', _, rfl, rfl, by simp, by omega, by omega, Lib.hid ⟨hpw, fun _ => by simp, hstep⟩, rfl⟩
              have REL' := Lib.hid REL
              unfold DIGS at hadd
              clear hs' hstep hx hpw hd REL hgo
              go_wp2_with fail
              go_roundg gg
              case measure => omega
              case rel => have h := REL'.out; simpa using h
            · have g5 : decide ((0 : Int) < (r : Int)) = false := by simp; omega
              have g6 : decide (0 < r) = false := by simp; omega
              by_cases hs0 : s.size = 0
              · have hgo : ¬ (A2 * 10 ^ gk + r = 0 ∧ lk ≠ []) := fun h => h.2 (HW.out.2.2.nil.1 hs0)
                obtain rfl := no_bytes s hs0
                obtain ⟨d, hd⟩ : ∃ d, d = r % 10 := ⟨_, rfl⟩
                have hd10 : d < 10 := by omega
                have hm1 : (r : Int) % 10 = (d : Int) := by rw [hd]; simp
                obtain ⟨s', hs'⟩ : ∃ s', s' = DIGS.extract d (d + 1) ++ ⟨#[]⟩ := ⟨_, rfl⟩
                have hstep := HW.out.2.2.step hgo (d := d) (dig_low HG9.out hgg hd)
                have hx := dig_next HG9.out hgg r A2
                rw [← hs', hx] at hstep
                have hadd : ∀ W, (Op.stringOp .add (DIGS.extract d (d + 1)) ⟨#[]⟩).run Tryz.prog W = .ok (.string s') W := fun W => by
                  rw [hs']; exact run_string_add_sum W _ _ (by rw [size_of, digs_at d hd10]; have := HW.out.2.2.le; have := HBV.out; simp only [List.length_singleton]; omega)
                have r0 : (0 : Int) ≤ (d : Int) := by omega
                have r1 : (d : Int) ≤ (d : Int) + 1 := by omega
                have r2 : (d : Int) + 1 ≤ 10 := by omega
                have r3 : ((d : Int) + 1).toNat = d + 1 := by omega
                have hpw := dig_pow (g := gg) (r := r) (by have h := HW.out.1; rw [hgg] at h; exact h)
                have REL : ∃ (i' r' : Nat) (t : ByteArray) (lk : List Nat), Value.string s' = .string t ∧ Value.int .u32 ((r / 10 : Nat) : Int) = .int .u32 (r' : Int) ∧ Value.int .i64 ((i : Int) + 1) = .int .i64 (i' : Int) ∧ i' + gg = 9 ∧ r' ≤ 999999999 ∧ Hid (r' < 10 ^ gg ∧ (0 < i' → lk ≠ []) ∧ TW (val (digs V)) t lk (A2 * 10 ^ gg + r')) ∧ w2 = w2 :=
                  ⟨i + 1, r / 10, s', _, rfl, rfl, by simp, by omega, by omega, Lib.hid ⟨hpw, fun _ => by simp, hstep⟩, rfl⟩
                have REL' := Lib.hid REL
                unfold DIGS at hadd
                clear hs' hstep hx hpw hd REL hgo
                go_wp2_with fail
                go_roundg gg
                case measure => omega
                case rel => have h := REL'.out; simpa using h
              · obtain ⟨f1, f2, f3, f4⟩ := some_bytes s (by omega)
                have hlk : lk ≠ [] := fun e => hs0 (HW.out.2.2.nil.2 e)
                have REL : ∃ (a1 : Option Addr) (n c1 A : Nat) (t : ByteArray) (lk : List Nat), Value.slice a2 n2 c2 = .slice a1 n c1 ∧ Value.string s = .string t ∧ Hid (Reads w2 (.slice a1 n c1) (digs A)) ∧ Hid (n = (digs A).length ∧ A ≤ V ∧ TW (val (digs V)) t lk A ∧ (lk = [] → A < A2) ∧ (lk ≠ [] → A ≤ A2)) ∧ Hid (Below w.heap.size w w2) := ⟨_, _, _, A2, s, lk, rfl, rfl, RQ, Lib.hid ⟨HN2.out, HL2.out, HW.out.2.2.cast (by rw [hA0, Nat.zero_mul]; omega), fun e => absurd e hlk, fun _ => Nat.le_refl _⟩, BQ⟩
                have REL' := Lib.hid REL
                clear REL
                go_wp2_with fail
                go_roundg A2
                case measure => exact HME.out
                case rel => exact REL'.out
        · have g1 : decide ((i : Int) < 9) = false := by simp; omega
          have g2 : decide (i < 9) = false := by simp; omega
          have hg0 : gk = 0 := by omega
          have hr0 : r < 10 ^ gk := HW.out.1
          rw [hg0] at hr0
          have hlk : lk ≠ [] := HW.out.2.1 (by omega)
          have REL : ∃ (a1 : Option Addr) (n c1 A : Nat) (t : ByteArray) (lk : List Nat), Value.slice a2 n2 c2 = .slice a1 n c1 ∧ Value.string s = .string t ∧ Hid (Reads w2 (.slice a1 n c1) (digs A)) ∧ Hid (n = (digs A).length ∧ A ≤ V ∧ TW (val (digs V)) t lk A ∧ (lk = [] → A < A2) ∧ (lk ≠ [] → A ≤ A2)) ∧ Hid (Below w.heap.size w w2) := ⟨_, _, _, A2, s, lk, rfl, rfl, RQ, Lib.hid ⟨HN2.out, HL2.out, HW.out.2.2.cast (by rw [hg0]; omega), fun e => absurd e hlk, fun _ => Nat.le_refl _⟩, BQ⟩
          have REL' := Lib.hid REL
          clear REL
          go_wp2_with fail
          go_roundg A2
          case measure => exact HME.out
          case rel => exact REL'.out
    · have g1 : decide ((0 : Int) < (n : Int)) = false := by simp; omega
      have g2 : decide (0 < n) = false := by simp; omega
      have hA0 := HP.out.2 hn
      by_cases hs0 : s.size = 0
      · have hlk := HT.out.nil.1 hs0
        have HME : Hid (A2 < gk) := Lib.hid (by have := HI.out.2.2.2.1 hlk; have := HD3.out; omega)
        obtain rfl := no_bytes s hs0
        go_wp2_with (go_at_call 119; go_loud (refine KS.out.mono ?_); rintro e w2 ⟨vq, rfl, rq, bq⟩; obtain ⟨a2, c2, eq⟩ := rq.form; rw [← HN2.out] at eq; subst eq; have RQ := Lib.hid rq; have BQ := Lib.hid (then_below HB.out bq); clear rq bq)
        go_loopg [3, 5, 6] 9 (fun g vs vr vi wx => ∃ (i r : Nat) (t : ByteArray) (lk : List Nat), vs = .string t ∧ vr = .int .u32 (r : Int) ∧ vi = .int .i64 (i : Int) ∧ i + g = 9 ∧ r ≤ 999999999 ∧ Hid (r < 10 ^ g ∧ (0 < i → lk ≠ []) ∧ TW (val (digs V)) t lk (A2 * 10 ^ g + r)) ∧ wx = w2)
        case atStart => exact ⟨0, r0, ⟨#[]⟩, lk, rfl, rfl, rfl, by omega, by have := HR0.out; omega, Lib.hid ⟨by have := HR0.out; omega, fun h => by omega, HT.out.cast HA2.out⟩, rfl⟩
        case round =>
          obtain ⟨i, r, s, lk, rfl, rfl, rfl, hi, hr9, HW, hwx⟩ := hrel
          subst wr
          by_cases hi9 : i < 9
          · obtain ⟨gg, hgg⟩ : ∃ gg, gk = gg + 1 := ⟨8 - i, by omega⟩
            have HG9 := Lib.hid hi
            have g1 : decide ((i : Int) < 9) = true := by simp; omega
            have g2 : decide (i < 9) = true := by simp; omega
            by_cases hn2 : 0 < n2
            · have g3 : decide ((0 : Int) < (n2 : Int)) = true := by simp; omega
              have g4 : decide (0 < n2) = true := by simp; omega
              have hA2 : 0 < A2 := HP2.out.1 hn2
              have hgo : ¬ (A2 * 10 ^ gk + r = 0 ∧ lk ≠ []) := fun h => by have := Nat.mul_pos hA2 (Nat.pow_pos (n := gk) (show 0 < 10 by decide)); omega
              obtain ⟨d, hd⟩ : ∃ d, d = r % 10 := ⟨_, rfl⟩
              have hd10 : d < 10 := by omega
              have hm1 : (r : Int) % 10 = (d : Int) := by rw [hd]; simp
              obtain ⟨s', hs'⟩ : ∃ s', s' = DIGS.extract d (d + 1) ++ s := ⟨_, rfl⟩
              have hstep := HW.out.2.2.step hgo (d := d) (dig_low HG9.out hgg hd)
              have hx := dig_next HG9.out hgg r A2
              rw [← hs', hx] at hstep
              have hadd : ∀ W, (Op.stringOp .add (DIGS.extract d (d + 1)) s).run Tryz.prog W = .ok (.string s') W := fun W => by
                rw [hs']; exact run_string_add_sum W _ _ (by rw [size_of, digs_at d hd10]; have := HW.out.2.2.le; have := HBV.out; simp only [List.length_singleton]; omega)
              have r0 : (0 : Int) ≤ (d : Int) := by omega
              have r1 : (d : Int) ≤ (d : Int) + 1 := by omega
              have r2 : (d : Int) + 1 ≤ 10 := by omega
              have r3 : ((d : Int) + 1).toNat = d + 1 := by omega
              have hpw := dig_pow (g := gg) (r := r) (by have h := HW.out.1; rw [hgg] at h; exact h)
              have REL : ∃ (i' r' : Nat) (t : ByteArray) (lk : List Nat), Value.string s' = .string t ∧ Value.int .u32 ((r / 10 : Nat) : Int) = .int .u32 (r' : Int) ∧ Value.int .i64 ((i : Int) + 1) = .int .i64 (i' : Int) ∧ i' + gg = 9 ∧ r' ≤ 999999999 ∧ Hid (r' < 10 ^ gg ∧ (0 < i' → lk ≠ []) ∧ TW (val (digs V)) t lk (A2 * 10 ^ gg + r')) ∧ w2 = w2 :=
                ⟨i + 1, r / 10, s', _, rfl, rfl, by simp, by omega, by omega, Lib.hid ⟨hpw, fun _ => by simp, hstep⟩, rfl⟩
              have REL' := Lib.hid REL
              unfold DIGS at hadd
              clear hs' hstep hx hpw hd REL hgo
              go_wp2_with fail
              go_roundg gg
              case measure => omega
              case rel => have h := REL'.out; simpa using h
            · have g3 : decide ((0 : Int) < (n2 : Int)) = false := by simp; omega
              have g4 : decide (0 < n2) = false := by simp; omega
              have hA0 : A2 = 0 := HP2.out.2 hn2
              by_cases hr0 : 0 < r
              · have g5 : decide ((0 : Int) < (r : Int)) = true := by simp; omega
                have g6 : decide (0 < r) = true := by simp; omega
                have hgo : ¬ (A2 * 10 ^ gk + r = 0 ∧ lk ≠ []) := fun h => by omega
                obtain ⟨d, hd⟩ : ∃ d, d = r % 10 := ⟨_, rfl⟩
                have hd10 : d < 10 := by omega
                have hm1 : (r : Int) % 10 = (d : Int) := by rw [hd]; simp
                obtain ⟨s', hs'⟩ : ∃ s', s' = DIGS.extract d (d + 1) ++ s := ⟨_, rfl⟩
                have hstep := HW.out.2.2.step hgo (d := d) (dig_low HG9.out hgg hd)
                have hx := dig_next HG9.out hgg r A2
                rw [← hs', hx] at hstep
                have hadd : ∀ W, (Op.stringOp .add (DIGS.extract d (d + 1)) s).run Tryz.prog W = .ok (.string s') W := fun W => by
                  rw [hs']; exact run_string_add_sum W _ _ (by rw [size_of, digs_at d hd10]; have := HW.out.2.2.le; have := HBV.out; simp only [List.length_singleton]; omega)
                have r0 : (0 : Int) ≤ (d : Int) := by omega
                have r1 : (d : Int) ≤ (d : Int) + 1 := by omega
                have r2 : (d : Int) + 1 ≤ 10 := by omega
                have r3 : ((d : Int) + 1).toNat = d + 1 := by omega
                have hpw := dig_pow (g := gg) (r := r) (by have h := HW.out.1; rw [hgg] at h; exact h)
                have REL : ∃ (i' r' : Nat) (t : ByteArray) (lk : List Nat), Value.string s' = .string t ∧ Value.int .u32 ((r / 10 : Nat) : Int) = .int .u32 (r' : Int) ∧ Value.int .i64 ((i : Int) + 1) = .int .i64 (i' : Int) ∧ i' + gg = 9 ∧ r' ≤ 999999999 ∧ Hid (r' < 10 ^ gg ∧ (0 < i' → lk ≠ []) ∧ TW (val (digs V)) t lk (A2 * 10 ^ gg + r')) ∧ w2 = w2 :=
                  ⟨i + 1, r / 10, s', _, rfl, rfl, by simp, by omega, by omega, Lib.hid ⟨hpw, fun _ => by simp, hstep⟩, rfl⟩
                have REL' := Lib.hid REL
                unfold DIGS at hadd
                clear hs' hstep hx hpw hd REL hgo
                go_wp2_with fail
                go_roundg gg
                case measure => omega
                case rel => have h := REL'.out; simpa using h
              · have g5 : decide ((0 : Int) < (r : Int)) = false := by simp; omega
                have g6 : decide (0 < r) = false := by simp; omega
                by_cases hs0 : s.size = 0
                · have hgo : ¬ (A2 * 10 ^ gk + r = 0 ∧ lk ≠ []) := fun h => h.2 (HW.out.2.2.nil.1 hs0)
                  obtain rfl := no_bytes s hs0
                  obtain ⟨d, hd⟩ : ∃ d, d = r % 10 := ⟨_, rfl⟩
                  have hd10 : d < 10 := by omega
                  have hm1 : (r : Int) % 10 = (d : Int) := by rw [hd]; simp
                  obtain ⟨s', hs'⟩ : ∃ s', s' = DIGS.extract d (d + 1) ++ ⟨#[]⟩ := ⟨_, rfl⟩
                  have hstep := HW.out.2.2.step hgo (d := d) (dig_low HG9.out hgg hd)
                  have hx := dig_next HG9.out hgg r A2
                  rw [← hs', hx] at hstep
                  have hadd : ∀ W, (Op.stringOp .add (DIGS.extract d (d + 1)) ⟨#[]⟩).run Tryz.prog W = .ok (.string s') W := fun W => by
                    rw [hs']; exact run_string_add_sum W _ _ (by rw [size_of, digs_at d hd10]; have := HW.out.2.2.le; have := HBV.out; simp only [List.length_singleton]; omega)
                  have r0 : (0 : Int) ≤ (d : Int) := by omega
                  have r1 : (d : Int) ≤ (d : Int) + 1 := by omega
                  have r2 : (d : Int) + 1 ≤ 10 := by omega
                  have r3 : ((d : Int) + 1).toNat = d + 1 := by omega
                  have hpw := dig_pow (g := gg) (r := r) (by have h := HW.out.1; rw [hgg] at h; exact h)
                  have REL : ∃ (i' r' : Nat) (t : ByteArray) (lk : List Nat), Value.string s' = .string t ∧ Value.int .u32 ((r / 10 : Nat) : Int) = .int .u32 (r' : Int) ∧ Value.int .i64 ((i : Int) + 1) = .int .i64 (i' : Int) ∧ i' + gg = 9 ∧ r' ≤ 999999999 ∧ Hid (r' < 10 ^ gg ∧ (0 < i' → lk ≠ []) ∧ TW (val (digs V)) t lk (A2 * 10 ^ gg + r')) ∧ w2 = w2 :=
                    ⟨i + 1, r / 10, s', _, rfl, rfl, by simp, by omega, by omega, Lib.hid ⟨hpw, fun _ => by simp, hstep⟩, rfl⟩
                  have REL' := Lib.hid REL
                  unfold DIGS at hadd
                  clear hs' hstep hx hpw hd REL hgo
                  go_wp2_with fail
                  go_roundg gg
                  case measure => omega
                  case rel => have h := REL'.out; simpa using h
                · obtain ⟨f1, f2, f3, f4⟩ := some_bytes s (by omega)
                  have hlk : lk ≠ [] := fun e => hs0 (HW.out.2.2.nil.2 e)
                  have REL : ∃ (a1 : Option Addr) (n c1 A : Nat) (t : ByteArray) (lk : List Nat), Value.slice a2 n2 c2 = .slice a1 n c1 ∧ Value.string s = .string t ∧ Hid (Reads w2 (.slice a1 n c1) (digs A)) ∧ Hid (n = (digs A).length ∧ A ≤ V ∧ TW (val (digs V)) t lk A ∧ (lk = [] → A < A2) ∧ (lk ≠ [] → A ≤ A2)) ∧ Hid (Below w.heap.size w w2) := ⟨_, _, _, A2, s, lk, rfl, rfl, RQ, Lib.hid ⟨HN2.out, HL2.out, HW.out.2.2.cast (by rw [hA0, Nat.zero_mul]; omega), fun e => absurd e hlk, fun _ => Nat.le_refl _⟩, BQ⟩
                  have REL' := Lib.hid REL
                  clear REL
                  go_wp2_with fail
                  go_roundg A2
                  case measure => exact HME.out
                  case rel => exact REL'.out
          · have g1 : decide ((i : Int) < 9) = false := by simp; omega
            have g2 : decide (i < 9) = false := by simp; omega
            have hg0 : gk = 0 := by omega
            have hr0 : r < 10 ^ gk := HW.out.1
            rw [hg0] at hr0
            have hlk : lk ≠ [] := HW.out.2.1 (by omega)
            have REL : ∃ (a1 : Option Addr) (n c1 A : Nat) (t : ByteArray) (lk : List Nat), Value.slice a2 n2 c2 = .slice a1 n c1 ∧ Value.string s = .string t ∧ Hid (Reads w2 (.slice a1 n c1) (digs A)) ∧ Hid (n = (digs A).length ∧ A ≤ V ∧ TW (val (digs V)) t lk A ∧ (lk = [] → A < A2) ∧ (lk ≠ [] → A ≤ A2)) ∧ Hid (Below w.heap.size w w2) := ⟨_, _, _, A2, s, lk, rfl, rfl, RQ, Lib.hid ⟨HN2.out, HL2.out, HW.out.2.2.cast (by rw [hg0]; omega), fun e => absurd e hlk, fun _ => Nat.le_refl _⟩, BQ⟩
            have REL' := Lib.hid REL
            clear REL
            go_wp2_with fail
            go_roundg A2
            case measure => exact HME.out
            case rel => exact REL'.out
      · obtain ⟨f1, f2, f3, f4⟩ := some_bytes s (by omega)
        have hdn := (HT.out.cast hA0).done (fun e => hs0 (HT.out.nil.2 e))
        rw [val_digs] at hdn
        have HDN := Lib.hid hdn
        clear hdn
        go_wp2
        go_ret
        rw [← HDN.out]
        exact ⟨by rfl, HB.out⟩

theorem rtext_any {w : World} {v : Value} {L : List Nat} (h : Reads w v L) (hs : Sm L) (hL : L.length ≤ 100000) :
    Calls Tryz.prog 35 #[v] w fun e w' => e = .returned (.string (txt (nv L))) ∧ Below w.heap.size w w' := by
  have kf := rfit_any h (by omega)
  have hf := h.form
  cases hc : chk L with
  | true =>
    have e1 : orzV v L = v := by simp [orzV, hc]
    have e2 : digs (nv L) = L := by rw [nv_chk hc]; exact digs_val hs hc
    rw [e1] at kf
    obtain ⟨a, c, rfl⟩ := hf
    exact rtext_chk (V := nv L) (a1 := a) (n1 := L.length) (c1 := c) (by rw [e2]; exact h) (by rw [e2]) (by rw [e2]; exact hL) kf ⟨_, _, _, rfl⟩
  | false =>
    have e1 : orzV v L = .slice none 0 0 := by simp [orzV, hc]
    have e2 : nv L = 0 := by simp [nv, hc]
    rw [e1] at kf
    obtain ⟨a, c, rfl⟩ := hf
    rw [e2]
    exact rtext_chk (V := 0) (a1 := none) (n1 := 0) (c1 := 0) (by rw [digs_zero]; exact Reads.nil _) (by rw [digs_zero]; rfl) (by rw [digs_zero]; simp) kf ⟨_, _, _, rfl⟩

end Go.Proofs.YtmbnojkciikobaaGreatDoor
