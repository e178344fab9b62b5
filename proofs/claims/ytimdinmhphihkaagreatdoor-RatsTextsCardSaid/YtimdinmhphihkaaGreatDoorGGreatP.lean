/- The document's answer: whole numbers, by hand: sums, products, 0 less one, the order. The document's answer: whole numbers, by hand: of any two. The document's answer: a text's digits, read by hand. The document's answer: a text's number, by hand. The document's answer: what a text's number is, or why there is none. The document's answer: the digits of a number as a text: the mathematics; the walk. The document's answer: whole numbers, by hand: of a number of 64 bits. The document's answer: whole numbers, by hand: the text. A book: its marks, and what it is told. A book's lists of parts are filled with marks. A book's lists of parts are grown. A book's lists of parts are grown: the walk. A book's lists of parts are looked at. A book's other lists, which are empty: their calls answer at once. A book's lists of parts lie apart: its last call. A number copied, with room behind, as memory of its own; and looked at again. Whether one of some numbers has more than 300 parts; whether a text is longer than is gone through. -/
import Derived.Deep.RegionHeld3
import Derived.Laws.Strings
import Derived.Deep.RegionWith
import Derived.Laws.Concat
import Derived.Deep.RegionLaw
import Derived.Deep.AppendLies
import Derived.Deep.LoopGhost
import Derived.Deep.QuietTactic
import Derived.Test.YtimdinmhphihkaaGreatDoorGRefI
import Derived.Test.YtimdinmhphihkaaGreatDoorGMathG
import Derived.Test.YtimdinmhphihkaaGreatDoorGInts
namespace Go.Proofs.YtimdinmhphihkaaGreatDoor
open Go Go.Proofs Go.RowKit Go.Shelf Nu

attribute [local go_sem] Oper.semAt_some

section
variable {w : World} {p1 p2 : Option Addr} {q1 q2 A B : Nat}
end

section
variable {w : World} {v1 v2 : Value} {n1 n2 m1 m2 : Bool} {p1 p2 : Option Addr} {q1 q2 A B : Nat}
end

end Go.Proofs.YtimdinmhphihkaaGreatDoor

namespace Go.Proofs.YtimdinmhphihkaaGreatDoor
open Go Go.Proofs Go.RowKit Go.Shelf Nu

attribute [local go_sem] Oper.semAt_some

section
variable {w : World} {v1 v2 : Value} {l1 l2 : List Nat} {n1 n2 : Bool}
end

end Go.Proofs.YtimdinmhphihkaaGreatDoor

namespace Go.Proofs.YtimdinmhphihkaaGreatDoor
open Go Go.Proofs Go.RowKit Go.Shelf Nu

attribute [local go_sem] Oper.semAt_some

theorem byte_at (s : ByteArray) (k : Nat) (h : k < s.size) (W : World) : (Instr.index 9 (.string s) (.int .i64 (k : Int))).run Tryz.prog W = .ok (.int .u8 (bt s k : Nat)) W := by
  rw [run_index_string _ _ _ _ _ (by kernel_rfl), dif_pos ⟨by omega, by omega⟩]
  unfold bt
  rw [List.getD_eq_getElem?_getD, List.getElem?_eq_getElem (by simpa using h)]
  rfl
theorem text_none (s : ByteArray) : s.toList.isEmpty = decide (s.size = 0) := by
  rw [Lib.toList_data]
  rcases s with ⟨⟨l⟩⟩
  cases l <;> simp [ByteArray.size]

def allDig (s : ByteArray) : Prop := (∀ j, j < s.size → 48 ≤ bt s j ∧ bt s j ≤ 57) ∧ 0 < s.size

set_option maxRecDepth 100000 in
set_option maxHeartbeats 2000000 in
theorem rdigits_any (s : ByteArray) (w : World) (hs : s.size ≤ 2000000) (R : Bool) (hR : R = true ↔ allDig s) :
    Calls Tryz.prog 50 #[.string s] w fun e w' => e = .returned (.bool R) ∧ w' = w := by
  have HR := Lib.hid hR
  obtain ⟨N, hN⟩ : ∃ N, N = s.size := ⟨_, rfl⟩
  have HN := Lib.hid hN
  have hN1 : N ≤ 2000000 := by omega
  have hlen : ∀ W : World, (Builtin.len_ #[9] 3 #[.string s]).run Tryz.prog W = .ok (.int .i64 (N : Int)) W := fun W => by rw [run_len_string W _ _ s (by kernel_rfl), hN]; rfl
  have HT := Lib.hid (text_none s)
  have hba := Lib.hid (byte_at s)
  clear hR hN hs
  go_enter Tryz.func50, Tryz.ntmps50
  go_wp2
  go_loopg [3] N (fun g x wr => ∃ k : Nat, k + g = N ∧ x = .int .i64 k ∧ Hid (∀ j, j < k → 48 ≤ bt s j ∧ bt s j ≤ 57) ∧ wr = w)
  case atStart => exact ⟨0, by omega, rfl, Lib.hid fun j hj => by omega, rfl⟩
  case round =>
    obtain ⟨k, hk, rfl, hd, rfl⟩ := hrel
    by_cases hlt : k < N
    · obtain ⟨c, hce⟩ : ∃ c, c = bt s k := ⟨_, rfl⟩
      have hb := hba.out k (by have := HN.out; omega)
      rw [← hce] at hb
      have HC := Lib.hid hce
      have hc256 : c < 256 := by rw [hce]; exact bt_lt s k
      clear hce
      by_cases h1 : c < 48
      · go_wp2
        go_ret
        have : R = false := by
          cases R with
          | false => rfl
          | true => have := (HR.out.1 rfl).1 k (by have := HN.out; omega); have := HC.out; omega
        exact ⟨by rw [this]; rfl, rfl⟩
      · by_cases h2 : 57 < c
        · go_wp2
          go_ret
          have : R = false := by
            cases R with
            | false => rfl
            | true => have := (HR.out.1 rfl).1 k (by have := HN.out; omega); have := HC.out; omega
          exact ⟨by rw [this]; rfl, rfl⟩
        · go_wp2
          go_roundg (N - (k + 1))
          case measure => omega
          case rel =>
            refine ⟨k + 1, by omega, by simp, Lib.hid fun j hj => ?_, rfl⟩
            rcases Nat.lt_or_ge j k with h | h
            · exact hd.out j h
            · obtain rfl : j = k := by omega
              have := HC.out
              omega
    · obtain rfl : k = N := by omega
      obtain ⟨B, hB⟩ : ∃ B, B = s.toList.isEmpty := ⟨_, rfl⟩
      have eR : R = !B := by
        rw [hB, HT.out]
        have h1 := HR.out
        have h2 := HN.out
        unfold allDig at h1
        by_cases h0 : s.size = 0
        · cases R with
          | false => simp [h0]
          | true => have := (h1.1 rfl).2; omega
        · cases R with
          | true => simp [h0]
          | false => exact absurd (h1.2 ⟨fun j hj => hd.out j (by omega), by omega⟩) (by simp)
      have ER := Lib.hid eR
      have eB := hB.symm
      clear hB eR
      go_wp2
      go_ret
      rw [ER.out]
      exact ⟨by simp, rfl⟩

end Go.Proofs.YtimdinmhphihkaaGreatDoor

namespace Go.Proofs.YtimdinmhphihkaaGreatDoor
open Go Go.Proofs Go.RowKit Go.Shelf Nu

attribute [local go_sem] Oper.semAt_some

set_option maxRecDepth 100000 in
set_option maxHeartbeats 4000000 in
theorem rnumber_any (s : ByteArray) (w : World) (hs : s.size ≤ 10000) (hd : allDig s) :
    Calls Tryz.prog 52 #[.string s] w fun e w' => ∃ v, e = .returned v ∧ Reads w' v (digs (numv s s.size)) ∧ Below w.heap.size w w' := by
  obtain ⟨N, hN⟩ : ∃ N, N = s.size := ⟨_, rfl⟩
  have HN := Lib.hid hN
  have hN1 : N ≤ 10000 := by omega
  have HD := Lib.hid hd.1
  have hlen : ∀ W : World, (Builtin.len_ #[9] 3 #[.string s]).run Tryz.prog W = .ok (.int .i64 (N : Int)) W := fun W => by rw [run_len_string W _ _ s (by kernel_rfl), hN]; rfl
  have hba := Lib.hid (byte_at s)
  rw [← hN]
  clear hN hs hd
  go_enter Tryz.func52, Tryz.ntmps52
  go_wp2
  go_loopg [3, 4] N (fun g va x wr => ∃ k : Nat, k + g = N ∧ x = .int .i64 k ∧ Hid (Reads wr va (digs (numv s k))) ∧ Hid (Below w.heap.size w wr))
  case atStart => exact ⟨0, by omega, rfl, Lib.hid (by rw [show numv s 0 = 0 from rfl, digs_zero]; exact Reads.nil _), Lib.hid (Below.refl _ _)⟩
  case round =>
    obtain ⟨k, hk, rfl, HR, HB⟩ := hrel
    by_cases hlt : k < N
    · obtain ⟨c, hce⟩ : ∃ c, c = bt s k - 48 := ⟨_, rfl⟩
      have hdk := HD.out k (by have := HN.out; omega)
      have hb := hba.out k (by have := HN.out; omega)
      rw [show ((bt s k : Nat) : Int) = (c : Int) + 48 by omega] at hb
      have HC := Lib.hid hce
      have hc9 : c ≤ 9 := by omega
      have u1 : IntKind.u8.wrap ((c : Int) + 48 - 48) = (c : Int) := by rw [IntKind.wrap_u8']; omega
      have u2 : (c : Int) + 48 - 48 = (c : Int) := by omega
      have hle57 : ∀ j, j < k → bt s j ≤ 57 := fun j hj => (HD.out j (by have := HN.out; omega)).2
      have hl1 : (digs (numv s k)).length ≤ 100000 := by have := numv_len s k hle57; omega
      have hl2 : (digs (numv s k * 10)).length ≤ 100000 := by
        have h1 := numv_lt s k hle57
        have h2 : (digs (numv s k * 10)).length ≤ k + 1 := digs_length_le (Nat.lt_of_lt_of_le (show numv s k * 10 < 10 ^ (k + 1) by rw [Nat.pow_succ]; omega) (Nat.pow_le_pow_left (by decide) (k + 1)))
        omega
      have hl3 : (digs c).length ≤ 100000 := by
        have h2 : (digs c).length ≤ 1 := digs_length_le (by omega)
        omega
      have hF : Fresh (wr.alloc (.cells #[.int .u32 10] 90)) wr.heap.size (.slice (some ⟨wr.heap.size, 0, none⟩) 1 1) [10] :=
        ⟨rfl, .inr ⟨wr.heap.size, 1, _, rfl, Nat.le_refl _, World.alloc_heap_new wr _, Nat.le_refl _, small_max (by omega), rfl, rfl⟩⟩
      have hB1 : Below wr.heap.size wr (wr.alloc (.cells #[.int .u32 10] 90)).drew := ((Below.refl _ _).alloc (Nat.le_refl _) _).drew
      have hT := hF.reads.below (Below.refl _ _).drew
      have km := rmul_any (HR.out.below hB1) hT hl1 (by simp) (sm_digs _) (Sm.cons (by omega) Sm.nil)
      rw [nv_digs, show nv [10] = 10 by rfl] at km
      have KM := Lib.hid km
      have HB1 := Lib.hid hB1
      have u4 : IntKind.u8.wrap (c : Int) = (c : Int) := by rw [IntKind.wrap_u8']; omega
      have u3 : IntKind.u64.wrap (c : Int) = (c : Int) := by rw [IntKind.wrap_u64]; omega
      have KO := Lib.hid (rof_any c (by omega))
      obtain ⟨a1, c1, ea⟩ := HR.out.form
      subst ea
      clear hce hdk hF hT km hB1 hle57
      go_wp2_with fail
      go_region_with (first
        | (go_at_call 138; refine KM.out.mono ?_; rintro e w2 ⟨v1, rfl, r1, b1⟩; have R1 := Lib.hid r1; have B2 := Lib.hid (then_below HB1.out b1); clear r1 b1)
        | (go_at_call 139; refine (KO.out _).mono ?_; rintro e w3 ⟨v2, rfl, r2, b2⟩; have KA := Lib.hid (radd_any (R1.out.below b2) r2 hl2 hl3 (sm_digs _) (sm_digs _)); have B3 := Lib.hid (then_below B2.out b2); clear r2 b2)
        | (go_at_call 65; refine KA.out.mono ?_; rintro e w4 ⟨v3, rfl, r3, b3⟩; have R3 := Lib.hid r3; have B4 := Lib.hid (then_below B3.out b3); clear r3 b3))
      all_goals
        go_wp2
        go_roundg (N - (k + 1))
        case measure => omega
        case rel =>
          refine ⟨k + 1, by omega, by simp, Lib.hid ?_, Lib.hid (then_below HB.out B4.out)⟩
          have h := R3.out
          rw [nv_digs, nv_digs] at h
          rw [show numv s (k + 1) = numv s k * 10 + c by rw [numv, HC.out, Nat.mul_comm]]
          exact h
    · obtain rfl : k = N := by omega
      go_wp2
      go_ret
      exact ⟨_, rfl, HR.out, HB.out⟩

end Go.Proofs.YtimdinmhphihkaaGreatDoor

namespace Go.Proofs.YtimdinmhphihkaaGreatDoor
open Go Go.Proofs Go.RowKit Go.Shelf Nu

attribute [local go_sem] Oper.semAt_some

theorem isNum_all {s : ByteArray} (h : isNum s) : allDig s := ⟨h.1, by rcases h.2 with h | h <;> omega⟩

end Go.Proofs.YtimdinmhphihkaaGreatDoor

namespace Go.Proofs.YtimdinmhphihkaaGreatDoor
open Go Go.Proofs Go.RowKit Go.Shelf Nu

attribute [local go_sem] Oper.semAt_some

def DIGS : ByteArray := ⟨#[48, 49, 50, 51, 52, 53, 54, 55, 56, 57]⟩
theorem digs_at : ∀ r, r < 10 → (DIGS.extract r (r + 1)).data.toList = [UInt8.ofNat (48 + r)] := by
  intro r hr
  match r, hr with
  | 0, _ => decide
  | 1, _ => decide
  | 2, _ => decide
  | 3, _ => decide
  | 4, _ => decide
  | 5, _ => decide
  | 6, _ => decide
  | 7, _ => decide
  | 8, _ => decide
  | 9, _ => decide
theorem size_of (d : ByteArray) : d.size = d.data.toList.length := by rw [Array.length_toList]; rfl
theorem no_bytes (d : ByteArray) (h : d.size = 0) : d = ⟨#[]⟩ := by
  rcases d with ⟨⟨l⟩⟩
  cases l with
  | nil => rfl
  | cons a l => simp [ByteArray.size] at h
theorem some_bytes (d : ByteArray) (h : 0 < d.size) : (d.toList == ([] : List UInt8)) = false ∧ d.toList.isEmpty = false ∧ (¬ d.toList = []) ∧ ¬ d = ⟨#[]⟩ := by
  rcases d with ⟨⟨l⟩⟩
  cases l with
  | nil => simp [ByteArray.size] at h
  | cons a l => refine ⟨by rw [Lib.toList_data]; rfl, by rw [Lib.toList_data]; rfl, by rw [Lib.toList_data]; simp, by simp⟩

/-- the digits that are still to come -/
def restD (lk : List Nat) (X : Nat) : List Nat := if X = 0 ∧ lk ≠ [] then [] else low X
structure TW (V : Nat) (s : ByteArray) (lk : List Nat) (X : Nat) : Prop where
  num : low V = lk ++ restD lk X
  tx : s.data.toList = lk.reverse.map UInt8.ofNat
theorem TW.start (V : Nat) : TW V ⟨#[]⟩ [] V := ⟨by simp [restD], rfl⟩
theorem TW.size {V X : Nat} {s : ByteArray} {lk : List Nat} (h : TW V s lk X) : s.size = lk.length := by rw [size_of, h.tx]; simp
theorem TW.le {V X : Nat} {s : ByteArray} {lk : List Nat} (h : TW V s lk X) : s.size ≤ (low V).length := by rw [h.size, h.num]; simp
theorem TW.nil {V X : Nat} {s : ByteArray} {lk : List Nat} (h : TW V s lk X) : s.size = 0 ↔ lk = [] := by rw [h.size]; exact List.length_eq_zero_iff
theorem TW.step {V X d : Nat} {s : ByteArray} {lk : List Nat} (h : TW V s lk X) (hne : ¬ (X = 0 ∧ lk ≠ [])) (hd : d = X % 10) : TW V (DIGS.extract d (d + 1) ++ s) (lk ++ [48 + d]) (X / 10) := by
  have hd10 : d < 10 := by omega
  refine ⟨?_, ?_⟩
  · have e := h.num
    unfold restD at e ⊢
    rw [if_neg hne] at e
    rw [e]
    conv => lhs; rw [low]
    rw [hd]
    by_cases h0 : X / 10 = 0
    · simp [h0]
    · simp [h0]
  · rw [ByteArray.data_append, Array.toList_append, digs_at d hd10, h.tx]
    simp
theorem TW.done {V : Nat} {s : ByteArray} {lk : List Nat} (h : TW V s lk 0) (hl : lk ≠ []) : s = txt V := by
  have e := h.num
  unfold restD at e
  rw [if_pos ⟨rfl, hl⟩, List.append_nil] at e
  have e2 := h.tx
  unfold txt
  rw [e, ← e2]
theorem TW.cast {V X Y : Nat} {s : ByteArray} {lk : List Nat} (h : TW V s lk X) (e : X = Y) : TW V s lk Y := e ▸ h

theorem dig_low {A2 r g gg d i : Nat} (_h9 : i + g = 9) (hg : g = gg + 1) (hd : d = r % 10) : d = (A2 * 10 ^ g + r) % 10 := by
  rw [hd, hg, Nat.pow_succ, ← Nat.mul_assoc, Nat.mul_comm _ 10, Nat.mul_add_mod]
theorem dig_next {i g gg : Nat} (_h9 : i + g = 9) (hg : g = gg + 1) (r A2 : Nat) : (A2 * 10 ^ g + r) / 10 = A2 * 10 ^ gg + r / 10 := by
  rw [hg, Nat.pow_succ, ← Nat.mul_assoc, Nat.mul_comm _ 10, Nat.mul_add_div (by decide)]
theorem dig_pow {g r : Nat} (h : r < 10 ^ (g + 1)) : r / 10 < 10 ^ g := by rw [Nat.pow_succ] at h; omega

set_option maxRecDepth 100000 in
set_option maxHeartbeats 8000000 in
theorem rtext_chk {w : World} {V : Nat} {a1 : Option Addr} {n1 c1 : Nat} (h : Reads w (.slice a1 n1 c1) (digs V)) (hn1 : n1 = (digs V).length) (hl : (digs V).length ≤ 100000) {va : Value}
    (kf : Calls Tryz.prog 146 #[va] w fun e w' => e = .returned (.slice a1 n1 c1) ∧ w' = w) (hv : ∃ a n c, va = .slice a n c) :
    Calls Tryz.prog 69 #[va] w fun e w' => e = .returned (.string (txt V)) ∧ Below w.heap.size w w' := by
  obtain ⟨b1, m1, d1, rfl⟩ := hv
  have HBV : Hid ((low (val (digs V))).length ≤ 2000000) := Lib.hid (by have := low_len_val (sm_digs V); omega)
  have H := Lib.hid h
  have HN1 := Lib.hid hn1
  clear h hn1
  go_enter Tryz.func69, Tryz.ntmps69
  go_wp2_with (go_at_call 146; refine kf.mono ?_; clear kf; rintro e w' ⟨rfl, hw⟩; subst w')
  go_loopg [0, 3] (V + 1) (fun g va vs wr => ∃ (a1 : Option Addr) (n c1 A : Nat) (t : ByteArray) (lk : List Nat), va = .slice a1 n c1 ∧ vs = .string t ∧ Hid (Reads wr (.slice a1 n c1) (digs A)) ∧ Hid (n = (digs A).length ∧ A ≤ V ∧ TW (val (digs V)) t lk A ∧ (lk = [] → A < g) ∧ (lk ≠ [] → A ≤ g)) ∧ Hid (Below w.heap.size w wr))
  case atStart => exact ⟨_, _, _, V, ⟨#[]⟩, [], rfl, rfl, H, Lib.hid ⟨HN1.out, Nat.le_refl _, (TW.start _).cast (val_digs V), fun _ => by omega, fun h => absurd rfl h⟩, Lib.hid (Below.refl _ _)⟩
  case round =>
    obtain ⟨a1, n, c1, A, s, lk, rfl, rfl, HR, HI, HB⟩ := hrel
    have hAV : A ≤ V := HI.out.2.1
    have HT : Hid (TW (val (digs V)) s lk A) := Lib.hid HI.out.2.2.1
    have hlA : (digs A).length ≤ 100000 := Nat.le_trans (digs_mono hAV) hl
    have hks := rsmall_any (t := 1000000000) HR.out hlA (sm_digs A) (by decide) (by decide)
    rw [val_digs] at hks
    obtain ⟨A2, hA2⟩ : ∃ A2, A2 = A / 1000000000 := ⟨_, rfl⟩
    obtain ⟨r0, hr0⟩ : ∃ r0, r0 = A % 1000000000 := ⟨_, rfl⟩
    rw [← hA2, ← hr0, show ((1000000000 : Nat) : Int) = 1000000000 by rfl] at hks
    obtain ⟨n2, hn2⟩ : ∃ n2, n2 = (digs A2).length := ⟨_, rfl⟩
    have HP2 : Hid ((0 < n2 → 0 < A2) ∧ (¬ 0 < n2 → A2 = 0)) := Lib.hid (by
      rcases Nat.eq_zero_or_pos A2 with e | e
      · rw [hn2, e, digs_zero]; simp
      · have := digs_len_pos (n := A2) (by omega); exact ⟨fun _ => e, fun h => by omega⟩)
    have HP : Hid ((0 < n → 0 < A) ∧ (¬ 0 < n → A = 0)) := Lib.hid (by
      have h1 := HI.out.1
      rcases Nat.eq_zero_or_pos A with e | e
      · rw [h1, e, digs_zero]; simp
      · have := digs_len_pos (n := A) (by omega); exact ⟨fun _ => e, fun h => by omega⟩)
    have KS := Lib.hid hks
    have HN2 := Lib.hid hn2
    have HR0 : Hid (r0 < 1000000000) := Lib.hid (by omega)
    have HA2 : Hid (A = A2 * 10 ^ 9 + r0) := Lib.hid (by omega)
    have HL2 : Hid (A2 ≤ V) := Lib.hid (by omega)
    have HD2 : Hid (0 < A → A2 < A) := Lib.hid (fun _ => by omega)
    have HD3 : Hid (A2 ≤ A) := Lib.hid (by omega)
    clear hks hA2 hr0 hn2 hAV hlA
    by_cases hn : 0 < n
    · have g1 : decide ((0 : Int) < (n : Int)) = true := by simp; omega
      have g2 : decide (0 < n) = true := by simp; omega
      have HME : Hid (A2 < gk) := Lib.hid (by
        have h1 := HP.out.1 hn
        have h2 := HD2.out h1
        by_cases e : lk = []
        · have := HI.out.2.2.2.1 e; omega
        · have := HI.out.2.2.2.2 e; omega)
      go_wp2_with (go_at_call 148; go_loud (refine KS.out.mono ?_); rintro e w2 ⟨vq, rfl, rq, bq⟩; obtain ⟨a2, c2, eq⟩ := rq.form; rw [← HN2.out] at eq; subst eq; have RQ := Lib.hid rq; have BQ := Lib.hid (then_below HB.out bq); clear rq bq)
      go_loopg [3, 5, 6] 9 (fun g vs vr vi wx => ∃ (i r : Nat) (t : ByteArray) (lk : List Nat), vs = .string t ∧ vr = .int .u32 (r : Int) ∧ vi = .int .i64 (i : Int) ∧ i + g = 9 ∧ r ≤ 999999999 ∧ Hid (r < 10 ^ g ∧ (0 < i → lk ≠ []) ∧ TW (val (digs V)) t lk (A2 * 10 ^ g + r)) ∧ wx = w2)
      case atStart => exact ⟨0, r0, s, lk, rfl, rfl, rfl, by omega, by have := HR0.out; omega, Lib.hid ⟨by have := HR0.out; omega, fun h => by omega, HT.out.cast HA2.out⟩, rfl⟩
      case round =>
        obtain ⟨i, r, s, lk, rfl, rfl, rfl, hi, hr9, HW, hwx⟩ := hrel
        subst wr
        by_cases hi9 : i < 9
        · obtain ⟨gg, hgg⟩ : ∃ gg, gk = gg + 1 := ⟨8 - i, by omega⟩
          have HG9 := Lib.hid hi
          have g1 : decide ((i : Int) < 9) = true := by simp; omega
          have g2 : decide (i < 9) = true := by simp; omega
          by_cases hn2 : 0 < n2
          · have g3 : decide ((0 : Int) < (n2 : Int)) = true := by simp; omega
            have g4 : decide (0 < n2) = true := by simp; omega
            have hA2 : 0 < A2 := HP2.out.1 hn2
            have hgo : ¬ (A2 * 10 ^ gk + r = 0 ∧ lk ≠ []) := fun h => by have := Nat.mul_pos hA2 (Nat.pow_pos (n := gk) (show 0 < 10 by decide)); omega
            obtain ⟨d, hd⟩ : ∃ d, d = r % 10 := ⟨_, rfl⟩
            have hd10 : d < 10 := by omega
            have hm1 : (r : Int) % 10 = (d : Int) := by rw [hd]; simp
            obtain ⟨s', hs'⟩ : ∃ s', s' = DIGS.extract d (d + 1) ++ s := ⟨_, rfl⟩
            have hstep := HW.out.2.2.step hgo (d := d) (dig_low HG9.out hgg hd)
            have hx := dig_next HG9.out hgg r A2
            rw [← hs', hx] at hstep
            have hadd : ∀ W, (Op.stringOp .add (DIGS.extract d (d + 1)) s).run Tryz.prog W = .ok (.string s') W := fun W => by
              rw [hs']; exact run_string_add_sum W _ _ (by rw [size_of, digs_at d hd10]; have := HW.out.2.2.le; have := HBV.out; simp only [List.length_singleton]; omega)
            have r0 : (0 : Int) ≤ (d : Int) := by omega
            have r1 : (d : Int) ≤ (d : Int) + 1 := by omega
            have r2 : (d : Int) + 1 ≤ 10 := by omega
            have r3 : ((d : Int) + 1).toNat = d + 1 := by omega
            have hpw := dig_pow (g := gg) (r := r) (by have h := HW.out.1; rw [hgg] at h; exact h)
            have REL : ∃ (i' r' : Nat) (t : ByteArray) (lk : List Nat), Value.string s' = .string t ∧ Value.int .u32 ((r / 10 : Nat) : Int) = .int .u32 (r' : Int) ∧ Value.int .i64 ((i : Int) + 1) = .int .i64 (i' : Int) ∧ i' + gg = 9 ∧ r' ≤ 999999999 ∧ Hid (r' < 10 ^ gg ∧ (0 < i' → lk ≠ []) ∧ TW (val (digs V)) t lk (A2 * 10 ^ gg + r')) ∧ w2 = w2 :=
              ⟨i + 1, r / 10, s', _, rfl, rfl, by simp, by omega, by omega, Lib.hid ⟨hpw, fun _ => by simp, hstep⟩, rfl⟩
            have REL' := Lib.hid REL
            unfold DIGS at hadd
            clear hs' hstep hx hpw hd REL hgo
            go_wp2_with fail
            go_roundg gg
            case measure => omega
            case rel => have h := REL'.out; simpa using h
          · have g3 : decide ((0 : Int) < (n2 : Int)) = false := by simp; omega
            have g4 : decide (0 < n2) = false := by simp; omega
            have hA0 : A2 = 0 := HP2.out.2 hn2
            by_cases hr0 : 0 < r
            · have g5 : decide ((0 : Int) < (r : Int)) = true := by simp; omega
              have g6 : decide (0 < r) = true := by simp; omega
              have hgo : ¬ (A2 * 10 ^ gk + r = 0 ∧ lk ≠ []) := fun h => by omega
              obtain ⟨d, hd⟩ : ∃ d, d = r % 10 := ⟨_, rfl⟩
              have hd10 : d < 10 := by omega
              have hm1 : (r : Int) % 10 = (d : Int) := by rw [hd]; simp
              obtain ⟨s', hs'⟩ : ∃ s', s' = DIGS.extract d (d + 1) ++ s := ⟨_, rfl⟩
              have hstep := HW.out.2.2.step hgo (d := d) (dig_low HG9.out hgg hd)
              have hx := dig_next HG9.out hgg r A2
              rw [← hs', hx] at hstep
              have hadd : ∀ W, (Op.stringOp .add (DIGS.extract d (d + 1)) s).run Tryz.prog W = .ok (.string s') W := fun W => by
                rw [hs']; exact run_string_add_sum W _ _ (by rw [size_of, digs_at d hd10]; have := HW.out.2.2.le; have := HBV.out; simp only [List.length_singleton]; omega)
              have r0 : (0 : Int) ≤ (d : Int) := by omega
              have r1 : (d : Int) ≤ (d : Int) + 1 := by omega
              have r2 : (d : Int) + 1 ≤ 10 := by omega
              have r3 : ((d : Int) + 1).toNat = d + 1 := by omega
              have hpw := dig_pow (g := gg) (r := r) (by have h := HW.out.1; rw [hgg] at h; exact h)
              have REL : ∃ (i' r' : Nat) (t : ByteArray) (lk : List Nat), Value.string s' = .string t ∧ Value.int .u32 ((r / 10 : Nat) : Int) = .int .u32 (r' : Int) ∧ Value.int .i64 ((i : Int) + 1) = .int .i64 (i' : Int) ∧ i' + gg = 9 ∧ r' ≤ 999999999 ∧ Hid (r' < 10 ^ gg ∧ (0 < i' → lk ≠ []) ∧ TW (val (digs V)) t lk (A2 * 10 ^ gg + r')) ∧ w2 = w2 :=
                ⟨i + 1, r / 10, s', _, rfl, rfl, by simp, by omega, by omega, Lib.hid ⟨hpw, fun _ => by simp, hstep⟩, rfl⟩
              have REL' := Lib.hid REL
              unfold DIGS at hadd
              clear hs' hstep hx hpw hd REL hgo
              go_wp2_with fail
              go_roundg gg
              case measure => omega
              case rel => have h := REL'.out; simpa using h
            · have g5 : decide ((0 : Int) < (r : Int)) = false := by simp; omega
              have g6 : decide (0 < r) = false := by simp; omega
              by_cases hs0 : s.size = 0
              · have hgo : ¬ (A2 * 10 ^ gk + r = 0 ∧ lk ≠ []) := fun h => h.2 (HW.out.2.2.nil.1 hs0)
                obtain rfl := no_bytes s hs0
                obtain ⟨d, hd⟩ : ∃ d, d = r % 10 := ⟨_, rfl⟩
                have hd10 : d < 10 := by omega
                have hm1 : (r : Int) % 10 = (d : Int) := by rw [hd]; simp
                obtain ⟨s', hs'⟩ : ∃ s', s' = DIGS.extract d (d + 1) ++ ⟨#[]⟩ := ⟨_, rfl⟩
                have hstep := HW.out.2.2.step hgo (d := d) (dig_low HG9.out hgg hd)
                have hx := dig_next HG9.out hgg r A2
                rw [← hs', hx] at hstep
                have hadd : ∀ W, (Op.stringOp .add (DIGS.extract d (d + 1)) ⟨#[]⟩).run Tryz.prog W = .ok (.string s') W := fun W => by
                  rw [hs']; exact run_string_add_sum W _ _ (by rw [size_of, digs_at d hd10]; have := HW.out.2.2.le; have := HBV.out; simp only [List.length_singleton]; omega)
                have r0 : (0 : Int) ≤ (d : Int) := by omega
                have r1 : (d : Int) ≤ (d : Int) + 1 := by omega
                have r2 : (d : Int) + 1 ≤ 10 := by omega
                have r3 : ((d : Int) + 1).toNat = d + 1 := by omega
                have hpw := dig_pow (g := gg) (r := r) (by have h := HW.out.1; rw [hgg] at h; exact h)
                have REL : ∃ (i' r' : Nat) (t : ByteArray) (lk : List Nat), Value.string s' = .string t ∧ Value.int .u32 ((r / 10 : Nat) : Int) = .int .u32 (r' : Int) ∧ Value.int .i64 ((i : Int) + 1) = .int .i64 (i' : Int) ∧ i' + gg = 9 ∧ r' ≤ 999999999 ∧ Hid (r' < 10 ^ gg ∧ (0 < i' → lk ≠ []) ∧ TW (val (digs V)) t lk (A2 * 10 ^ gg + r')) ∧ w2 = w2 :=
                  ⟨i + 1, r / 10, s', _, rfl, rfl, by simp, by omega, by omega, Lib.hid ⟨hpw, fun _ => by simp, hstep⟩, rfl⟩
                have REL' := Lib.hid REL
                unfold DIGS at hadd
                clear hs' hstep hx hpw hd REL hgo
                go_wp2_with fail
                go_roundg gg
                case measure => omega
                case rel => have h := REL'.out; simpa using h
              · obtain ⟨f1, f2, f3, f4⟩ := some_bytes s (by omega)
                have hlk : lk ≠ [] := fun e => hs0 (HW.out.2.2.nil.2 e)
                have REL : ∃ (a1 : Option Addr) (n c1 A : Nat) (t : ByteArray) (lk : List Nat), Value.slice a2 n2 c2 = .slice a1 n c1 ∧ Value.string s = .string t ∧ Hid (Reads w2 (.slice a1 n c1) (digs A)) ∧ Hid (n = (digs A).length ∧ A ≤ V ∧ TW (val (digs V)) t lk A ∧ (lk = [] → A < A2) ∧ (lk ≠ [] → A ≤ A2)) ∧ Hid (Below w.heap.size w w2) := ⟨_, _, _, A2, s, lk, rfl, rfl, RQ, Lib.hid ⟨HN2.out, HL2.out, HW.out.2.2.cast (by rw [hA0, Nat.zero_mul]; omega), fun e => absurd e hlk, fun _ => Nat.le_refl _⟩, BQ⟩
                have REL' := Lib.hid REL
                clear REL
                go_wp2_with fail
                go_roundg A2
                case measure => exact HME.out
                case rel => exact REL'.out
        · have g1 : decide ((i : Int) < 9) = false := by simp; omega
          have g2 : decide (i < 9) = false := by simp; omega
          have hg0 : gk = 0 := by omega
          have hr0 : r < 10 ^ gk := HW.out.1
          rw [hg0] at hr0
          have hlk : lk ≠ [] := HW.out.2.1 (by omega)
          have REL : ∃ (a1 : Option Addr) (n c1 A : Nat) (t : ByteArray) (lk : List Nat), Value.slice a2 n2 c2 = .slice a1 n c1 ∧ Value.string s = .string t ∧ Hid (Reads w2 (.slice a1 n c1) (digs A)) ∧ Hid (n = (digs A).length ∧ A ≤ V ∧ TW (val (digs V)) t lk A ∧ (lk = [] → A < A2) ∧ (lk ≠ [] → A ≤ A2)) ∧ Hid (Below w.heap.size w w2) := ⟨_, _, _, A2, s, lk, rfl, rfl, RQ, Lib.hid ⟨HN2.out, HL2.out, HW.out.2.2.cast (by rw [hg0]; omega), fun e => absurd e hlk, fun _ => Nat.le_refl _⟩, BQ⟩
          have REL' := Lib.hid REL
          clear REL
          go_wp2_with fail
          go_roundg A2
          case measure => exact HME.out
          case rel => exact REL'.out
    · have g1 : decide ((0 : Int) < (n : Int)) = false := by simp; omega
      have g2 : decide (0 < n) = false := by simp; omega
      have hA0 := HP.out.2 hn
      by_cases hs0 : s.size = 0
      · have hlk := HT.out.nil.1 hs0
        have HME : Hid (A2 < gk) := Lib.hid (by have := HI.out.2.2.2.1 hlk; have := HD3.out; omega)
        obtain rfl := no_bytes s hs0
        go_wp2_with (go_at_call 148; go_loud (refine KS.out.mono ?_); rintro e w2 ⟨vq, rfl, rq, bq⟩; obtain ⟨a2, c2, eq⟩ := rq.form; rw [← HN2.out] at eq; subst eq; have RQ := Lib.hid rq; have BQ := Lib.hid (then_below HB.out bq); clear rq bq)
        go_loopg [3, 5, 6] 9 (fun g vs vr vi wx => ∃ (i r : Nat) (t : ByteArray) (lk : List Nat), vs = .string t ∧ vr = .int .u32 (r : Int) ∧ vi = .int .i64 (i : Int) ∧ i + g = 9 ∧ r ≤ 999999999 ∧ Hid (r < 10 ^ g ∧ (0 < i → lk ≠ []) ∧ TW (val (digs V)) t lk (A2 * 10 ^ g + r)) ∧ wx = w2)
        case atStart => exact ⟨0, r0, ⟨#[]⟩, lk, rfl, rfl, rfl, by omega, by have := HR0.out; omega, Lib.hid ⟨by have := HR0.out; omega, fun h => by omega, HT.out.cast HA2.out⟩, rfl⟩
        case round =>
          obtain ⟨i, r, s, lk, rfl, rfl, rfl, hi, hr9, HW, hwx⟩ := hrel
          subst wr
          by_cases hi9 : i < 9
          · obtain ⟨gg, hgg⟩ : ∃ gg, gk = gg + 1 := ⟨8 - i, by omega⟩
            have HG9 := Lib.hid hi
            have g1 : decide ((i : Int) < 9) = true := by simp; omega
            have g2 : decide (i < 9) = true := by simp; omega
            by_cases hn2 : 0 < n2
            · have g3 : decide ((0 : Int) < (n2 : Int)) = true := by simp; omega
              have g4 : decide (0 < n2) = true := by simp; omega
              have hA2 : 0 < A2 := HP2.out.1 hn2
              have hgo : ¬ (A2 * 10 ^ gk + r = 0 ∧ lk ≠ []) := fun h => by have := Nat.mul_pos hA2 (Nat.pow_pos (n := gk) (show 0 < 10 by decide)); omega
              obtain ⟨d, hd⟩ : ∃ d, d = r % 10 := ⟨_, rfl⟩
              have hd10 : d < 10 := by omega
              have hm1 : (r : Int) % 10 = (d : Int) := by rw [hd]; simp
              obtain ⟨s', hs'⟩ : ∃ s', s' = DIGS.extract d (d + 1) ++ s := ⟨_, rfl⟩
              have hstep := HW.out.2.2.step hgo (d := d) (dig_low HG9.out hgg hd)
              have hx := dig_next HG9.out hgg r A2
              rw [← hs', hx] at hstep
              have hadd : ∀ W, (Op.stringOp .add (DIGS.extract d (d + 1)) s).run Tryz.prog W = .ok (.string s') W := fun W => by
                rw [hs']; exact run_string_add_sum W _ _ (by rw [size_of, digs_at d hd10]; have := HW.out.2.2.le; have := HBV.out; simp only [List.length_singleton]; omega)
              have r0 : (0 : Int) ≤ (d : Int) := by omega
              have r1 : (d : Int) ≤ (d : Int) + 1 := by omega
              have r2 : (d : Int) + 1 ≤ 10 := by omega
              have r3 : ((d : Int) + 1).toNat = d + 1 := by omega
              have hpw := dig_pow (g := gg) (r := r) (by have h := HW.out.1; rw [hgg] at h; exact h)
              have REL : ∃ (i' r' : Nat) (t : ByteArray) (lk : List Nat), Value.string s' = .string t ∧ Value.int .u32 ((r / 10 : Nat) : Int) = .int .u32 (r' : Int) ∧ Value.int .i64 ((i : Int) + 1) = .int .i64 (i' : Int) ∧ i' + gg = 9 ∧ r' ≤ 999999999 ∧ Hid (r' < 10 ^ gg ∧ (0 < i' → lk ≠ []) ∧ TW (val (digs V)) t lk (A2 * 10 ^ gg + r')) ∧ w2 = w2 :=
                ⟨i + 1, r / 10, s', _, rfl, rfl, by simp, by omega, by omega, Lib.hid ⟨hpw, fun _ => by simp, hstep⟩, rfl⟩
              have REL' := Lib.hid REL
              unfold DIGS at hadd
              clear hs' hstep hx hpw hd REL hgo
              go_wp2_with fail
              go_roundg gg
              case measure => omega
              case rel => have h := REL'.out; simpa using h
            · have g3 : decide ((0 : Int) < (n2 : Int)) = false := by simp; omega
              have g4 : decide (0 < n2) = false := by simp; omega
              have hA0 : A2 = 0 := HP2.out.2 hn2
              by_cases hr0 : 0 < r
              · have g5 : decide ((0 : Int) < (r : Int)) = true := by simp; omega
                have g6 : decide (0 < r) = true := by simp; omega
                have hgo : ¬ (A2 * 10 ^ gk + r = 0 ∧ lk ≠ []) := fun h => by omega
                obtain ⟨d, hd⟩ : ∃ d, d = r % 10 := ⟨_, rfl⟩
                have hd10 : d < 10 := by omega
                have hm1 : (r : Int) % 10 = (d : Int) := by rw [hd]; simp
                obtain ⟨s', hs'⟩ : ∃ s', s' = DIGS.extract d (d + 1) ++ s := ⟨_, rfl⟩
                have hstep := HW.out.2.2.step hgo (d := d) (dig_low HG9.out hgg hd)
                have hx := dig_next HG9.out hgg r A2
                rw [← hs', hx] at hstep
                have hadd : ∀ W, (Op.stringOp .add (DIGS.extract d (d + 1)) s).run Tryz.prog W = .ok (.string s') W := fun W => by
                  rw [hs']; exact run_string_add_sum W _ _ (by rw [size_of, digs_at d hd10]; have := HW.out.2.2.le; have := HBV.out; simp only [List.length_singleton]; omega)
                have r0 : (0 : Int) ≤ (d : Int) := by omega
                have r1 : (d : Int) ≤ (d : Int) + 1 := by omega
                have r2 : (d : Int) + 1 ≤ 10 := by omega
                have r3 : ((d : Int) + 1).toNat = d + 1 := by omega
                have hpw := dig_pow (g := gg) (r := r) (by have h := HW.out.1; rw [hgg] at h; exact h)
                have REL : ∃ (i' r' : Nat) (t : ByteArray) (lk : List Nat), Value.string s' = .string t ∧ Value.int .u32 ((r / 10 : Nat) : Int) = .int .u32 (r' : Int) ∧ Value.int .i64 ((i : Int) + 1) = .int .i64 (i' : Int) ∧ i' + gg = 9 ∧ r' ≤ 999999999 ∧ Hid (r' < 10 ^ gg ∧ (0 < i' → lk ≠ []) ∧ TW (val (digs V)) t lk (A2 * 10 ^ gg + r')) ∧ w2 = w2 :=
                  ⟨i + 1, r / 10, s', _, rfl, rfl, by simp, by omega, by omega, Lib.hid ⟨hpw, fun _ => by simp, hstep⟩, rfl⟩
                have REL' := Lib.hid REL
                unfold DIGS at hadd
                clear hs' hstep hx hpw hd REL hgo
                go_wp2_with fail
                go_roundg gg
                case measure => omega
                case rel => have h := REL'.out; simpa using h
              · have g5 : decide ((0 : Int) < (r : Int)) = false := by simp; omega
                have g6 : decide (0 < r) = false := by simp; omega
                by_cases hs0 : s.size = 0
                · have hgo : ¬ (A2 * 10 ^ gk + r = 0 ∧ lk ≠ []) := fun h => h.2 (HW.out.2.2.nil.1 hs0)
                  obtain rfl := no_bytes s hs0
                  obtain ⟨d, hd⟩ : ∃ d, d = r % 10 := ⟨_, rfl⟩
                  have hd10 : d < 10 := by omega
                  have hm1 : (r : Int) % 10 = (d : Int) := by rw [hd]; simp
                  obtain ⟨s', hs'⟩ : ∃ s', s' = DIGS.extract d (d + 1) ++ ⟨#[]⟩ := ⟨_, rfl⟩
                  have hstep := HW.out.2.2.step hgo (d := d) (dig_low HG9.out hgg hd)
                  have hx := dig_next HG9.out hgg r A2
                  rw [← hs', hx] at hstep
                  have hadd : ∀ W, (Op.stringOp .add (DIGS.extract d (d + 1)) ⟨#[]⟩).run Tryz.prog W = .ok (.string s') W := fun W => by
                    rw [hs']; exact run_string_add_sum W _ _ (by rw [size_of, digs_at d hd10]; have := HW.out.2.2.le; have := HBV.out; simp only [List.length_singleton]; omega)
                  have r0 : (0 : Int) ≤ (d : Int) := by omega
                  have r1 : (d : Int) ≤ (d : Int) + 1 := by omega
                  have r2 : (d : Int) + 1 ≤ 10 := by omega
                  have r3 : ((d : Int) + 1).toNat = d + 1 := by omega
                  have hpw := dig_pow (g := gg) (r := r) (by have h := HW.out.1; rw [hgg] at h; exact h)
                  have REL : ∃ (i' r' : Nat) (t : ByteArray) (lk : List Nat), Value.string s' = .string t ∧ Value.int .u32 ((r / 10 : Nat) : Int) = .int .u32 (r' : Int) ∧ Value.int .i64 ((i : Int) + 1) = .int .i64 (i' : Int) ∧ i' + gg = 9 ∧ r' ≤ 999999999 ∧ Hid (r' < 10 ^ gg ∧ (0 < i' → lk ≠ []) ∧ TW (val (digs V)) t lk (A2 * 10 ^ gg + r')) ∧ w2 = w2 :=
                    ⟨i + 1, r / 10, s', _, rfl, rfl, by simp, by omega, by omega, Lib.hid ⟨hpw, fun _ => by simp, hstep⟩, rfl⟩
                  have REL' := Lib.hid REL
                  unfold DIGS at hadd
                  clear hs' hstep hx hpw hd REL hgo
                  go_wp2_with fail
                  go_roundg gg
                  case measure => omega
                  case rel => have h := REL'.out; simpa using h
                · obtain ⟨f1, f2, f3, f4⟩ := some_bytes s (by omega)
                  have hlk : lk ≠ [] := fun e => hs0 (HW.out.2.2.nil.2 e)
                  have REL : ∃ (a1 : Option Addr) (n c1 A : Nat) (t : ByteArray) (lk : List Nat), Value.slice a2 n2 c2 = .slice a1 n c1 ∧ Value.string s = .string t ∧ Hid (Reads w2 (.slice a1 n c1) (digs A)) ∧ Hid (n = (digs A).length ∧ A ≤ V ∧ TW (val (digs V)) t lk A ∧ (lk = [] → A < A2) ∧ (lk ≠ [] → A ≤ A2)) ∧ Hid (Below w.heap.size w w2) := ⟨_, _, _, A2, s, lk, rfl, rfl, RQ, Lib.hid ⟨HN2.out, HL2.out, HW.out.2.2.cast (by rw [hA0, Nat.zero_mul]; omega), fun e => absurd e hlk, fun _ => Nat.le_refl _⟩, BQ⟩
                  have REL' := Lib.hid REL
                  clear REL
                  go_wp2_with fail
                  go_roundg A2
                  case measure => exact HME.out
                  case rel => exact REL'.out
          · have g1 : decide ((i : Int) < 9) = false := by simp; omega
            have g2 : decide (i < 9) = false := by simp; omega
            have hg0 : gk = 0 := by omega
            have hr0 : r < 10 ^ gk := HW.out.1
            rw [hg0] at hr0
            have hlk : lk ≠ [] := HW.out.2.1 (by omega)
            have REL : ∃ (a1 : Option Addr) (n c1 A : Nat) (t : ByteArray) (lk : List Nat), Value.slice a2 n2 c2 = .slice a1 n c1 ∧ Value.string s = .string t ∧ Hid (Reads w2 (.slice a1 n c1) (digs A)) ∧ Hid (n = (digs A).length ∧ A ≤ V ∧ TW (val (digs V)) t lk A ∧ (lk = [] → A < A2) ∧ (lk ≠ [] → A ≤ A2)) ∧ Hid (Below w.heap.size w w2) := ⟨_, _, _, A2, s, lk, rfl, rfl, RQ, Lib.hid ⟨HN2.out, HL2.out, HW.out.2.2.cast (by rw [hg0]; omega), fun e => absurd e hlk, fun _ => Nat.le_refl _⟩, BQ⟩
            have REL' := Lib.hid REL
            clear REL
            go_wp2_with fail
            go_roundg A2
            case measure => exact HME.out
            case rel => exact REL'.out
      · obtain ⟨f1, f2, f3, f4⟩ := some_bytes s (by omega)
        have hdn := (HT.out.cast hA0).done (fun e => hs0 (HT.out.nil.2 e))
        rw [val_digs] at hdn
        have HDN := Lib.hid hdn
        clear hdn
        go_wp2
        go_ret
        rw [← HDN.out]
        exact ⟨by rfl, HB.out⟩

theorem rtext_any {w : World} {v : Value} {L : List Nat} (h : Reads w v L) (hs : Sm L) (hL : L.length ≤ 100000) :
    Calls Tryz.prog 69 #[v] w fun e w' => e = .returned (.string (txt (nv L))) ∧ Below w.heap.size w w' := by
  have kf := rfit_any h (by omega)
  have hf := h.form
  cases hc : chk L with
  | true =>
    have e1 : orzV v L = v := by simp [orzV, hc]
    have e2 : digs (nv L) = L := by rw [nv_chk hc]; exact digs_val hs hc
    rw [e1] at kf
    obtain ⟨a, c, rfl⟩ := hf
    exact rtext_chk (V := nv L) (a1 := a) (n1 := L.length) (c1 := c) (by rw [e2]; exact h) (by rw [e2]) (by rw [e2]; exact hL) kf ⟨_, _, _, rfl⟩
  | false =>
    have e1 : orzV v L = .slice none 0 0 := by simp [orzV, hc]
    have e2 : nv L = 0 := by simp [nv, hc]
    rw [e1] at kf
    obtain ⟨a, c, rfl⟩ := hf
    rw [e2]
    exact rtext_chk (V := 0) (a1 := none) (n1 := 0) (c1 := 0) (by rw [digs_zero]; exact Reads.nil _) (by rw [digs_zero]; rfl) (by rw [digs_zero]; simp) kf ⟨_, _, _, rfl⟩

end Go.Proofs.YtimdinmhphihkaaGreatDoor

namespace Go.Proofs.YtimdinmhphihkaaGreatDoor
open Go Go.Proofs Go.RowKit Go.Shelf Nu

attribute [local go_sem] Oper.semAt_some

end Go.Proofs.YtimdinmhphihkaaGreatDoor

namespace Go.Proofs.YtimdinmhphihkaaGreatDoor
open Go Go.Proofs Go.RowKit Go.Shelf Nu

attribute [local go_sem] Oper.semAt_some

set_option maxHeartbeats 4000000 in
theorem ritext_any {w : World} {v1 : Value} {n1 m1 : Bool} {p1 : Option Addr} {q1 A : Nat} (f1 : ∃ a n c, v1 = .slice a n c) (r0 : Reads w (.slice p1 (digs A).length q1) (digs A)) (la : (digs A).length ≤ 100000)
    (ko1 : ∀ W, Below w.heap.size w W → Calls Tryz.prog 158 #[.agg #[.bool n1, v1]] W fun e w' => e = .returned (.agg #[.bool m1, .slice p1 (digs A).length q1]) ∧ Below W.heap.size W w') :
    Calls Tryz.prog 68 #[.agg #[.bool n1, v1]] w fun e w' => e = .returned (.string (if m1 then ⟨#[45]⟩ ++ txt A else txt A)) ∧ Below w.heap.size w w' := by
  obtain ⟨s1, t1, c1, rfl⟩ := f1
  obtain ⟨T, hT⟩ : ∃ T, T = txt A := ⟨_, rfl⟩
  have hsz : T.size ≤ 2000000 := by
    rw [hT, txt_size]
    have := low_len_val (sm_digs A)
    rw [val_digs] at this
    omega
  have kt := fun (W : World) (hW : Below w.heap.size w W) => rtext_any (r0.below hW) (sm_digs A) la
  rw [nv_digs, ← hT] at kt
  rw [← hT]
  obtain ⟨T2, hT2⟩ : ∃ T2, T2 = ⟨#[45]⟩ ++ T := ⟨_, rfl⟩
  have hadd : ∀ W, (Op.stringOp .add ⟨#[45]⟩ T).run Tryz.prog W = .ok (.string T2) W := fun W => by
    rw [hT2]; exact run_string_add_sum W _ _ (by show 1 + T.size ≤ _; omega)
  rw [← hT2]
  have KT := Lib.hid kt
  have KO1 := Lib.hid ko1
  clear r0 la ko1 hT hT2 kt hsz
  obtain ⟨u0, hu0⟩ : ∃ u0, u0 = w.alloc (.cells #[.bool n1, .slice s1 t1 c1] 25) := ⟨_, rfl⟩
  have X1 := Lib.hid (show Box2 u0 w.heap.size 25 (.bool n1) (.slice s1 t1 c1) by rw [hu0]; exact Box2.new w _ _ _)
  have hb := Lib.hid (show Below w.heap.size w u0 by rw [hu0]; exact (Below.refl _ _).alloc (Nat.le_refl _) _)
  obtain ⟨B1, hB1⟩ : ∃ b, b = w.heap.size := ⟨_, rfl⟩
  have e1 := Lib.hid (show w.heap.size ≤ B1 by omega)
  rw [← hB1] at X1
  have hu0' := Lib.hid hu0
  have hB1' := Lib.hid hB1
  clear hu0 hB1
  go_enter Tryz.func68, Tryz.ntmps68
  go_wp2_with fail
  rw [← hu0'.out, ← hB1'.out]
  clear hu0' hB1'
  go_at_call 158
  refine (KO1.out _ hb.out).mono ?_
  rintro e u1 ⟨rfl, r⟩
  replace X1 := Lib.hid (X1.out.below r)
  replace hb := Lib.hid (then_below hb.out r)
  have a0 := X1.out.c0
  have a1 := X1.out.c1
  have a2 := X1.out.fr 0
  have a3 := X1.out.fr 1
  clear r
  obtain ⟨u2, hu2⟩ : ∃ u2, u2 = (u1.setCell ⟨B1, 0, none⟩ (.bool m1)).setCell ⟨B1, 1, none⟩ (.slice p1 (digs A).length q1) := ⟨_, rfl⟩
  have X2 := Lib.hid (show Box2 u2 B1 25 (.bool m1) (.slice p1 (digs A).length q1) by rw [hu2]; exact (X1.out.set0 _).set1 _)
  have hb2 := Lib.hid (show Below w.heap.size w u2 by rw [hu2]; exact below_sets hb.out e1.out _ _)
  have z0 := X2.out.c0
  have z1 := X2.out.c1
  rw [hu2] at z0 z1 hb2
  clear hu2 X2
  cases m1 <;>
  · skip
    go_wp2_with fail
    go_at_call 69
    refine (KT.out _ hb2.out).mono ?_
    rintro e u3 ⟨rfl, r⟩
    have hb3 := Lib.hid (then_below hb2.out r)
    clear r
    go_wp2_with fail
    go_ret
    exact ⟨by simp, hb3.out⟩
theorem ri_text {w : World} {v1 : Value} {l1 : List Nat} {n1 : Bool} (S : ByteArray) (h1 : Reads w v1 l1) (k1 : l1.length ≤ 50000) (s1 : Sm l1) (hS : S = itxt (zv n1 l1)) :
    Calls Tryz.prog 68 #[.agg #[.bool n1, v1]] w fun e w' => e = .returned (.string S) ∧ Below w.heap.size w w' := by
  obtain ⟨m1, p1, q1, A, e1, f1, r1, z1, t1, y1⟩ := iarg (n := n1) h1 s1
  have ko1 : ∀ W, Below w.heap.size w W → _ := fun W hW => rifit_any (n := n1) (h1.below hW) (by omega)
  rw [e1, f1] at ko1
  rw [y1] at hS
  have e : S = (if m1 then ⟨#[45]⟩ ++ txt A else txt A) := by
    rw [hS]
    cases m1
    · rw [zz_f]; unfold itxt; rw [if_neg (by omega)]; rfl
    · have hA := z1 rfl
      rw [zz_t]; unfold itxt; rw [if_pos (by omega)]
      simp
  rw [e]
  exact ritext_any h1.parts r1 (by omega) ko1

end Go.Proofs.YtimdinmhphihkaaGreatDoor

namespace Go.Proofs.YtimdinmhphihkaaGreatDoor
open Go Go.Proofs Go.RowKit Go.Shelf Nu

attribute [local go_sem] Oper.semAt_some

set_option maxHeartbeats 400000 in
theorem mark_any (m : Nat) (hm : m ≤ 1000000) (W : World) : Calls Tryz.prog 161 #[.int .i64 (m : Int)] W fun e w' => e = .returned (.int .u32 ((1000 + m : Nat) : Int)) ∧ W = w' := by
  have e : ((1000 + m : Nat) : Int) = 1000 + (m : Int) := by omega
  rw [e]
  go_enter Tryz.func161, Tryz.ntmps161
  go_wp2
  go_ret
  exact ⟨rfl, rfl⟩
set_option maxHeartbeats 400000 in
theorem is_any (m : Nat) (hm : m ≤ 1000000) (W : World) : Calls Tryz.prog 173 #[.int .u32 ((1000 + m : Nat) : Int), .int .i64 (m : Int)] W fun e w' => e = .returned (.bool true) ∧ W = w' := by
  have e : ((1000 + m : Nat) : Int) = 1000 + (m : Int) := by omega
  rw [e]
  go_enter Tryz.func173, Tryz.ntmps173
  go_wp2
  go_ret
  exact ⟨by simp, rfl⟩

theorem undrew_grown {W W' : World} {row : Option Nat} (h : W.drew.grownBy W' row) : W.grownBy W' row := ⟨h.os, h.tape, h.output, h.size, h.block⟩
theorem info_held : (Tryz.prog.info? 141).map (fun i => (i.zero, i.size, i.bytes)) = some (some (.agg #[.slice none 0 0, .slice none 0 0, .int .i64 0]), 3, 56) := by kernel_rfl
theorem HRow.other {W : World} {B o : Nat} {v : Value} {es : List (Value × Nat)} (h : HRow W (B + 1) v es) (u : Value) : HRow (W.setCell ⟨B, o, none⟩ u) (B + 1) v es :=
  ownsRow_setCell_other h (fun e => by have := (World.ownsRow.lt h B e).1; omega) u
theorem HRow.snoc {W : World} {B : Nat} {v : Value} {es : List (Value × Nat)} (x : Value) (m : Nat) (h : W.ownsRow (B + 1) 141 3 v (es.length + 1) (hcells es ++ [x, .slice none 0 0, .int .i64 (m : Int)])) : HRow W (B + 1) v (es ++ [(x, m)]) := by
  unfold HRow
  rw [List.length_append, hcells_snoc]
  exact h

set_option maxRecDepth 100000 in
set_option maxHeartbeats 2000000 in
theorem bk_keep {W : World} {B n : Nat} {hv : Value} {es : List (Value × Nat)} {a : Option Addr} {l c : Nat} (h : BookAt W B n hv) (hr : HRow W (B + 1) hv es) (hn : n ≤ 100000) (hl : es.length ≤ 100000) :
    Calls Tryz.prog 159 #[.pointer (some ⟨B, 0, none⟩), .slice a l c] W fun e w' => e = .returned (.tuple #[]) ∧ ∃ hv', BookAt w' B (n + 1) hv' ∧ HRow w' (B + 1) hv' (es ++ [(.slice a l c, n + 1)]) ∧ Below B W w' := by
  obtain ⟨i0, hi, hz0, hz1, hz2⟩ := info_parts info_held
  obtain ⟨N1, hN1⟩ : ∃ N1, N1 = n + 1 := ⟨_, rfl⟩
  have hnn : ((n : Int) + 1) = (N1 : Int) := by omega
  have HN1 := Lib.hid hN1
  rw [← hN1]
  clear hN1
  have r1 := h.c0
  have r2 := h.fr 0
  have hlt := h.lt
  have h1 := Lib.hid (h.setn N1)
  have hr1 := Lib.hid (hr.other (o := 0) (.int .i64 (N1 : Int)))
  have hm1 : es.length + 1 ≤ maxLen := by unfold maxLen; omega
  have hm2 : (es.length + 1) * 56 ≤ 140737488355328 := by omega
  have hb1 := Lib.hid ((Below.refl B W).setCell (p := ⟨B, 0, none⟩) (Nat.le_refl _) (.int .i64 (N1 : Int)))
  clear h hr
  go_enter Tryz.func159, Tryz.ntmps159
  go_wp2
  obtain ⟨W1, hW1⟩ : ∃ W1, W1 = W.setCell ⟨B, 0, none⟩ (.int .i64 (N1 : Int)) := ⟨_, rfl⟩
  rw [← hW1] at h1 hr1 hb1 ⊢
  have s1 := h1.out.c0
  have s2 := h1.out.c2
  have s3 := h1.out.lt
  clear hW1 r1 r2
  go_region_law
    ((first
      | (refine step_append_lies _ (by rfl) _ _ _ (by rfl) (B + 1) 141 i0 _ 3 56 Tryz.underlying39 hi hz0 hz1 hz2 rfl (by omega) _ es.length (hcells es) (by rfl) (World.ownsRow.alloc (World.ownsRow.drew hr1.out) _)
          ⟨W1.heap.size, 0, none⟩ 1 1 [.slice a l c, .slice none 0 0, .int .i64 (N1 : Int)] (by rfl) (by rfl) (World.news_of_block (cs := #[.slice a l c, .slice none 0 0, .int .i64 (N1 : Int)]) (t := 141) (fr := (0, 0)) (heap_alloc_new _ _)) (by simp [Value.oneCell'])
          (by omega) hm1 hm2 (by simp; omega) (W1.heap.size + 1) (by simp) ?_; intro gg cap w6 hown1 hgrow hat hlt6; have hg6 := undrew_grown hgrow; have b6 : BookAt w6 B N1 hv := (h1.out.alloc _).kept hg6 (fun e => by have := (World.ownsRow.lt hr1.out B e.symm).1; omega); have f6 := b6.fr 2; have c6 := b6.c2)))
  all_goals
    go_end0
    have q1 := HRow.snoc (.slice a l c) N1 hown1
    exact ⟨rfl, _, b6.setv _, q1.other _, (((hb1.out.alloc (by omega) _).grown hg6 (by simp; omega) (fun k e => by have := (World.ownsRow.lt hr1.out k e).1; omega)).setCell (p := ⟨B, 2, none⟩) (Nat.le_refl _) _)⟩

end Go.Proofs.YtimdinmhphihkaaGreatDoor

namespace Go.Proofs.YtimdinmhphihkaaGreatDoor
open Go Go.Proofs Go.RowKit Go.Shelf Nu

attribute [local go_sem] Oper.semAt_some

/-- a list in a box of its own -/
def HBox (W : World) (b : Nat) (v u : Value) (m : Nat) : Prop := W.heap[b]? = some (.cells #[v, u, .int .i64 (m : Int)] 141 (0, 0))
section
variable {W W' : World} {b m : Nat} {v u : Value}
theorem HBox.lt (h : HBox W b v u m) : b < W.heap.size := (Array.getElem?_eq_some_iff.1 h).1
theorem HBox.c0 (h : HBox W b v u m) : W.cell? ⟨b, 0, none⟩ = some v := by rw [cell_of_row W b 0 _ _ _ h]; rfl
theorem HBox.c1 (h : HBox W b v u m) : W.cell? ⟨b, 1, none⟩ = some u := by rw [cell_of_row W b 1 _ _ _ h]; rfl
theorem HBox.c2 (h : HBox W b v u m) : W.cell? ⟨b, 2, none⟩ = some (.int .i64 (m : Int)) := by rw [cell_of_row W b 2 _ _ _ h]; rfl
theorem HBox.other (h : HBox W b v u m) {g o : Nat} (hne : b ≠ g) (x : Value) : HBox (W.setCell ⟨g, o, none⟩ x) b v u m := (Below.heap_setCell W ⟨g, o, none⟩ x b hne).trans h
theorem HBox.kept {row : Option Nat} (h : HBox W b v u m) (hg : W.grownBy W' row) (hne : some b ≠ row) : HBox W' b v u m := (hg.block b h.lt hne).trans h
theorem HBox.alloc (h : HBox W b v u m) (o : Obj) : HBox (W.alloc o) b v u m := (Below.heap_alloc W o b h.lt).trans h
theorem HBox.new (W : World) (v u : Value) (m : Nat) : HBox (W.alloc (.cells #[v, u, .int .i64 (m : Int)] 141)) W.heap.size v u m := World.alloc_heap_new W _
end

section
variable (w : World) (base B h n N cap : Nat) (A : Nat → Option Addr) (L C M : Nat → Nat)
/-- the lists lie apart -/
structure Lies : Prop where
  base : base ≤ B
  up : B < h
  blk : ∀ j g, j < N → (Value.slice (A j) (L j) (C j)).ownBlock = some g → g < B
  dis : ∀ j k, j < N → k < N → j ≠ k → (Value.slice (A j) (L j) (C j)).ownBlock = none ∨ (Value.slice (A j) (L j) (C j)).ownBlock ≠ (Value.slice (A k) (L k) (C k)).ownBlock
  len : ∀ j, j < N → L j ≤ 100000
  num : ∀ j, j < N → M j ≤ 1000000
  few : N ≤ 100000
/-- i of them are filled, and the next one up to k -/
def FillK (i k : Nat) (W : World) : Prop :=
  BookAt W B n (.slice (some ⟨h, 0, none⟩) N cap) ∧ HAt W h N (fun j => .slice (A j) (L j) (C j)) (fun _ => .slice none 0 0) M ∧ Below base w W ∧
  ∀ j, j < N → ∃ l, l.length = L j ∧ Fresh W base (.slice (A j) (L j) (C j)) l ∧ (j < i → l = List.replicate (L j) (1000 + M j)) ∧ (j = i → l.take k = List.replicate k (1000 + M j))
end
section
variable {w W : World} {base B h n N cap i k : Nat} {A : Nat → Option Addr} {L C M : Nat → Nat}
theorem FillK.alloc (D : Lies base B h N A L C M) (F : FillK w base B h n N cap A L C M i k W) (o : Obj) : FillK w base B h n N cap A L C M i k (W.alloc o) := by
  obtain ⟨h1, h2, h3, h4⟩ := F
  have hs : base ≤ W.heap.size := Nat.le_trans D.base (Nat.le_of_lt h1.lt)
  refine ⟨h1.alloc o, h2.kept (World.grownBy_alloc W o none) (by simp), h3.alloc hs o, fun j hj => ?_⟩
  obtain ⟨l, e, f, g⟩ := h4 j hj
  exact ⟨l, e, f.alloc o, g⟩
theorem FillK.drew (F : FillK w base B h n N cap A L C M i k W) : FillK w base B h n N cap A L C M i k W.drew := ⟨F.1, F.2.1, F.2.2.1.drew, F.2.2.2⟩
theorem FillK.next (F : FillK w base B h n N cap A L C M i (L i) W) : FillK w base B h n N cap A L C M (i + 1) 0 W := by
  refine ⟨F.1, F.2.1, F.2.2.1, fun j hj => ?_⟩
  obtain ⟨l, e, f, g1, g2⟩ := F.2.2.2 j hj
  refine ⟨l, e, f, fun hji => ?_, fun _ => rfl⟩
  by_cases hj' : j = i
  · have := g2 hj'
    subst hj'
    rwa [List.take_of_length_le (by omega)] at this
  · exact g1 (by omega)
theorem FillK.put (D : Lies base B h N A L C M) {g : Nat} (hA : A i = some ⟨g, 0, none⟩) (hi : i < N) (hk : k < L i) (F : FillK w base B h n N cap A L C M i k W) : FillK w base B h n N cap A L C M i (k + 1) (W.setCell ⟨g, k, none⟩ (.int .u32 ((1000 + M i : Nat) : Int))) := by
  obtain ⟨h1, h2, h3, h4⟩ := F
  have eo : (Value.slice (A i) (L i) (C i)).ownBlock = some g := by rw [hA]; rfl
  have hgB := D.blk i g hi eo
  have hup := D.up
  have hb : base ≤ g := by obtain ⟨l, e, f, _⟩ := h4 i hi; exact (f.lt' eo).1
  refine ⟨h1.other (by omega) _, h2.other (by omega) _, h3.setCell (p := ⟨g, k, none⟩) hb _, fun j hj => ?_⟩
  obtain ⟨l, e, f, g1, g2⟩ := h4 j hj
  by_cases hji : j = i
  · subst hji
    rw [hA] at f ⊢
    refine ⟨l.set k (1000 + M j), by rw [List.length_set, e], (f.put e.symm k (1000 + M j)).1, fun hlt => absurd hlt (Nat.lt_irrefl _), fun _ => ?_⟩
    rw [set_take l k _ (by omega), g2 rfl, List.replicate_succ']
  · refine ⟨l, e, ownsRow_setCell_other f (fun e2 => ?_) _, g1, fun e2 => absurd e2 hji⟩
    rcases D.dis j i hj hi hji with h5 | h5
    · rw [h5] at e2; cases e2
    · rw [eo] at h5; exact h5 e2
theorem FillK.form (F : FillK w base B h n N cap A L C M i k W) (j : Nat) (hj : j < N) (h0 : 0 < L j) : ∃ g, A j = some ⟨g, 0, none⟩ ∧ g < W.heap.size ∧ L j ≤ C j ∧ (∀ o, o < L j → ∃ x : Nat, W.cell? ⟨g, o, none⟩ = some (.int .u32 (x : Int))) ∧ ∀ o, W.frozen? ⟨g, o, none⟩ = false := by
  obtain ⟨l, e, f, _⟩ := F.2.2.2 j hj
  have f0 := f
  rcases f.form with ⟨e1, _⟩ | ⟨g, c, e1, _, hg, hn, hc⟩
  · simp only [Value.slice.injEq] at e1
    omega
  · simp only [Value.slice.injEq] at e1
    obtain ⟨e1, e2, e3⟩ := e1
    refine ⟨g, e1, hg, by omega, fun o ho => ⟨_, by have := hc o (by omega); rwa [Nat.zero_add] at this⟩, fun o => ?_⟩
    rw [e1] at f0
    unfold Fresh at f0
    rw [e] at f0
    exact World.ownsRow.frozenAt f0 o
end

set_option maxRecDepth 100000 in
set_option maxHeartbeats 2000000 in
theorem fill_any {w W : World} {base B h n N cap : Nat} {A : Nat → Option Addr} {L C M : Nat → Nat} (D : Lies base B h N A L C M) (hN : N ≤ cap) (F : FillK w base B h n N cap A L C M 0 0 W) :
    Calls Tryz.prog 74 #[.pointer (some ⟨B, 0, none⟩)] W fun e w' => e = .returned (.tuple #[]) ∧ FillK w base B h n N cap A L C M N 0 w' := by
  have hD := Lib.hid D
  have hF := Lib.hid F
  have hfew := D.few
  clear D F
  go_enter Tryz.func74, Tryz.ntmps74
  go_wp2
  go_loopg [2] N (fun g s wr => ∃ i : Nat, i + g = N ∧ s = .int .i64 (i : Int) ∧ Hid (FillK w base B h n N cap A L C M i 0 wr))
  case atStart => exact ⟨0, by omega, rfl, hF⟩
  case round =>
    obtain ⟨i, hi, rfl, HK⟩ := hrel
    have r1 := HK.out.1.c2
    by_cases hlt : i < N
    · obtain ⟨c0, c1, c2⟩ := HK.out.2.1.2 i hlt
      have hbs := HK.out.1.lt
      dsimp only at c0
      have hLi := (hD.out).len i hlt
      have hMi := (hD.out).num i hlt
      have hHB := Lib.hid (HBox.new wr (.slice (A i) (L i) (C i)) (.slice none 0 0) (M i))
      have hFA := Lib.hid (HK.out.alloc hD.out (.cells #[.slice (A i) (L i) (C i), .slice none 0 0, .int .i64 (M i : Int)] 141))
      go_wp2
      obtain ⟨hb, hhb⟩ : ∃ hb, hb = wr.heap.size := ⟨_, rfl⟩
      rw [← hhb] at hHB hbs ⊢
      obtain ⟨wo, hwo⟩ : ∃ wo, wo = wr.alloc (.cells #[.slice (A i) (L i) (C i), .slice none 0 0, .int .i64 (M i : Int)] 141) := ⟨_, rfl⟩
      rw [← hwo] at hHB hFA ⊢
      clear hwo hhb HK r1 c0 c1 c2
      go_loopg [4] (L i) (fun g s wy => ∃ k : Nat, k + g = L i ∧ s = .int .i64 (k : Int) ∧ Hid (FillK w base B h n N cap A L C M i k wy) ∧ Hid (HBox wy hb (.slice (A i) (L i) (C i)) (.slice none 0 0) (M i)))
      case atStart => exact ⟨0, by omega, rfl, hFA, hHB⟩
      case round =>
        obtain ⟨k, hk, rfl, HF, HB⟩ := hrel
        have r1 := HB.out.c0
        have r2 := HB.out.c2
        by_cases hkl : k < L i
        · obtain ⟨g, ea, hg, hcap, hcell, hfr⟩ := HF.out.form i hlt (by omega)
          obtain ⟨x, r3⟩ := hcell k hkl
          have r4 := hfr k
          have hp := HF.out.put hD.out ea hlt hkl
          have kM := mark_any (M i) hMi
          obtain ⟨mk, hmk⟩ : ∃ mk, mk = 1000 + M i := ⟨_, rfl⟩
          rw [← hmk] at hp kM
          have HP := Lib.hid hp
          clear hmk hp
          have hgb : hb ≠ g := by
            have := hD.out.blk i g hlt (by rw [ea]; rfl)
            omega
          have hB0 := HB.out
          have HB2 := Lib.hid (hB0.other hgb (o := k) (.int .u32 (mk : Int)))
          have q1 := HB2.out.c0
          have q2 := HB2.out.c2
          rw [ea] at q1
          clear hB0
          rw [ea] at r1
          clear hcell hfr ea
          go_wp2
          go_region_held3 (fun w' => w'.cell? ⟨hb, 0, none⟩ = some (.slice (some ⟨g, 0, none⟩) (L i) (C i)) ∧ w'.cell? ⟨hb, 2, none⟩ = some (.int .i64 (M i : Int)))
            (first
              | go_keep
              | (exact ⟨r1, r2⟩)
              | (exact ⟨q1, q2⟩))
            ((first
              | (go_at_call 161; (with_reducible refine (kM _).mono ?_); rintro e w5 ⟨rfl, rfl⟩)))
          go_wp2
          go_roundg (L i - (k + 1))
          case measure => omega
          case rel => exact ⟨k + 1, by omega, by simp, Lib.hid HP.out.drew, Lib.hid (show HBox _ _ _ _ _ from HB2.out)⟩
        · obtain rfl : k = L i := by omega
          have HN := Lib.hid HF.out.next
          obtain ⟨z, hz⟩ : ∃ z, z = L i := ⟨_, rfl⟩
          rw [← hz] at r1 ⊢
          clear hz HF HB
          go_wp2
          go_roundg (N - (i + 1))
          case measure => omega
          case rel => exact ⟨i + 1, by omega, by simp, HN⟩
    · obtain rfl : i = N := by omega
      go_wp2
      go_end0
      exact ⟨rfl, HK.out⟩

end Go.Proofs.YtimdinmhphihkaaGreatDoor

namespace Go.Proofs.YtimdinmhphihkaaGreatDoor
open Go Go.Proofs Go.RowKit Go.Shelf Nu

attribute [local go_sem] Oper.semAt_some

theorem Reads.keptr {W W' : World} {v : Value} {l : List Nat} {row : Option Nat} (h : Reads W v l) (hg : W.grownBy W' row) (hne : v.ownBlock = none ∨ v.ownBlock ≠ row) : Reads W' v l := by
  rcases h with h | ⟨b, off, cap, rfl, hb', hc, hl⟩ | h
  · exact .inl h
  · have hb : some b ≠ row := by
      rcases hne with h | h
      · cases h
      · exact h
    exact .inr (.inl ⟨b, off, cap, rfl, Nat.lt_of_lt_of_le hb' hg.size, hc, fun j hj => (World.cell?_of_block (w := W) (hg.block b hb' hb)).trans (hl j hj)⟩)
  · exact .inr (.inr h)
/-- what is read of a slice that is appended to: its row holds it still -/
theorem reads_append {W W' : World} {base L K m c : Nat} {a : Option Addr} {u u' : Value} (form : (a = none ∧ L = 0 ∧ c = 0) ∨ ∃ g, a = some ⟨g, 0, none⟩) (hv : Reads W (.slice a L c) (List.replicate L m)) (hK : L ≤ K)
    (hu : Fresh W' base u' (List.replicate K m)) (hor : (u'.ownBlock = u.ownBlock ∧ W.grownBy W' u.ownBlock) ∨ (u'.ownBlock = some W.heap.size ∧ W.grownBy W' none)) : Reads W' (.slice a L c) (List.replicate L m) := by
  rcases form with ⟨rfl, rfl, rfl⟩ | ⟨g, rfl⟩
  · exact Reads.nil W'
  · rcases hor with ⟨e, hg⟩ | ⟨_, hg⟩
    · by_cases hgu : some g = u.ownBlock
      · rcases hu.form with ⟨e1, e2⟩ | ⟨g', cap, rfl, _, hlt, hn, hc⟩
        · have : K = 0 := by have := congrArg List.length e2; simpa using this
          obtain rfl : L = 0 := by omega
          subst e1
          rw [← hgu] at e
          cases e
        · rw [← hgu] at e
          have eg : g' = g := by simpa [Value.ownBlock] using e
          subst eg
          rcases hv with ⟨e3, _⟩ | ⟨b, off, cp, e3, _, hcp, _⟩ | ⟨x, e3, e4⟩
          · cases e3
          · simp only [Value.slice.injEq, Option.some.injEq, Addr.mk.injEq, and_true] at e3
            obtain ⟨⟨rfl, rfl⟩, _, rfl⟩ := e3
            refine .inr (.inl ⟨g', 0, c, by rw [List.length_replicate], hlt, hcp, fun j hj => ?_⟩)
            rw [List.length_replicate] at hj
            have := hc j (by rw [List.length_replicate]; omega)
            rw [this]
            congr 3
            rw [List.getD_eq_getElem?_getD, List.getD_eq_getElem?_getD, List.getElem?_replicate, List.getElem?_replicate, if_pos hj, if_pos (by omega)]
          · refine .inr (.inr ⟨⟨g', 0, none⟩, ?_, e4⟩)
            simp only [Value.slice.injEq] at e3
            obtain ⟨_, rfl, rfl⟩ := e3
            rfl
      · exact hv.keptr hg (.inr (by simpa [Value.ownBlock] using hgu))
    · exact hv.keptr hg (.inr (by simp [Value.ownBlock]))

section
variable (w : World) (base B h n N cap : Nat) (A : Nat → Option Addr) (L C M : Nat → Nat) (S0 : Nat)
def BlkC (j : Nat) (u : Value) : Prop := ∀ g, u.ownBlock = some g → (Value.slice (A j) (L j) (C j)).ownBlock = some g ∨ S0 ≤ g
def Forms : Prop := ∀ j, j < N → (A j = none ∧ L j = 0 ∧ C j = 0) ∨ ∃ g, A j = some ⟨g, 0, none⟩
/-- i of them are grown -/
def GrowO (i : Nat) (W : World) : Prop :=
  ∃ G : Nat → Value, (∀ j, i ≤ j → G j = .slice none 0 0) ∧ BookAt W B n (.slice (some ⟨h, 0, none⟩) N cap) ∧ HAt W h N (fun j => .slice (A j) (L j) (C j)) G M ∧ Below base w W ∧ S0 ≤ W.heap.size ∧
    (∀ j, j < N → Reads W (.slice (A j) (L j) (C j)) (List.replicate (L j) (1000 + M j))) ∧ (∀ j, j < N → i ≤ j → Fresh W base (.slice (A j) (L j) (C j)) (List.replicate (L j) (1000 + M j))) ∧
    ∀ j, j < N → j < i → Fresh W base (G j) (List.replicate (L j + 40) (1000 + M j)) ∧ BlkC A L C S0 j (G j)
/-- .. and the next one by k -/
def GrowI (S1 : Nat) (G : Nat → Value) (i k : Nat) (u : Value) (W : World) : Prop :=
  (∀ j, i ≤ j → G j = .slice none 0 0) ∧ BookAt W B n (.slice (some ⟨h, 0, none⟩) N cap) ∧ HAt W h N (fun j => .slice (A j) (L j) (C j)) G M ∧ Below base w W ∧ S1 ≤ W.heap.size ∧
    (∀ j, j < N → Reads W (.slice (A j) (L j) (C j)) (List.replicate (L j) (1000 + M j))) ∧ (∀ j, j < N → i < j → Fresh W base (.slice (A j) (L j) (C j)) (List.replicate (L j) (1000 + M j))) ∧
    (∀ j, j < N → j < i → Fresh W base (G j) (List.replicate (L j + 40) (1000 + M j)) ∧ BlkC A L C S0 j (G j) ∧ ∀ g, (G j).ownBlock = some g → g < S1) ∧
    Fresh W base u (List.replicate (L i + k) (1000 + M i)) ∧ BlkC A L C S1 i u
end
section
variable {w W : World} {base B h n N cap S0 S1 i k : Nat} {A : Nat → Option Addr} {L C M : Nat → Nat} {G : Nat → Value} {u : Value}
theorem GrowO.start (F : FillK w base B h n N cap A L C M N 0 W) : GrowO w base B h n N cap A L C M W.heap.size 0 W := by
  refine ⟨fun _ => .slice none 0 0, fun _ _ => rfl, F.1, F.2.1, F.2.2.1, Nat.le_refl _, fun j hj => ?_, fun j hj _ => ?_, fun j _ hj => absurd hj (Nat.not_lt_zero _)⟩
  · obtain ⟨l, _, f, g, _⟩ := F.2.2.2 j hj
    have := f.reads
    rwa [g hj] at this
  · obtain ⟨l, _, f, g, _⟩ := F.2.2.2 j hj
    rwa [g hj] at f
theorem FillK.forms (F : FillK w base B h n N cap A L C M i k W) : Forms N A L C := by
  intro j hj
  obtain ⟨l, e, f, _⟩ := F.2.2.2 j hj
  rcases f.form with ⟨e1, _⟩ | ⟨g, c, e1, _⟩
  · simp only [Value.slice.injEq] at e1; exact .inl e1
  · simp only [Value.slice.injEq] at e1; exact .inr ⟨g, e1.1⟩
theorem GrowO.inner (D : Lies base B h N A L C M) (F : GrowO w base B h n N cap A L C M S0 i W) (hi : i < N) (o : Obj) :
    ∃ G, GrowI w base B h n N cap A L C M S0 (W.heap.size + 1) G i 0 (.slice (A i) (L i) (C i)) (W.alloc o) := by
  obtain ⟨G, h0, h1, h2, h3, h4, h5, h6, h7⟩ := F
  have hs : base ≤ W.heap.size := Nat.le_trans D.base (Nat.le_of_lt h1.lt)
  have hb : Below W.heap.size W (W.alloc o) := (Below.refl _ _).alloc (Nat.le_refl _) o
  refine ⟨G, h0, h1.alloc o, h2.kept (World.grownBy_alloc W o none) (by simp), h3.alloc hs o, by simp, fun j hj => (h5 j hj).below hb, fun j hj hji => (h6 j hj (by omega)).alloc o, fun j hj hji => ?_, (h6 i hi (Nat.le_refl _)).alloc o, fun g e => .inl e⟩
  obtain ⟨f, c⟩ := h7 j hj hji
  exact ⟨f.alloc o, c, fun g e => by have := (f.lt' e).2; omega⟩
theorem GrowI.step {w3 : World} {u' : Value} {z : Int} {o : Obj} (D : Lies base B h N A L C M) (hf : Forms N A L C) (hi : i < N) (hS : S1 ≤ W.heap.size) (hhS : h < S0) (hSS : S0 ≤ S1) (F : GrowI w base B h n N cap A L C M S0 S1 G i k u W) (hz : z = ((1000 + M i : Nat) : Int))
    (hown : w3.ownsRow base 90 1 u' ((List.replicate (L i + k) (1000 + M i)).length + 1) ((List.replicate (L i + k) (1000 + M i)).map u32v ++ [.int .u32 z]))
    (hor : (u'.ownBlock = u.ownBlock ∧ (W.alloc o).grownBy w3 u.ownBlock) ∨ (u'.ownBlock = some (W.alloc o).heap.size ∧ (W.alloc o).grownBy w3 none)) :
    GrowI w base B h n N cap A L C M S0 S1 G i (k + 1) u' w3 ∧ ∃ row, (W.alloc o).grownBy w3 row ∧ ∀ g, row = some g → g < B ∨ S1 ≤ g := by
  obtain ⟨h0, h1, h2, h3, h4, h5, h6, h7, h8, h9⟩ := F
  have hs : base ≤ W.heap.size := Nat.le_trans D.base (Nat.le_of_lt h1.lt)
  have hb : Below W.heap.size W (W.alloc o) := (Below.refl _ _).alloc (Nat.le_refl _) o
  have hup := D.up
  have hfu : Fresh w3 base u' (List.replicate (L i + (k + 1)) (1000 + M i)) := by
    unfold Fresh
    rw [hz] at hown
    rw [show L i + (k + 1) = (L i + k) + 1 by omega, List.replicate_succ', List.map_append, List.length_append]
    exact hown
  -- the row that may have turned
  obtain ⟨row, hrow, hr1, hr2⟩ : ∃ row, (W.alloc o).grownBy w3 row ∧ (row = none ∨ row = u.ownBlock) ∧ ∀ g, row = some g → (Value.slice (A i) (L i) (C i)).ownBlock = some g ∨ S1 ≤ g := by
    rcases hor with ⟨_, hg⟩ | ⟨_, hg⟩
    · exact ⟨_, hg, .inr rfl, fun g e => h9 g e⟩
    · exact ⟨none, hg, .inl rfl, fun g e => by cases e⟩
  have hlow : ∀ g, row = some g → g < B ∨ S1 ≤ g := fun g e => by
    rcases hr2 g e with h | h
    · exact .inl (D.blk i g hi h)
    · exact .inr h
  have hV : ∀ j, j < N → j ≠ i → (Value.slice (A j) (L j) (C j)).ownBlock = none ∨ (Value.slice (A j) (L j) (C j)).ownBlock ≠ row := by
    intro j hj hji
    cases hv : (Value.slice (A j) (L j) (C j)).ownBlock with
    | none => exact .inl rfl
    | some g =>
      refine .inr (fun e => ?_)
      have hgB := D.blk j g hj hv
      rcases hr2 g e.symm with h | h
      · rcases D.dis j i hj hi hji with h' | h'
        · rw [hv] at h'; cases h'
        · exact h' (hv.trans h.symm)
      · omega
  have hbB : some B ≠ row := fun e => by rcases hlow B e.symm with h | h <;> omega
  have hhB : some h ≠ row := fun e => by rcases hlow h e.symm with h | h <;> omega
  refine ⟨⟨h0, (h1.alloc o).kept hrow hbB, (h2.kept (World.grownBy_alloc W o none) (by simp)).kept hrow hhB, (h3.alloc hs o).grown hrow (by simp; omega) (fun g e => ?_), ?_, fun j hj => ?_, fun j hj hji => ?_, fun j hj hji => ?_, hfu, fun g e => ?_⟩, row, hrow, hlow⟩
  · rcases hr1 with h | h
    · rw [h] at e; cases e
    · rw [h] at e; exact (h8.lt' e).1
  · have := hrow.size; simp at this; omega
  · by_cases hji : j = i
    · subst hji
      exact reads_append (hf j hj) ((h5 j hj).below hb) (by omega) hfu hor
    · exact ((h5 j hj).below hb).keptr hrow (hV j hj hji)
  · exact ((h6 j hj hji).alloc o).keptr hrow (hV j hj (by omega))
  · obtain ⟨f, c, l⟩ := h7 j hj hji
    refine ⟨(f.alloc o).keptr hrow ?_, c, l⟩
    cases hg : (G j).ownBlock with
    | none => exact .inl rfl
    | some g =>
      refine .inr (fun e => ?_)
      have hl := l g hg
      rcases hr2 g e.symm with h | h
      · rcases c g hg with h' | h'
        · rcases D.dis j i hj hi (by omega) with h'' | h''
          · rw [h'] at h''; cases h''
          · exact h'' (h'.trans h.symm)
        · have := D.blk i g hi h; omega
      · omega
  · rcases hor with ⟨e1, _⟩ | ⟨e1, _⟩
    · rw [e1] at e; exact h9 g e
    · rw [e1] at e
      simp only [World.size_alloc, Option.some.injEq] at e
      exact .inr (by omega)
theorem GrowI.next (D : Lies base B h N A L C M) (hi : i < N) (hhS : h < S0) (hSS : S0 ≤ S1) (F : GrowI w base B h n N cap A L C M S0 S1 G i 40 u W) :
    GrowO w base B h n N cap A L C M S0 (i + 1) (W.setCell ⟨h, i * 3 + 1, none⟩ u) := by
  obtain ⟨h0, h1, h2, h3, h4, h5, h6, h7, h8, h9⟩ := F
  have hup := D.up
  have hbb := D.base
  have hg : W.grownBy (W.setCell ⟨h, i * 3 + 1, none⟩ u) (some h) := ⟨rfl, rfl, rfl, by simp, fun k _ hk => heap_setCell_other W ⟨h, i * 3 + 1, none⟩ k u (fun e => hk (by simp [e]))⟩
  have off : ∀ j, j < N → (Value.slice (A j) (L j) (C j)).ownBlock = none ∨ (Value.slice (A j) (L j) (C j)).ownBlock ≠ some h := fun j hj => .inr (fun e => by have := D.blk j h hj e; omega)
  refine ⟨fun j => if j = i then u else G j, fun j hj => by show (if j = i then u else G j) = _; rw [if_neg (by omega)]; exact h0 j (by omega), h1.other (by omega) _, h2.put hi u, h3.setCell (p := ⟨h, i * 3 + 1, none⟩) (show base ≤ h by omega) _, by simp; omega, fun j hj => (h5 j hj).keptr hg (off j hj), fun j hj hji => (h6 j hj (by omega)).keptr hg (off j hj), fun j hj hji => ?_⟩
  by_cases e : j = i
  · subst e
    simp only [if_true]
    refine ⟨h8.keptr hg (.inr fun e => ?_), fun g e => ?_⟩
    · rcases h9 h e with h' | h'
      · have := D.blk j h hj h'; omega
      · omega
    · rcases h9 g e with h' | h'
      · exact .inl h'
      · exact .inr (by omega)
  · simp only [if_neg e]
    obtain ⟨f, c, l⟩ := h7 j hj (by omega)
    refine ⟨f.keptr hg (.inr fun e => ?_), c⟩
    rcases c h e with h' | h'
    · have := D.blk j h hj h'; omega
    · omega
end

end Go.Proofs.YtimdinmhphihkaaGreatDoor

namespace Go.Proofs.YtimdinmhphihkaaGreatDoor
open Go Go.Proofs Go.RowKit Go.Shelf Nu

attribute [local go_sem] Oper.semAt_some

set_option maxRecDepth 100000 in
set_option maxHeartbeats 2000000 in
theorem grow_any {w W : World} {base B h n N cap S0 : Nat} {A : Nat → Option Addr} {L C M : Nat → Nat} (D : Lies base B h N A L C M) (hf : Forms N A L C) (hN : N ≤ cap) (hhS : h < S0) (F : GrowO w base B h n N cap A L C M S0 0 W) :
    Calls Tryz.prog 86 #[.pointer (some ⟨B, 0, none⟩)] W fun e w' => e = .returned (.tuple #[]) ∧ GrowO w base B h n N cap A L C M S0 N w' := by
  obtain ⟨i0, hi0, hz0, hz1, hz2⟩ := info_parts info_u32
  have hD := Lib.hid D
  have hF := Lib.hid F
  have hFo := Lib.hid hf
  have hfew := D.few
  clear D F hf
  go_enter Tryz.func86, Tryz.ntmps86
  go_wp2
  go_loopg [2] N (fun g s wr => ∃ i : Nat, i + g = N ∧ s = .int .i64 (i : Int) ∧ Hid (GrowO w base B h n N cap A L C M S0 i wr))
  case atStart => exact ⟨0, by omega, rfl, hF⟩
  case round =>
    obtain ⟨i, hi, rfl, HK⟩ := hrel
    by_cases hlt : i < N
    · obtain ⟨r1, c0, c1, c2, hbs, hS0⟩ : wr.cell? ⟨B, 2, none⟩ = some (.slice (some ⟨h, 0, none⟩) N cap) ∧ wr.cell? ⟨h, i * 3, none⟩ = some (.slice (A i) (L i) (C i)) ∧ wr.cell? ⟨h, i * 3 + 1, none⟩ = some (.slice none 0 0) ∧ wr.cell? ⟨h, i * 3 + 2, none⟩ = some (.int .i64 (M i : Int)) ∧ B < wr.heap.size ∧ S0 ≤ wr.heap.size := by
        obtain ⟨G, h0, h1, h2, _, h4, _⟩ := HK.out
        have k := h2.2 i hlt
        rw [h0 i (Nat.le_refl _)] at k
        exact ⟨h1.c2, k.1, k.2.1, k.2.2, h1.lt, h4⟩
      have hLi := (hD.out).len i hlt
      have hMi := (hD.out).num i hlt
      have hHB := Lib.hid (HBox.new wr (.slice (A i) (L i) (C i)) (.slice none 0 0) (M i))
      obtain ⟨G, hFA⟩ := HK.out.inner hD.out hlt (.cells #[.slice (A i) (L i) (C i), (.slice none 0 0), .int .i64 (M i : Int)] 141)
      have HFA := Lib.hid hFA
      clear hFA
      go_wp2
      obtain ⟨hb, hhb⟩ : ∃ hb, hb = wr.heap.size := ⟨_, rfl⟩
      rw [← hhb] at hHB HFA hbs hS0 ⊢
      obtain ⟨wo, hwo⟩ : ∃ wo, wo = wr.alloc (.cells #[.slice (A i) (L i) (C i), (.slice none 0 0), .int .i64 (M i : Int)] 141) := ⟨_, rfl⟩
      rw [← hwo] at hHB HFA ⊢
      have q0 := hHB.out.c0
      clear hwo hhb HK r1 c0 c1 c2
      go_wp2
      go_loopg [4, 5] 40 (fun g u s wy => ∃ k : Nat, k + g = 40 ∧ s = .int .i64 (k : Int) ∧ Hid (GrowI w base B h n N cap A L C M S0 (hb + 1) G i k u wy) ∧ Hid (HBox wy hb (.slice (A i) (L i) (C i)) (.slice none 0 0) (M i)))
      case atStart => exact ⟨0, by omega, rfl, HFA, hHB⟩
      case round =>
        obtain ⟨k, hk, rfl, HF, HB⟩ := hrel
        have r2 := HB.out.c2
        have hbase : base ≤ wr.heap.size := by
          have h1 := hD.out.base
          have h2 := HF.out.2.1.lt
          omega
        by_cases hk4 : k < 40
        · have hrow := HF.out.2.2.2.2.2.2.2.2.1
          have kM := mark_any (M i) hMi
          obtain ⟨mk, hmk⟩ : ∃ mk, mk = 1000 + M i := ⟨_, rfl⟩
          rw [← hmk] at hrow kM
          have HMK := Lib.hid hmk
          clear hmk
          go_wp2_with (first
            | (go_at_call 161; (with_reducible refine (kM _).mono ?_); rintro e w5 ⟨rfl, rfl⟩)
            | (at_builtin; go_loud (refine wpList_append_or _ rfl _ _ 22 rfl base 90 i0 (.int .u32 0) 1 4 Tryz.underlying22 hi0 hz0 hz1 hz2 rfl (by decide) _ _ _ rfl (World.ownsRow.alloc hrow _) ⟨wr.heap.size, 0, none⟩ 1 1 [_] rfl rfl (one_new _ _ _ _ (by simp)) (by simp [Value.oneCell']) (by rw [List.length_replicate]; exact small_max (by omega)) (by rw [List.length_replicate]; omega) (by simp; omega) ?_); intro v' w3 hown' hor))
          rw [HMK.out] at hown'
          have hst := GrowI.step hD.out hFo.out hlt HF.out.2.2.2.2.1 hhS (by omega) HF.out rfl hown' hor
          obtain ⟨row, hrw, hlow⟩ := hst.2
          have HG := Lib.hid hst.1
          have HB2 := Lib.hid ((HB.out.alloc _).kept hrw (fun e => by rcases hlow hb e.symm with h | h <;> omega))
          clear hown' hor hst hrw hlow hrow
          go_roundg (40 - (k + 1))
          case measure => omega
          case rel => exact ⟨k + 1, by omega, by simp, HG, HB2⟩
        · obtain rfl : k = 40 := by omega
          have hr2 := HF.out.2.1.c2
          obtain ⟨_, s1, s2⟩ := HF.out.2.2.1.2 i hlt
          rw [HF.out.1 i (Nat.le_refl _)] at s1
          have s3 := HF.out.2.2.1.fr (i * 3 + 1)
          have hN1 := HF.out.next hD.out hlt hhS (by omega)
          have hn1 := HF.out.2.2.2.2.2.2.2.2.1.form
          obtain ⟨g4, c4, e4⟩ : ∃ g4 c4, u4 = .slice (some ⟨g4, 0, none⟩) (L i + 40) c4 := by
            rcases hn1 with ⟨_, e2⟩ | ⟨g, c, e, _⟩
            · have := congrArg List.length e2
              simp at this
            · rw [List.length_replicate] at e; exact ⟨g, c, e⟩
          rw [e4] at hN1 ⊢
          have HN1 := Lib.hid hN1
          clear hn1 hN1 e4 HF HB s2
          go_wp2
          go_roundg (N - (i + 1))
          case measure => omega
          case rel => exact ⟨i + 1, by omega, by simp, HN1⟩
    · obtain rfl : i = N := by omega
      have r1 : wr.cell? ⟨B, 2, none⟩ = some (.slice (some ⟨h, 0, none⟩) i cap) := by obtain ⟨G, _, h1, _⟩ := HK.out; exact h1.c2
      go_wp2
      go_end0
      exact ⟨rfl, HK.out⟩

end Go.Proofs.YtimdinmhphihkaaGreatDoor

namespace Go.Proofs.YtimdinmhphihkaaGreatDoor
open Go Go.Proofs Go.RowKit Go.Shelf Nu

attribute [local go_sem] Oper.semAt_some

section
variable (w : World) (base B h n N cap : Nat) (A : Nat → Option Addr) (L C M : Nat → Nat) (G : Nat → Value)
def LookO (W : World) : Prop :=
  BookAt W B n (.slice (some ⟨h, 0, none⟩) N cap) ∧ HAt W h N (fun j => .slice (A j) (L j) (C j)) G M ∧ Below base w W ∧ base ≤ W.heap.size ∧
    ∀ j, j < N → Reads W (.slice (A j) (L j) (C j)) (List.replicate (L j) (1000 + M j)) ∧ Reads W (G j) (List.replicate (L j + 40) (1000 + M j))
end
section
variable {w W : World} {base B h n N cap S0 : Nat} {A : Nat → Option Addr} {L C M : Nat → Nat} {G : Nat → Value}
theorem LookO.of (D : Lies base B h N A L C M) (F : GrowO w base B h n N cap A L C M S0 N W) : ∃ G, LookO w base B h n N cap A L C M G W := by
  obtain ⟨G, _, h1, h2, h3, h4, h5, _, h7⟩ := F
  have hs : base ≤ W.heap.size := Nat.le_trans D.base (Nat.le_of_lt h1.lt)
  exact ⟨G, h1, h2, h3, hs, fun j hj => ⟨h5 j hj, (h7 j hj hj).1.reads⟩⟩
theorem LookO.alloc (F : LookO w base B h n N cap A L C M G W) (o : Obj) : LookO w base B h n N cap A L C M G (W.alloc o) := by
  obtain ⟨h1, h2, h3, h4, h5⟩ := F
  have hb : Below W.heap.size W (W.alloc o) := (Below.refl _ _).alloc (Nat.le_refl _) o
  exact ⟨h1.alloc o, h2.kept (World.grownBy_alloc W o none) (by simp), h3.alloc h4 o, by simp; omega, fun j hj => ⟨(h5 j hj).1.below hb, (h5 j hj).2.below hb⟩⟩
theorem LookO.drewN (F : LookO w base B h n N cap A L C M G W) (m : Nat) : LookO w base B h n N cap A L C M G (W.drewN m) := by
  obtain ⟨h1, h2, h3, h4, h5⟩ := F
  exact ⟨h1, h2, ⟨h3.os, h3.tape, h3.output, h3.size, h3.block⟩, h4, h5⟩
theorem getD_rep (K m j : Nat) (hj : j < K) : (List.replicate K m).getD j 0 = m := by
  rw [List.getD_eq_getElem?_getD, List.getElem?_replicate, if_pos hj]; rfl
end

set_option maxRecDepth 100000 in
set_option maxHeartbeats 2000000 in
theorem look_any {w W : World} {base B h n N cap : Nat} {A : Nat → Option Addr} {L C M : Nat → Nat} {G : Nat → Value} (D : Lies base B h N A L C M) (hN : N ≤ cap) (F : LookO w base B h n N cap A L C M G W) :
    Calls Tryz.prog 98 #[.pointer (some ⟨B, 0, none⟩)] W fun e w' => e = .returned (.bool true) ∧ LookO w base B h n N cap A L C M G w' := by
  have hD := Lib.hid D
  have hF := Lib.hid F
  have hfew := D.few
  clear D F
  go_enter Tryz.func98, Tryz.ntmps98
  go_wp2
  go_loopg [3] N (fun g s wr => ∃ i : Nat, i + g = N ∧ s = .int .i64 (i : Int) ∧ Hid (LookO w base B h n N cap A L C M G wr))
  case atStart => exact ⟨0, by omega, rfl, hF⟩
  case round =>
    obtain ⟨i, hi, rfl, HK⟩ := hrel
    have r1 := HK.out.1.c2
    by_cases hlt : i < N
    · obtain ⟨c0, c1, c2⟩ := HK.out.2.1.2 i hlt
      have hbs := HK.out.1.lt
      dsimp only at c0
      have hLi := (hD.out).len i hlt
      have hMi := (hD.out).num i hlt
      obtain ⟨K1, hK1⟩ : ∃ K1, K1 = L i + 40 := ⟨_, rfl⟩
      have hK2 : (L i : Int) + 40 = (K1 : Int) := by omega
      obtain ⟨a1, p1, e1⟩ := (HK.out.2.2.2.2 i hlt).2.form
      rw [List.length_replicate, ← hK1] at e1
      rw [e1] at c1
      have HK1 := Lib.hid hK1
      have E1 := Lib.hid e1
      have hHB := Lib.hid (HBox.new wr (.slice (A i) (L i) (C i)) (.slice a1 K1 p1) (M i))
      have hFA := Lib.hid (HK.out.alloc (.cells #[.slice (A i) (L i) (C i), .slice a1 K1 p1, .int .i64 (M i : Int)] 141))
      clear hK1 e1
      go_wp2
      obtain ⟨hb, hhb⟩ : ∃ hb, hb = wr.heap.size := ⟨_, rfl⟩
      rw [← hhb] at hHB hbs ⊢
      obtain ⟨wo, hwo⟩ : ∃ wo, wo = wr.alloc (.cells #[.slice (A i) (L i) (C i), .slice a1 K1 p1, .int .i64 (M i : Int)] 141) := ⟨_, rfl⟩
      rw [← hwo] at hHB hFA ⊢
      have q0 := hHB.out.c0
      have q1 := hHB.out.c1
      clear hwo hhb HK r1 c0 c1 c2
      go_wp2
      clear q0 q1
      go_loopg [5] K1 (fun g s wy => ∃ k : Nat, k + g = K1 ∧ s = .int .i64 (k : Int) ∧ Hid (LookO w base B h n N cap A L C M G wy) ∧ Hid (HBox wy hb (.slice (A i) (L i) (C i)) (.slice a1 K1 p1) (M i)))
      case atStart => exact ⟨0, by omega, rfl, hFA, hHB⟩
      case round =>
        obtain ⟨k, hk, rfl, HF, HB⟩ := hrel
        have q0 := HB.out.c0
        have q1 := HB.out.c1
        have q2 := HB.out.c2
        by_cases hkl : k < K1
        · obtain ⟨mk, hmk⟩ : ∃ mk, mk = 1000 + M i := ⟨_, rfl⟩
          have kI := fun W => is_any (M i) hMi W
          rw [← hmk] at kI
          have kJ := fun W => unflip (kI W)
          have hr1 := (HF.out.2.2.2.2 i hlt).1
          have hr2 := (HF.out.2.2.2.2 i hlt).2
          rw [← hmk] at hr1 hr2
          rw [E1.out, ← HK1.out] at hr2
          obtain ⟨b2, o2, ha2, hc2⟩ := hr2.addr
          have s2 := hc2 k (by rw [List.length_replicate]; omega)
          rw [getD_rep _ _ _ hkl] at s2
          have ea2 := (ha2 (by rw [List.length_replicate]; omega)).1
          subst ea2
          clear hmk hr2 ha2 hc2
          by_cases hkL : k < L i
          · obtain ⟨b1, o1, ha1, hc1⟩ := hr1.addr
            have s1 := hc1 k (by rw [List.length_replicate]; omega)
            rw [getD_rep _ _ _ hkL] at s1
            have ea1 := (ha1 (by rw [List.length_replicate]; omega)).1
            rw [ea1] at q0
            clear hr1 ha1 hc1 ea1
            have hg1 : decide ((k : Int) < (L i : Int)) = true := by simp; omega
            go_wp2
            go_quiet ((go_at_call 173; exact Calls.quiet_of_same (kJ _)))
            go_wp2
            go_roundg (K1 - (k + 1))
            case measure => omega
            case rel => exact ⟨k + 1, by omega, by simp, Lib.hid (HF.out.drewN _), Lib.hid (show HBox _ _ _ _ _ from HB.out)⟩
          · have hg1 : decide ((k : Int) < (L i : Int)) = false := by simp; omega
            clear hr1
            go_wp2
            go_quiet ((go_at_call 173; exact Calls.quiet_of_same (kJ _)))
            go_wp2
            go_roundg (K1 - (k + 1))
            case measure => omega
            case rel => exact ⟨k + 1, by omega, by simp, Lib.hid (HF.out.drewN _), Lib.hid (show HBox _ _ _ _ _ from HB.out)⟩
        · obtain rfl : k = K1 := by omega
          go_wp2
          go_roundg (N - (i + 1))
          case measure => omega
          case rel => exact ⟨i + 1, by omega, by simp, HF⟩
    · obtain rfl : i = N := by omega
      go_wp2
      go_ret
      exact ⟨rfl, HK.out⟩

end Go.Proofs.YtimdinmhphihkaaGreatDoor

namespace Go.Proofs.YtimdinmhphihkaaGreatDoor
open Go Go.Proofs Go.RowKit Go.Shelf Nu

attribute [local go_sem] Oper.semAt_some

section
variable {W : World} {B n : Nat} {v : Value}
set_option maxHeartbeats 400000 in
theorem bk_fillByte (h : BookAt W B n v) : Calls Tryz.prog 73 #[.pointer (some ⟨B, 0, none⟩)] W fun e w' => e = .returned (.tuple #[]) ∧ W = w' := by
  have r1 := h.cell 1 (.slice none 0 0) rfl
  have r2 := h.lt
  clear h
  go_enter Tryz.func73, Tryz.ntmps73
  go_wp2
  go_loop [2] (fun s => s = .int .i64 0) (fun _ => 0)
  case atStart => rfl
  case round =>
    subst hrel
    go_wp2
    go_end0
    exact ⟨rfl, rfl⟩
set_option maxHeartbeats 400000 in
theorem bk_growByte (h : BookAt W B n v) : Calls Tryz.prog 85 #[.pointer (some ⟨B, 0, none⟩)] W fun e w' => e = .returned (.tuple #[]) ∧ W = w' := by
  have r1 := h.cell 1 (.slice none 0 0) rfl
  have r2 := h.lt
  clear h
  go_enter Tryz.func85, Tryz.ntmps85
  go_wp2
  go_loop [2] (fun s => s = .int .i64 0) (fun _ => 0)
  case atStart => rfl
  case round =>
    subst hrel
    go_wp2
    go_end0
    exact ⟨rfl, rfl⟩
set_option maxHeartbeats 400000 in
theorem bk_lookByte (h : BookAt W B n v) : Calls Tryz.prog 97 #[.pointer (some ⟨B, 0, none⟩)] W fun e w' => e = .returned (.bool true) ∧ W = w' := by
  have r1 := h.cell 1 (.slice none 0 0) rfl
  have r2 := h.lt
  clear h
  go_enter Tryz.func97, Tryz.ntmps97
  go_wp2
  go_loop [3] (fun s => s = .int .i64 0) (fun _ => 0)
  case atStart => rfl
  case round =>
    subst hrel
    go_wp2
    go_ret
    exact ⟨rfl, rfl⟩
set_option maxHeartbeats 400000 in
theorem bk_fillNum (h : BookAt W B n v) : Calls Tryz.prog 75 #[.pointer (some ⟨B, 0, none⟩)] W fun e w' => e = .returned (.tuple #[]) ∧ W = w' := by
  have r1 := h.cell 3 (.slice none 0 0) rfl
  have r2 := h.lt
  clear h
  go_enter Tryz.func75, Tryz.ntmps75
  go_wp2
  go_loop [2] (fun s => s = .int .i64 0) (fun _ => 0)
  case atStart => rfl
  case round =>
    subst hrel
    go_wp2
    go_end0
    exact ⟨rfl, rfl⟩
set_option maxHeartbeats 400000 in
theorem bk_growNum (h : BookAt W B n v) : Calls Tryz.prog 87 #[.pointer (some ⟨B, 0, none⟩)] W fun e w' => e = .returned (.tuple #[]) ∧ W = w' := by
  have r1 := h.cell 3 (.slice none 0 0) rfl
  have r2 := h.lt
  clear h
  go_enter Tryz.func87, Tryz.ntmps87
  go_wp2
  go_loop [2] (fun s => s = .int .i64 0) (fun _ => 0)
  case atStart => rfl
  case round =>
    subst hrel
    go_wp2
    go_end0
    exact ⟨rfl, rfl⟩
set_option maxHeartbeats 400000 in
theorem bk_lookNum (h : BookAt W B n v) : Calls Tryz.prog 99 #[.pointer (some ⟨B, 0, none⟩)] W fun e w' => e = .returned (.bool true) ∧ W = w' := by
  have r1 := h.cell 3 (.slice none 0 0) rfl
  have r2 := h.lt
  clear h
  go_enter Tryz.func99, Tryz.ntmps99
  go_wp2
  go_loop [3] (fun s => s = .int .i64 0) (fun _ => 0)
  case atStart => rfl
  case round =>
    subst hrel
    go_wp2
    go_ret
    exact ⟨rfl, rfl⟩
set_option maxHeartbeats 400000 in
theorem bk_fillBool (h : BookAt W B n v) : Calls Tryz.prog 76 #[.pointer (some ⟨B, 0, none⟩)] W fun e w' => e = .returned (.tuple #[]) ∧ W = w' := by
  have r1 := h.cell 4 (.slice none 0 0) rfl
  have r2 := h.lt
  clear h
  go_enter Tryz.func76, Tryz.ntmps76
  go_wp2
  go_loop [2] (fun s => s = .int .i64 0) (fun _ => 0)
  case atStart => rfl
  case round =>
    subst hrel
    go_wp2
    go_end0
    exact ⟨rfl, rfl⟩
set_option maxHeartbeats 400000 in
theorem bk_growBool (h : BookAt W B n v) : Calls Tryz.prog 88 #[.pointer (some ⟨B, 0, none⟩)] W fun e w' => e = .returned (.tuple #[]) ∧ W = w' := by
  have r1 := h.cell 4 (.slice none 0 0) rfl
  have r2 := h.lt
  clear h
  go_enter Tryz.func88, Tryz.ntmps88
  go_wp2
  go_loop [2] (fun s => s = .int .i64 0) (fun _ => 0)
  case atStart => rfl
  case round =>
    subst hrel
    go_wp2
    go_end0
    exact ⟨rfl, rfl⟩
set_option maxHeartbeats 400000 in
theorem bk_lookBool (h : BookAt W B n v) : Calls Tryz.prog 100 #[.pointer (some ⟨B, 0, none⟩)] W fun e w' => e = .returned (.bool true) ∧ W = w' := by
  have r1 := h.cell 4 (.slice none 0 0) rfl
  have r2 := h.lt
  clear h
  go_enter Tryz.func100, Tryz.ntmps100
  go_wp2
  go_loop [3] (fun s => s = .int .i64 0) (fun _ => 0)
  case atStart => rfl
  case round =>
    subst hrel
    go_wp2
    go_ret
    exact ⟨rfl, rfl⟩
set_option maxHeartbeats 400000 in
theorem bk_fillText (h : BookAt W B n v) : Calls Tryz.prog 77 #[.pointer (some ⟨B, 0, none⟩)] W fun e w' => e = .returned (.tuple #[]) ∧ W = w' := by
  have r1 := h.cell 5 (.slice none 0 0) rfl
  have r2 := h.lt
  clear h
  go_enter Tryz.func77, Tryz.ntmps77
  go_wp2
  go_loop [2] (fun s => s = .int .i64 0) (fun _ => 0)
  case atStart => rfl
  case round =>
    subst hrel
    go_wp2
    go_end0
    exact ⟨rfl, rfl⟩
set_option maxHeartbeats 400000 in
theorem bk_growText (h : BookAt W B n v) : Calls Tryz.prog 89 #[.pointer (some ⟨B, 0, none⟩)] W fun e w' => e = .returned (.tuple #[]) ∧ W = w' := by
  have r1 := h.cell 5 (.slice none 0 0) rfl
  have r2 := h.lt
  clear h
  go_enter Tryz.func89, Tryz.ntmps89
  go_wp2
  go_loop [2] (fun s => s = .int .i64 0) (fun _ => 0)
  case atStart => rfl
  case round =>
    subst hrel
    go_wp2
    go_end0
    exact ⟨rfl, rfl⟩
set_option maxHeartbeats 400000 in
theorem bk_lookText (h : BookAt W B n v) : Calls Tryz.prog 101 #[.pointer (some ⟨B, 0, none⟩)] W fun e w' => e = .returned (.bool true) ∧ W = w' := by
  have r1 := h.cell 5 (.slice none 0 0) rfl
  have r2 := h.lt
  clear h
  go_enter Tryz.func101, Tryz.ntmps101
  go_wp2
  go_loop [3] (fun s => s = .int .i64 0) (fun _ => 0)
  case atStart => rfl
  case round =>
    subst hrel
    go_wp2
    go_ret
    exact ⟨rfl, rfl⟩
set_option maxHeartbeats 400000 in
theorem bk_fillToken (h : BookAt W B n v) : Calls Tryz.prog 78 #[.pointer (some ⟨B, 0, none⟩)] W fun e w' => e = .returned (.tuple #[]) ∧ W = w' := by
  have r1 := h.cell 6 (.slice none 0 0) rfl
  have r2 := h.lt
  clear h
  go_enter Tryz.func78, Tryz.ntmps78
  go_wp2
  go_loop [2] (fun s => s = .int .i64 0) (fun _ => 0)
  case atStart => rfl
  case round =>
    subst hrel
    go_wp2
    go_end0
    exact ⟨rfl, rfl⟩
set_option maxHeartbeats 400000 in
theorem bk_growToken (h : BookAt W B n v) : Calls Tryz.prog 90 #[.pointer (some ⟨B, 0, none⟩)] W fun e w' => e = .returned (.tuple #[]) ∧ W = w' := by
  have r1 := h.cell 6 (.slice none 0 0) rfl
  have r2 := h.lt
  clear h
  go_enter Tryz.func90, Tryz.ntmps90
  go_wp2
  go_loop [2] (fun s => s = .int .i64 0) (fun _ => 0)
  case atStart => rfl
  case round =>
    subst hrel
    go_wp2
    go_end0
    exact ⟨rfl, rfl⟩
set_option maxHeartbeats 400000 in
theorem bk_lookToken (h : BookAt W B n v) : Calls Tryz.prog 102 #[.pointer (some ⟨B, 0, none⟩)] W fun e w' => e = .returned (.bool true) ∧ W = w' := by
  have r1 := h.cell 6 (.slice none 0 0) rfl
  have r2 := h.lt
  clear h
  go_enter Tryz.func102, Tryz.ntmps102
  go_wp2
  go_loop [3] (fun s => s = .int .i64 0) (fun _ => 0)
  case atStart => rfl
  case round =>
    subst hrel
    go_wp2
    go_ret
    exact ⟨rfl, rfl⟩
set_option maxHeartbeats 400000 in
theorem bk_fillTenant (h : BookAt W B n v) : Calls Tryz.prog 79 #[.pointer (some ⟨B, 0, none⟩)] W fun e w' => e = .returned (.tuple #[]) ∧ W = w' := by
  have r1 := h.cell 7 (.slice none 0 0) rfl
  have r2 := h.lt
  clear h
  go_enter Tryz.func79, Tryz.ntmps79
  go_wp2
  go_loop [2] (fun s => s = .int .i64 0) (fun _ => 0)
  case atStart => rfl
  case round =>
    subst hrel
    go_wp2
    go_end0
    exact ⟨rfl, rfl⟩
set_option maxHeartbeats 400000 in
theorem bk_growTenant (h : BookAt W B n v) : Calls Tryz.prog 91 #[.pointer (some ⟨B, 0, none⟩)] W fun e w' => e = .returned (.tuple #[]) ∧ W = w' := by
  have r1 := h.cell 7 (.slice none 0 0) rfl
  have r2 := h.lt
  clear h
  go_enter Tryz.func91, Tryz.ntmps91
  go_wp2
  go_loop [2] (fun s => s = .int .i64 0) (fun _ => 0)
  case atStart => rfl
  case round =>
    subst hrel
    go_wp2
    go_end0
    exact ⟨rfl, rfl⟩
set_option maxHeartbeats 400000 in
theorem bk_lookTenant (h : BookAt W B n v) : Calls Tryz.prog 103 #[.pointer (some ⟨B, 0, none⟩)] W fun e w' => e = .returned (.bool true) ∧ W = w' := by
  have r1 := h.cell 7 (.slice none 0 0) rfl
  have r2 := h.lt
  clear h
  go_enter Tryz.func103, Tryz.ntmps103
  go_wp2
  go_loop [3] (fun s => s = .int .i64 0) (fun _ => 0)
  case atStart => rfl
  case round =>
    subst hrel
    go_wp2
    go_ret
    exact ⟨rfl, rfl⟩
set_option maxHeartbeats 400000 in
theorem bk_fillRat (h : BookAt W B n v) : Calls Tryz.prog 80 #[.pointer (some ⟨B, 0, none⟩)] W fun e w' => e = .returned (.tuple #[]) ∧ W = w' := by
  have r1 := h.cell 8 (.slice none 0 0) rfl
  have r2 := h.lt
  clear h
  go_enter Tryz.func80, Tryz.ntmps80
  go_wp2
  go_loop [2] (fun s => s = .int .i64 0) (fun _ => 0)
  case atStart => rfl
  case round =>
    subst hrel
    go_wp2
    go_end0
    exact ⟨rfl, rfl⟩
set_option maxHeartbeats 400000 in
theorem bk_growRat (h : BookAt W B n v) : Calls Tryz.prog 92 #[.pointer (some ⟨B, 0, none⟩)] W fun e w' => e = .returned (.tuple #[]) ∧ W = w' := by
  have r1 := h.cell 8 (.slice none 0 0) rfl
  have r2 := h.lt
  clear h
  go_enter Tryz.func92, Tryz.ntmps92
  go_wp2
  go_loop [2] (fun s => s = .int .i64 0) (fun _ => 0)
  case atStart => rfl
  case round =>
    subst hrel
    go_wp2
    go_end0
    exact ⟨rfl, rfl⟩
set_option maxHeartbeats 400000 in
theorem bk_lookRat (h : BookAt W B n v) : Calls Tryz.prog 104 #[.pointer (some ⟨B, 0, none⟩)] W fun e w' => e = .returned (.bool true) ∧ W = w' := by
  have r1 := h.cell 8 (.slice none 0 0) rfl
  have r2 := h.lt
  clear h
  go_enter Tryz.func104, Tryz.ntmps104
  go_wp2
  go_loop [3] (fun s => s = .int .i64 0) (fun _ => 0)
  case atStart => rfl
  case round =>
    subst hrel
    go_wp2
    go_ret
    exact ⟨rfl, rfl⟩
set_option maxHeartbeats 400000 in
theorem bk_fillVar (h : BookAt W B n v) : Calls Tryz.prog 81 #[.pointer (some ⟨B, 0, none⟩)] W fun e w' => e = .returned (.tuple #[]) ∧ W = w' := by
  have r1 := h.cell 9 (.slice none 0 0) rfl
  have r2 := h.lt
  clear h
  go_enter Tryz.func81, Tryz.ntmps81
  go_wp2
  go_loop [2] (fun s => s = .int .i64 0) (fun _ => 0)
  case atStart => rfl
  case round =>
    subst hrel
    go_wp2
    go_end0
    exact ⟨rfl, rfl⟩
set_option maxHeartbeats 400000 in
theorem bk_growVar (h : BookAt W B n v) : Calls Tryz.prog 93 #[.pointer (some ⟨B, 0, none⟩)] W fun e w' => e = .returned (.tuple #[]) ∧ W = w' := by
  have r1 := h.cell 9 (.slice none 0 0) rfl
  have r2 := h.lt
  clear h
  go_enter Tryz.func93, Tryz.ntmps93
  go_wp2
  go_loop [2] (fun s => s = .int .i64 0) (fun _ => 0)
  case atStart => rfl
  case round =>
    subst hrel
    go_wp2
    go_end0
    exact ⟨rfl, rfl⟩
set_option maxHeartbeats 400000 in
theorem bk_lookVar (h : BookAt W B n v) : Calls Tryz.prog 105 #[.pointer (some ⟨B, 0, none⟩)] W fun e w' => e = .returned (.bool true) ∧ W = w' := by
  have r1 := h.cell 9 (.slice none 0 0) rfl
  have r2 := h.lt
  clear h
  go_enter Tryz.func105, Tryz.ntmps105
  go_wp2
  go_loop [3] (fun s => s = .int .i64 0) (fun _ => 0)
  case atStart => rfl
  case round =>
    subst hrel
    go_wp2
    go_ret
    exact ⟨rfl, rfl⟩
set_option maxHeartbeats 400000 in
theorem bk_fillRow (h : BookAt W B n v) : Calls Tryz.prog 82 #[.pointer (some ⟨B, 0, none⟩)] W fun e w' => e = .returned (.tuple #[]) ∧ W = w' := by
  have r1 := h.cell 10 (.slice none 0 0) rfl
  have r2 := h.lt
  clear h
  go_enter Tryz.func82, Tryz.ntmps82
  go_wp2
  go_loop [2] (fun s => s = .int .i64 0) (fun _ => 0)
  case atStart => rfl
  case round =>
    subst hrel
    go_wp2
    go_end0
    exact ⟨rfl, rfl⟩
set_option maxHeartbeats 400000 in
theorem bk_growRow (h : BookAt W B n v) : Calls Tryz.prog 94 #[.pointer (some ⟨B, 0, none⟩)] W fun e w' => e = .returned (.tuple #[]) ∧ W = w' := by
  have r1 := h.cell 10 (.slice none 0 0) rfl
  have r2 := h.lt
  clear h
  go_enter Tryz.func94, Tryz.ntmps94
  go_wp2
  go_loop [2] (fun s => s = .int .i64 0) (fun _ => 0)
  case atStart => rfl
  case round =>
    subst hrel
    go_wp2
    go_end0
    exact ⟨rfl, rfl⟩
set_option maxHeartbeats 400000 in
theorem bk_lookRow (h : BookAt W B n v) : Calls Tryz.prog 106 #[.pointer (some ⟨B, 0, none⟩)] W fun e w' => e = .returned (.bool true) ∧ W = w' := by
  have r1 := h.cell 10 (.slice none 0 0) rfl
  have r2 := h.lt
  clear h
  go_enter Tryz.func106, Tryz.ntmps106
  go_wp2
  go_loop [3] (fun s => s = .int .i64 0) (fun _ => 0)
  case atStart => rfl
  case round =>
    subst hrel
    go_wp2
    go_ret
    exact ⟨rfl, rfl⟩
set_option maxHeartbeats 400000 in
theorem bk_fillNode (h : BookAt W B n v) : Calls Tryz.prog 83 #[.pointer (some ⟨B, 0, none⟩)] W fun e w' => e = .returned (.tuple #[]) ∧ W = w' := by
  have r1 := h.cell 11 (.slice none 0 0) rfl
  have r2 := h.lt
  clear h
  go_enter Tryz.func83, Tryz.ntmps83
  go_wp2
  go_loop [2] (fun s => s = .int .i64 0) (fun _ => 0)
  case atStart => rfl
  case round =>
    subst hrel
    go_wp2
    go_end0
    exact ⟨rfl, rfl⟩
set_option maxHeartbeats 400000 in
theorem bk_growNode (h : BookAt W B n v) : Calls Tryz.prog 95 #[.pointer (some ⟨B, 0, none⟩)] W fun e w' => e = .returned (.tuple #[]) ∧ W = w' := by
  have r1 := h.cell 11 (.slice none 0 0) rfl
  have r2 := h.lt
  clear h
  go_enter Tryz.func95, Tryz.ntmps95
  go_wp2
  go_loop [2] (fun s => s = .int .i64 0) (fun _ => 0)
  case atStart => rfl
  case round =>
    subst hrel
    go_wp2
    go_end0
    exact ⟨rfl, rfl⟩
set_option maxHeartbeats 400000 in
theorem bk_lookNode (h : BookAt W B n v) : Calls Tryz.prog 107 #[.pointer (some ⟨B, 0, none⟩)] W fun e w' => e = .returned (.bool true) ∧ W = w' := by
  have r1 := h.cell 11 (.slice none 0 0) rfl
  have r2 := h.lt
  clear h
  go_enter Tryz.func107, Tryz.ntmps107
  go_wp2
  go_loop [3] (fun s => s = .int .i64 0) (fun _ => 0)
  case atStart => rfl
  case round =>
    subst hrel
    go_wp2
    go_ret
    exact ⟨rfl, rfl⟩
set_option maxHeartbeats 400000 in
theorem bk_fillJob (h : BookAt W B n v) : Calls Tryz.prog 84 #[.pointer (some ⟨B, 0, none⟩)] W fun e w' => e = .returned (.tuple #[]) ∧ W = w' := by
  have r1 := h.cell 12 (.slice none 0 0) rfl
  have r2 := h.lt
  clear h
  go_enter Tryz.func84, Tryz.ntmps84
  go_wp2
  go_loop [2] (fun s => s = .int .i64 0) (fun _ => 0)
  case atStart => rfl
  case round =>
    subst hrel
    go_wp2
    go_end0
    exact ⟨rfl, rfl⟩
set_option maxHeartbeats 400000 in
theorem bk_growJob (h : BookAt W B n v) : Calls Tryz.prog 96 #[.pointer (some ⟨B, 0, none⟩)] W fun e w' => e = .returned (.tuple #[]) ∧ W = w' := by
  have r1 := h.cell 12 (.slice none 0 0) rfl
  have r2 := h.lt
  clear h
  go_enter Tryz.func96, Tryz.ntmps96
  go_wp2
  go_loop [2] (fun s => s = .int .i64 0) (fun _ => 0)
  case atStart => rfl
  case round =>
    subst hrel
    go_wp2
    go_end0
    exact ⟨rfl, rfl⟩
set_option maxHeartbeats 400000 in
theorem bk_lookJob (h : BookAt W B n v) : Calls Tryz.prog 108 #[.pointer (some ⟨B, 0, none⟩)] W fun e w' => e = .returned (.bool true) ∧ W = w' := by
  have r1 := h.cell 12 (.slice none 0 0) rfl
  have r2 := h.lt
  clear h
  go_enter Tryz.func108, Tryz.ntmps108
  go_wp2
  go_loop [3] (fun s => s = .int .i64 0) (fun _ => 0)
  case atStart => rfl
  case round =>
    subst hrel
    go_wp2
    go_ret
    exact ⟨rfl, rfl⟩
end

end Go.Proofs.YtimdinmhphihkaaGreatDoor

namespace Go.Proofs.YtimdinmhphihkaaGreatDoor
open Go Go.Proofs Go.RowKit Go.Shelf Nu

attribute [local go_sem] Oper.semAt_some

set_option maxRecDepth 100000 in
set_option maxHeartbeats 2000000 in
theorem apart_at {w W : World} {base B h n N cap : Nat} {A : Nat → Option Addr} {L C M : Nat → Nat} (D : Lies base B h N A L C M) (hN : N ≤ cap) (F : FillK w base B h n N cap A L C M 0 0 W) (hh : h < W.heap.size) :
    Calls Tryz.prog 23 #[.pointer (some ⟨B, 0, none⟩)] W fun e w' => e = .returned (.bool true) ∧ Below base w w' := by
  have hD := Lib.hid D
  have hF := Lib.hid F
  have b0 := Lib.hid F.1
  have hFo := Lib.hid F.forms
  have HH := Lib.hid hh
  clear D F hh
  go_enter Tryz.func23, Tryz.ntmps23
  go_wp2_with (go_loud (first
    | (go_at_call 73; refine (bk_fillByte b0.out).mono ?_; rintro e w' ⟨rfl, rfl⟩)
    | (go_at_call 74; refine (fill_any hD.out hN hF.out).mono ?_; rintro e w1 ⟨rfl, q1⟩; have hF1 := Lib.hid q1; have b1 := Lib.hid q1.1; have G1 := Lib.hid (GrowO.start q1); have H1 := Lib.hid q1.2.1.lt; clear q1 hF hFo; have hFo := Lib.hid hF1.out.forms)
    | (go_at_call 75; refine (bk_fillNum b1.out).mono ?_; rintro e w' ⟨rfl, rfl⟩)
    | (go_at_call 76; refine (bk_fillBool b1.out).mono ?_; rintro e w' ⟨rfl, rfl⟩)
    | (go_at_call 77; refine (bk_fillText b1.out).mono ?_; rintro e w' ⟨rfl, rfl⟩)
    | (go_at_call 78; refine (bk_fillToken b1.out).mono ?_; rintro e w' ⟨rfl, rfl⟩)
    | (go_at_call 79; refine (bk_fillTenant b1.out).mono ?_; rintro e w' ⟨rfl, rfl⟩)
    | (go_at_call 80; refine (bk_fillRat b1.out).mono ?_; rintro e w' ⟨rfl, rfl⟩)
    | (go_at_call 81; refine (bk_fillVar b1.out).mono ?_; rintro e w' ⟨rfl, rfl⟩)
    | (go_at_call 82; refine (bk_fillRow b1.out).mono ?_; rintro e w' ⟨rfl, rfl⟩)
    | (go_at_call 83; refine (bk_fillNode b1.out).mono ?_; rintro e w' ⟨rfl, rfl⟩)
    | (go_at_call 84; refine (bk_fillJob b1.out).mono ?_; rintro e w' ⟨rfl, rfl⟩)
    | (go_at_call 85; refine (bk_growByte b1.out).mono ?_; rintro e w' ⟨rfl, rfl⟩)
    | (go_at_call 86; refine (grow_any hD.out hFo.out hN H1.out G1.out).mono ?_; rintro e w2 ⟨rfl, q2⟩; have q3 := LookO.of hD.out q2; clear q2; obtain ⟨G, q3⟩ := q3; have L2 := Lib.hid q3; have b2 := Lib.hid q3.1; clear q3)
    | (go_at_call 87; refine (bk_growNum b2.out).mono ?_; rintro e w' ⟨rfl, rfl⟩)
    | (go_at_call 88; refine (bk_growBool b2.out).mono ?_; rintro e w' ⟨rfl, rfl⟩)
    | (go_at_call 89; refine (bk_growText b2.out).mono ?_; rintro e w' ⟨rfl, rfl⟩)
    | (go_at_call 90; refine (bk_growToken b2.out).mono ?_; rintro e w' ⟨rfl, rfl⟩)
    | (go_at_call 91; refine (bk_growTenant b2.out).mono ?_; rintro e w' ⟨rfl, rfl⟩)
    | (go_at_call 92; refine (bk_growRat b2.out).mono ?_; rintro e w' ⟨rfl, rfl⟩)
    | (go_at_call 93; refine (bk_growVar b2.out).mono ?_; rintro e w' ⟨rfl, rfl⟩)
    | (go_at_call 94; refine (bk_growRow b2.out).mono ?_; rintro e w' ⟨rfl, rfl⟩)
    | (go_at_call 95; refine (bk_growNode b2.out).mono ?_; rintro e w' ⟨rfl, rfl⟩)
    | (go_at_call 96; refine (bk_growJob b2.out).mono ?_; rintro e w' ⟨rfl, rfl⟩)
    | (go_at_call 97; refine (bk_lookByte b2.out).mono ?_; rintro e w' ⟨rfl, rfl⟩)
    | (go_at_call 98; refine (look_any hD.out hN L2.out).mono ?_; rintro e w3 ⟨rfl, q4⟩; have L3 := Lib.hid q4; have b3 := Lib.hid q4.1; clear q4)
    | (go_at_call 99; refine (bk_lookNum b3.out).mono ?_; rintro e w' ⟨rfl, rfl⟩)
    | (go_at_call 100; refine (bk_lookBool b3.out).mono ?_; rintro e w' ⟨rfl, rfl⟩)
    | (go_at_call 101; refine (bk_lookText b3.out).mono ?_; rintro e w' ⟨rfl, rfl⟩)
    | (go_at_call 102; refine (bk_lookToken b3.out).mono ?_; rintro e w' ⟨rfl, rfl⟩)
    | (go_at_call 103; refine (bk_lookTenant b3.out).mono ?_; rintro e w' ⟨rfl, rfl⟩)
    | (go_at_call 104; refine (bk_lookRat b3.out).mono ?_; rintro e w' ⟨rfl, rfl⟩)
    | (go_at_call 105; refine (bk_lookVar b3.out).mono ?_; rintro e w' ⟨rfl, rfl⟩)
    | (go_at_call 106; refine (bk_lookRow b3.out).mono ?_; rintro e w' ⟨rfl, rfl⟩)
    | (go_at_call 107; refine (bk_lookNode b3.out).mono ?_; rintro e w' ⟨rfl, rfl⟩)
    | (go_at_call 108; refine (bk_lookJob b3.out).mono ?_; rintro e w' ⟨rfl, rfl⟩)))
  go_ret
  exact ⟨rfl, L3.out.2.2.1⟩

/-- what the call answers of a book that was told of lists that lie apart -/
theorem apart_any {w W : World} {base B n : Nat} {hv : Value} {es : List (Value × Nat)} (hB : BookAt W B n hv) (hr : HRow W (B + 1) hv es) (hne : es ≠ []) (hl : es.length ≤ 100000) (hb : base ≤ B) (hw : Below base w W)
    (hn : ∀ e ∈ es, e.2 ≤ 1000000) (hown : ∀ e ∈ es, ∃ l : List Nat, l.length ≤ 100000 ∧ Fresh W base e.1 l ∧ ∀ g, e.1.ownBlock = some g → g < B)
    (hdis : es.Pairwise fun x y => x.1.ownBlock = none ∨ x.1.ownBlock ≠ y.1.ownBlock) :
    Calls Tryz.prog 23 #[.pointer (some ⟨B, 0, none⟩)] W fun e w' => e = .returned (.bool true) ∧ Below base w w' := by
  obtain ⟨h, cap, rfl, hBh, hcap, hat⟩ := hr.at hne
  let V : Nat → Value := fun j => (es.getD j (.slice none 0 0, 0)).1
  let M : Nat → Nat := fun j => (es.getD j (.slice none 0 0, 0)).2
  have hget : ∀ j (hj : j < es.length), es.getD j (.slice none 0 0, 0) = es[j] := fun j hj => by rw [List.getD_eq_getElem?_getD, List.getElem?_eq_getElem hj]; rfl
  have key : ∀ j, ∃ x : Option Addr × Nat × Nat, j < es.length → ∃ l : List Nat, V j = .slice x.1 x.2.1 x.2.2 ∧ l.length = x.2.1 ∧ x.2.1 ≤ 100000 ∧ Fresh W base (V j) l ∧ ∀ g, (V j).ownBlock = some g → g < B := by
    intro j
    by_cases hj : j < es.length
    · obtain ⟨l, h1, h2, h3⟩ := hown es[j] (List.getElem_mem hj)
      have e : V j = es[j].1 := by show (es.getD j _).1 = _; rw [hget j hj]
      obtain ⟨a, c, hf⟩ := h2.reads.form
      exact ⟨(a, l.length, c), fun _ => ⟨l, by rw [e]; exact hf, rfl, h1, by rw [e]; exact h2, by rw [e]; exact h3⟩⟩
    · exact ⟨(none, 0, 0), fun h => absurd h hj⟩
  obtain ⟨f, hf⟩ := Classical.axiomOfChoice key
  have hV : ∀ j, j < es.length → V j = .slice (f j).1 (f j).2.1 (f j).2.2 := fun j hj => (hf j hj).elim fun _ h => h.1
  have hsym : ∀ j k, j < es.length → k < es.length → j ≠ k → (V j).ownBlock = none ∨ (V j).ownBlock ≠ (V k).ownBlock := by
    intro j k hj hk hjk
    have e1 : V j = es[j].1 := by show (es.getD j _).1 = _; rw [hget j hj]
    have e2 : V k = es[k].1 := by show (es.getD k _).1 = _; rw [hget k hk]
    rw [e1, e2]
    rcases Nat.lt_or_gt_of_ne hjk with h1 | h1
    · exact List.pairwise_iff_getElem.1 hdis j k hj hk h1
    · have := List.pairwise_iff_getElem.1 hdis k j hk hj h1
      cases h2 : es[j].1.ownBlock with
      | none => exact .inl rfl
      | some g =>
        refine .inr (fun e3 => ?_)
        rcases this with h3 | h3
        · rw [h3] at e3; cases e3
        · rw [h2] at h3; exact h3 e3.symm
  refine apart_at (A := fun j => (f j).1) (L := fun j => (f j).2.1) (C := fun j => (f j).2.2) (M := M) (h := h) (n := n) (N := es.length) (cap := cap) ⟨hb, hBh, fun j g hj e => ?_, fun j k hj hk hjk => ?_, fun j hj => ?_, fun j hj => ?_, hl⟩ hcap ⟨hB, ⟨hat.1, fun j hj => ?_⟩, hw, fun j hj => ?_⟩ hat.lt
  · obtain ⟨l, _, _, _, _, h3⟩ := hf j hj
    exact h3 g (by rw [hV j hj]; exact e)
  · have := hsym j k hj hk hjk
    rwa [hV j hj, hV k hk] at this
  · obtain ⟨l, _, _, h2, _⟩ := hf j hj; exact h2
  · show (es.getD j _).2 ≤ _
    rw [hget j hj]
    exact hn _ (List.getElem_mem hj)
  · have := hat.2 j hj
    refine ⟨this.1.trans ?_, this.2⟩
    show some (V j) = _
    rw [hV j hj]
  · obtain ⟨l, _, h1, _, h2, _⟩ := hf j hj
    rw [hV j hj] at h2
    exact ⟨l, h1, h2, fun h => absurd h (Nat.not_lt_zero _), fun _ => rfl⟩

end Go.Proofs.YtimdinmhphihkaaGreatDoor

namespace Go.Proofs.YtimdinmhphihkaaGreatDoor
open Go Go.Proofs Go.RowKit Go.Shelf Nu

attribute [local go_sem] Oper.semAt_some

/-- a copy of l, with a mark behind -/
def Tw (W : World) (base g cap : Nat) (l : List Nat) : Prop := Fresh W base (.slice (some ⟨g, 0, none⟩) (l.length + 1) cap) (l ++ [77])
theorem Fresh.front {W : World} {base g cap n : Nat} {l m : List Nat} (h : Fresh W base (.slice (some ⟨g, 0, none⟩) n cap) (l ++ m)) : Fresh W base (.slice (some ⟨g, 0, none⟩) l.length cap) l := by
  refine ⟨by simp, .inr ?_⟩
  rcases h.2 with ⟨h1, _⟩ | ⟨g', cap', cur, e1, hb, hg, hn, hc, hs, ht⟩
  · cases h1
  · simp only [Value.slice.injEq, Option.some.injEq, Addr.mk.injEq, and_true] at e1
    obtain ⟨rfl, _, rfl⟩ := e1
    refine ⟨g, cap, cur, rfl, hb, hg, by simp at hn; omega, hc, hs, ?_⟩
    rw [Nat.mul_one] at ht ⊢
    have := congrArg (List.take l.length) ht
    rw [List.take_take, List.length_append, Nat.min_eq_left (by omega), List.map_append, List.take_append_of_le_length (by simp)] at this
    exact this.trans (List.take_of_length_le (by simp))
section
variable {W W' : World} {base g cp : Nat} {l : List Nat}
theorem Tw.fresh (h : Tw W base g cp l) : Fresh W base (.slice (some ⟨g, 0, none⟩) l.length cp) l := Fresh.front h
theorem Tw.below (h : Tw W base g cp l) (hb : Below W.heap.size W W') : Tw W' base g cp l := Fresh.below h hb
theorem Tw.mono {b' : Nat} (h : Tw W base g cp l) (hb : b' ≤ base) : Tw W b' g cp l := Fresh.mono h hb
theorem Tw.cap (h : Tw W base g cp l) : l.length + 1 ≤ cp := by
  rcases h.form with ⟨e, _⟩ | ⟨g', c, e, _, _, hn, _⟩
  · cases e
  · simp only [Value.slice.injEq] at e
    rw [List.length_append] at hn
    simp at hn
    omega
theorem Tw.lt (h : Tw W base g cp l) : base ≤ g ∧ g < W.heap.size := Fresh.lt' (g := g) h rfl
theorem Tw.cell (h : Tw W base g cp l) (j : Nat) (hj : j < l.length + 1) : W.cell? ⟨g, j, none⟩ = some (.int .u32 ((l ++ [77]).getD j 0 : Nat)) := by
  rcases h.form with ⟨e, _⟩ | ⟨g', c, e, _, _, _, hcc⟩
  · cases e
  · simp only [Value.slice.injEq, Option.some.injEq, Addr.mk.injEq, and_true] at e
    obtain ⟨rfl, _⟩ := e
    have := hcc j (by simp; omega)
    rwa [Nat.zero_add] at this
theorem tw_of {k : Nat} (hF : Fresh W base (.slice (some ⟨g, 0, none⟩) (k + 1) cp) (l ++ [77])) (e : k = l.length) : Tw W base g cp l := by
  subst e; exact hF
end

set_option maxRecDepth 100000 in
set_option maxHeartbeats 4000000 in
theorem twin_own {w : World} {v : Value} {l : List Nat} (h : Reads w v l) (hl : l.length ≤ 100000) :
    Calls Tryz.prog 40 #[v] w fun e w' => ∃ g cap, e = .returned (.slice (some ⟨g, 0, none⟩) l.length cap) ∧ Tw w' w.heap.size g cap l ∧ Below w.heap.size w w' := by
  obtain ⟨i0, hi, hz0, hz1, hz2⟩ := info_parts info_u32
  have h0 := Lib.hid h
  obtain ⟨a, c, rfl⟩ := h.form
  obtain ⟨n, hn⟩ : ∃ n, n = l.length := ⟨_, rfl⟩
  obtain ⟨N1, hN1⟩ : ∃ N1, N1 = n + 1 := ⟨_, rfl⟩
  have hnn : ((n : Int) + 1) = (N1 : Int) := by omega
  have HN := Lib.hid hn
  have HN1 := Lib.hid hN1
  have hn1 : n ≤ 100000 := by omega
  have hN1l : N1 ≤ 100001 := by omega
  rw [← hn]
  clear h hn hN1 hl
  go_enter Tryz.func40, Tryz.ntmps40
  go_wp2_with (at_make; go_loud (refine wpList_make_own _ rfl _ _ 22 rfl w.heap.size 90 i0 (.int .u32 0) 1 Tryz.underlying22 hi hz0 hz1 .i64 .i64 _ N1 rfl rfl (by have := HN1.out; omega) (by rw [hz2]; omega) (by unfold maxLen; omega) (by simp) ?_); intro w1 hown1 hgrow1)
  have hbel1 : Below w.heap.size w w1 := (Below.refl _ _).grown hgrow1 (Nat.le_refl _) (fun _ e => by cases e)
  have hF0 : Fresh w1 w.heap.size (.slice (some ⟨w.heap.size, 0, none⟩) 0 N1) [] := by unfold Fresh; simpa using hown1
  clear hown1 hgrow1
  go_loopw [3, 4] (fun v i wr => ∃ k : Nat, k ≤ n ∧ i = .int .i64 k ∧ Fresh wr w.heap.size v (l.take k) ∧ Below w.heap.size w wr) (fun _ i _ => n - (intOf i).toNat)
  case atStart => exact ⟨0, Nat.zero_le _, rfl, by simpa using hF0, hbel1⟩
  case round =>
    obtain ⟨k, hk, rfl, hrow, hbel⟩ := hrel
    have hbS : w.heap.size ≤ wr.heap.size := hbel.size
    have hlt1 : (l.take k).length = k := by rw [List.length_take]; have := HN.out; omega
    have HL := Lib.hid hlt1
    by_cases hlt : k < n
    · have hR := h0.out.below hbel
      obtain ⟨ba, oa, hba, hca⟩ := hR.addr
      have hkl : k < l.length := by have := HN.out; omega
      have r1 := hca k hkl
      obtain ⟨rfl, _⟩ := hba (by omega)
      obtain ⟨x, hx⟩ : ∃ x, x = l.getD k 0 := ⟨_, rfl⟩
      rw [← hx] at r1
      have HX := Lib.hid hx
      clear hba hca hR hx hlt1 hkl
      go_wp2_with (at_builtin; go_loud (refine wpList_append_own _ rfl _ _ 22 rfl w.heap.size 90 i0 (.int .u32 0) 1 4 Tryz.underlying22 hi hz0 hz1 hz2 rfl (by decide) _ _ _ rfl (World.ownsRow.alloc hrow _) ⟨wr.heap.size, 0, none⟩ 1 1 [_] rfl rfl (one_new _ _ _ _ (by simp)) (by simp [Value.oneCell']) (small_max (by have := HL.out; omega)) (by have := HL.out; omega) (by simp; omega) ?_); intro v' w3 hown' hgrow _; obtain ⟨hF, hKO, hBl, hBx, hNo⟩ := fresh_append x hrow hbS hown' hgrow rfl)
      go_roundw
      case rel =>
        refine ⟨k + 1, by omega, by simp, ?_, hbel.trans hBl⟩
        have hkl : k < l.length := by have := HN.out; omega
        have e : l.take (k + 1) = l.take k ++ [x] := by
          rw [List.take_succ_eq_append_getElem hkl, HX.out, List.getD_eq_getElem?_getD, List.getElem?_eq_getElem hkl]; rfl
        rw [e]; exact hF
      case measure => simp [intOf]; omega
    · obtain rfl : k = n := by omega
      have hl : l.take k = l := List.take_of_length_le (by have := HN.out; omega)
      rw [hl] at hrow
      clear hlt1
      go_wp2_with (at_builtin; go_loud (refine wpList_append_own _ rfl _ _ 22 rfl w.heap.size 90 i0 (.int .u32 0) 1 4 Tryz.underlying22 hi hz0 hz1 hz2 rfl (by decide) _ _ _ rfl (World.ownsRow.alloc hrow _) ⟨wr.heap.size, 0, none⟩ 1 1 [_] rfl rfl (one_new _ _ _ _ (by simp)) (by simp [Value.oneCell']) (small_max (by have := HN.out; omega)) (by have := HN.out; omega) (by simp; omega) ?_); intro v' w3 hown' hgrow _; obtain ⟨hF, hKO, hBl, hBx, hNo⟩ := fresh_append 77 hrow hbS hown' hgrow rfl; obtain ⟨g, cap, rfl⟩ := ownsRow_succ hown'; have hTw := tw_of hF rfl; have hkc : k ≤ cap := (by have := hTw.cap; have := HN.out; omega); have hkc2 : ¬ (cap : Int) < (k : Int) := (by omega))
      go_ret
      exact ⟨g, cap, rfl, hTw, hbel.trans hBl⟩

set_option maxRecDepth 100000 in
set_option maxHeartbeats 2000000 in
theorem left_any {w : World} {base g cap : Nat} {v : Value} {l : List Nat} (hT : Tw w base g cap l) (hR : Reads w v l) (hl : l.length ≤ 100000) :
    Calls Tryz.prog 71 #[.slice (some ⟨g, 0, none⟩) l.length cap, v] w fun e w' => e = .returned (.bool true) ∧ Below w.heap.size w w' := by
  obtain ⟨a, c, rfl⟩ := hR.form
  have HT := Lib.hid hT
  have HR := Lib.hid hR
  obtain ⟨n, hn⟩ : ∃ n, n = l.length := ⟨_, rfl⟩
  have HN := Lib.hid hn
  have hcap : n + 1 ≤ cap := by have := hT.cap; omega
  have hn1 : n ≤ 100000 := by omega
  obtain ⟨N1, hN1⟩ : ∃ N1, N1 = n + 1 := ⟨_, rfl⟩
  have hnn : (n : Int) + 1 = (N1 : Int) := by omega
  have hc1 : ¬ ((cap : Int) ≤ (n : Int)) := by omega
  have hc2 : (N1 : Int) ≤ (cap : Int) := by omega
  have hc3 : (n : Int) < (N1 : Int) := by omega
  have r77 := hT.cell n (by omega)
  have e77 : (l ++ [77] : List Nat).getD n 0 = 77 := by rw [hn, List.getD_eq_getElem?_getD, List.getElem?_append_right (Nat.le_refl _), Nat.sub_self]; rfl
  rw [e77] at r77
  have R77 := Lib.hid r77
  have hb0 := Lib.hid (Below.refl w.heap.size w)
  rw [← hn]
  clear hT hR hn hN1 hl r77
  go_enter Tryz.func71, Tryz.ntmps71
  go_wp2
  go_loopg [5] n (fun gk s wr => ∃ k : Nat, k + gk = n ∧ s = .int .i64 (k : Int) ∧ ∃ q, wr = w.drewN q)
  case atStart => exact ⟨0, by omega, rfl, 0, by rw [World.drewN_zero]⟩
  case round =>
    obtain ⟨k, hk, rfl, q, rfl⟩ := hrel
    by_cases hkn : k < n
    · obtain ⟨b1, o1, ha, hc⟩ := HR.out.addr
      rw [← HN.out] at ha hc
      have r1 := hc k hkn
      have ea := (ha (by omega)).1
      subst ea
      have r2 := HT.out.cell k (by have := HN.out; omega)
      rw [show (l ++ [77] : List Nat).getD k 0 = l.getD k 0 by rw [List.getD_eq_getElem?_getD, List.getD_eq_getElem?_getD, List.getElem?_append_left (by have := HN.out; omega)]] at r2
      obtain ⟨x, hx⟩ : ∃ x, x = l.getD k 0 := ⟨_, rfl⟩
      rw [← hx] at r1 r2
      clear ha hc hx
      go_wp2
      go_quiet (fail)
      go_wp2
      go_roundg (n - (k + 1))
      case measure => omega
      case rel => exact ⟨k + 1, by omega, by simp, _, rfl⟩
    · obtain rfl : k = n := by omega
      have r77 : (w.drewN q).cell? ⟨g, k, none⟩ = some (.int .u32 77) := R77.out
      go_wp2
      go_ret
      exact ⟨rfl, hb0.out.os, hb0.out.tape, hb0.out.output, hb0.out.size, hb0.out.block⟩

end Go.Proofs.YtimdinmhphihkaaGreatDoor

namespace Go.Proofs.YtimdinmhphihkaaGreatDoor
open Go Go.Proofs Go.RowKit Go.Shelf Nu

end Go.Proofs.YtimdinmhphihkaaGreatDoor
