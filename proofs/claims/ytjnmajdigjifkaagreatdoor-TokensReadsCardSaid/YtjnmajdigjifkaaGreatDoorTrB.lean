/- Tokens: the document's signs at any place. -/
import Derived.Test.YtjnmajdigjifkaaGreatDoorTrA
import Derived.BigQuiet
import Derived.Deep.QuietTactic
namespace Go.Proofs.YtjnmajdigjifkaaGreatDoor
open Go Go.Proofs Go.RowKit Go.Shelf
set_option maxRecDepth 100000
/-- the signs, in the document's order -/
def RSG : List (List UInt8) := [[60, 61], [62, 61], [43], [45], [42], [47], [44], [58], [59], [61], [40], [41], [91], [93]]
def rsg (i : Nat) : List UInt8 := RSG.getD i []
theorem rsg_len (i : Nat) (h : i < 14) : (rsg i).length = 1 ∨ (rsg i).length = 2 := by
  obtain rfl | rfl | rfl | rfl | rfl | rfl | rfl | rfl | rfl | rfl | rfl | rfl | rfl | rfl : i = 0 ∨ i = 1 ∨ i = 2 ∨ i = 3 ∨ i = 4 ∨ i = 5 ∨ i = 6 ∨ i = 7 ∨ i = 8 ∨ i = 9 ∨ i = 10 ∨ i = 11 ∨ i = 12 ∨ i = 13 := by omega
  all_goals decide
theorem rsignN_hit (l : List UInt8) (i : Nat) (hi : i < 14) (h : l.take (rsg i).length = rsg i) : Tk.signN l = (rsg i).length := by
  obtain rfl | rfl | rfl | rfl | rfl | rfl | rfl | rfl | rfl | rfl | rfl | rfl | rfl | rfl : i = 0 ∨ i = 1 ∨ i = 2 ∨ i = 3 ∨ i = 4 ∨ i = 5 ∨ i = 6 ∨ i = 7 ∨ i = 8 ∨ i = 9 ∨ i = 10 ∨ i = 11 ∨ i = 12 ∨ i = 13 := by omega
  · have h' : l.take 2 = [60, 61] := h
    match l, h' with
    | c :: d :: t, h' =>
      simp only [List.take_succ_cons, List.take_zero, List.cons.injEq, and_true] at h'
      obtain ⟨rfl, rfl⟩ := h'
      rfl
  · have h' : l.take 2 = [62, 61] := h
    match l, h' with
    | c :: d :: t, h' =>
      simp only [List.take_succ_cons, List.take_zero, List.cons.injEq, and_true] at h'
      obtain ⟨rfl, rfl⟩ := h'
      rfl
  · have h' : l.take 1 = [43] := h
    match l, h' with
    | c :: t, h' =>
      simp only [List.take_succ_cons, List.take_zero, List.cons.injEq, and_true] at h'
      subst h'
      rfl
  · have h' : l.take 1 = [45] := h
    match l, h' with
    | c :: t, h' =>
      simp only [List.take_succ_cons, List.take_zero, List.cons.injEq, and_true] at h'
      subst h'
      rfl
  · have h' : l.take 1 = [42] := h
    match l, h' with
    | c :: t, h' =>
      simp only [List.take_succ_cons, List.take_zero, List.cons.injEq, and_true] at h'
      subst h'
      rfl
  · have h' : l.take 1 = [47] := h
    match l, h' with
    | c :: t, h' =>
      simp only [List.take_succ_cons, List.take_zero, List.cons.injEq, and_true] at h'
      subst h'
      rfl
  · have h' : l.take 1 = [44] := h
    match l, h' with
    | c :: t, h' =>
      simp only [List.take_succ_cons, List.take_zero, List.cons.injEq, and_true] at h'
      subst h'
      rfl
  · have h' : l.take 1 = [58] := h
    match l, h' with
    | c :: t, h' =>
      simp only [List.take_succ_cons, List.take_zero, List.cons.injEq, and_true] at h'
      subst h'
      rfl
  · have h' : l.take 1 = [59] := h
    match l, h' with
    | c :: t, h' =>
      simp only [List.take_succ_cons, List.take_zero, List.cons.injEq, and_true] at h'
      subst h'
      rfl
  · have h' : l.take 1 = [61] := h
    match l, h' with
    | c :: t, h' =>
      simp only [List.take_succ_cons, List.take_zero, List.cons.injEq, and_true] at h'
      subst h'
      rfl
  · have h' : l.take 1 = [40] := h
    match l, h' with
    | c :: t, h' =>
      simp only [List.take_succ_cons, List.take_zero, List.cons.injEq, and_true] at h'
      subst h'
      rfl
  · have h' : l.take 1 = [41] := h
    match l, h' with
    | c :: t, h' =>
      simp only [List.take_succ_cons, List.take_zero, List.cons.injEq, and_true] at h'
      subst h'
      rfl
  · have h' : l.take 1 = [91] := h
    match l, h' with
    | c :: t, h' =>
      simp only [List.take_succ_cons, List.take_zero, List.cons.injEq, and_true] at h'
      subst h'
      rfl
  · have h' : l.take 1 = [93] := h
    match l, h' with
    | c :: t, h' =>
      simp only [List.take_succ_cons, List.take_zero, List.cons.injEq, and_true] at h'
      subst h'
      rfl
theorem rsignN_none (l : List UInt8) (h : ∀ i, i < 14 → l.take (rsg i).length ≠ rsg i) : Tk.signN l = 0 := by
  cases l with
  | nil => rfl
  | cons c t =>
    have h2 := h 0 (by decide)
    have h3 := h 1 (by decide)
    have n43 : c ≠ 43 := fun e => h 2 (by decide) (by subst e; rfl)
    have n45 : c ≠ 45 := fun e => h 3 (by decide) (by subst e; rfl)
    have n42 : c ≠ 42 := fun e => h 4 (by decide) (by subst e; rfl)
    have n47 : c ≠ 47 := fun e => h 5 (by decide) (by subst e; rfl)
    have n44 : c ≠ 44 := fun e => h 6 (by decide) (by subst e; rfl)
    have n58 : c ≠ 58 := fun e => h 7 (by decide) (by subst e; rfl)
    have n59 : c ≠ 59 := fun e => h 8 (by decide) (by subst e; rfl)
    have n61 : c ≠ 61 := fun e => h 9 (by decide) (by subst e; rfl)
    have n40 : c ≠ 40 := fun e => h 10 (by decide) (by subst e; rfl)
    have n41 : c ≠ 41 := fun e => h 11 (by decide) (by subst e; rfl)
    have n91 : c ≠ 91 := fun e => h 12 (by decide) (by subst e; rfl)
    have n93 : c ≠ 93 := fun e => h 13 (by decide) (by subst e; rfl)
    have e2 : ((c == 60 || c == 62) && t.head? == some 61) = false := by
      cases t with
      | nil => simp
      | cons d t =>
        by_cases hd : d = 61
        · subst hd
          have a : c ≠ 60 := fun e => h2 (by subst e; rfl)
          have b : c ≠ 62 := fun e => h3 (by subst e; rfl)
          simp [a, b]
        · simp [hd]
    have e1 : Tk.sign1 c = false := by
      unfold Tk.sign1
      simp only [Bool.or_eq_false_iff, beq_eq_false_iff_ne]
      exact ⟨⟨⟨⟨⟨⟨⟨⟨⟨⟨⟨n43, n45⟩, n42⟩, n47⟩, n44⟩, n58⟩, n59⟩, n61⟩, n40⟩, n41⟩, n91⟩, n93⟩
    simp only [Tk.signN, e2, e1]
    rfl
theorem rsg_at (i : Nat) (h : i < 14) : (#[.string ⟨#[60, 61]⟩, .string ⟨#[62, 61]⟩, .string ⟨#[43]⟩, .string ⟨#[45]⟩, .string ⟨#[42]⟩, .string ⟨#[47]⟩, .string ⟨#[44]⟩, .string ⟨#[58]⟩, .string ⟨#[59]⟩, .string ⟨#[61]⟩, .string ⟨#[40]⟩, .string ⟨#[41]⟩, .string ⟨#[91]⟩, .string ⟨#[93]⟩] : Array Value)[i]? = some (.string ⟨(rsg i).toArray⟩) := by
  obtain rfl | rfl | rfl | rfl | rfl | rfl | rfl | rfl | rfl | rfl | rfl | rfl | rfl | rfl : i = 0 ∨ i = 1 ∨ i = 2 ∨ i = 3 ∨ i = 4 ∨ i = 5 ∨ i = 6 ∨ i = 7 ∨ i = 8 ∨ i = 9 ∨ i = 10 ∨ i = 11 ∨ i = 12 ∨ i = 13 := by omega
  all_goals rfl
theorem rext_drop (s : ByteArray) (k z : Nat) : (s.extract k (k + z)).toList = (s.data.toList.drop k).take z := by
  have := Lib.extract_toList s k (k + z)
  rw [Lib.toList_data] at this
  rw [ByteArray.toList_eq, this]
  simp
theorem rbelow_drew {B : Nat} {w W : World} (h : Below B w W) (n : Nat) : Below B w (W.drewN n) := ⟨h.os, h.tape, h.output, h.size, h.block⟩
set_option maxHeartbeats 8000000 in
theorem rsigns_at (s : ByteArray) (p : Nat) (w : World) (hs : s.size ≤ 200000) (hp : p ≤ s.size) : Calls Tryz.prog 13 #[.string s, .int .i64 (p : Int)] w fun e w' => e = .returned (.int .i64 (Tk.signN (s.data.toList.drop p) : Nat)) ∧ Below w.heap.size w w' := by
  obtain ⟨n, hn⟩ : ∃ n, n = s.size := ⟨_, rfl⟩
  have es : (s.size : Int) = (n : Int) := by omega
  obtain ⟨l, hl⟩ : ∃ l, l = s.data.toList.drop p := ⟨_, rfl⟩
  have hll : l.length = n - p := by rw [hl, List.length_drop, ← size_list, hn]
  have e9 := sub_i64 p n (by omega) (by omega)
  obtain ⟨m, hm⟩ : ∃ m, m = n - p := ⟨_, rfl⟩
  rw [← hm] at e9 hll
  have HL := Lib.hid (show l = s.data.toList.drop p ∧ l.length = m ∧ m = n - p ∧ n ≤ 200000 ∧ p ≤ n ∧ n = s.size from ⟨hl, hll, hm, by omega, by omega, hn⟩)
  rw [← hl]
  clear hl hll hm hs hp hn
  go_enter Tryz.func13, Tryz.ntmps13
  go_wp2
  obtain ⟨g, hg⟩ : ∃ g, g = w.heap.size := ⟨_, rfl⟩
  obtain ⟨W1, hW1⟩ : ∃ W, W = w.alloc (.cells #[.string ⟨#[60, 61]⟩, .string ⟨#[62, 61]⟩, .string ⟨#[43]⟩, .string ⟨#[45]⟩, .string ⟨#[42]⟩, .string ⟨#[47]⟩, .string ⟨#[44]⟩, .string ⟨#[58]⟩, .string ⟨#[59]⟩, .string ⟨#[61]⟩, .string ⟨#[40]⟩, .string ⟨#[41]⟩, .string ⟨#[91]⟩, .string ⟨#[93]⟩] 9) := ⟨_, rfl⟩
  rw [← hW1, ← hg]
  have HW := Lib.hid (show Below w.heap.size w W1 ∧ ∀ i, i < 14 → W1.cell? ⟨g, i, none⟩ = some (.string ⟨(rsg i).toArray⟩) from ⟨by rw [hW1]; exact (Below.refl _ _).alloc (Nat.le_refl _) _, fun i hi => by rw [hW1, hg, World.cell?_alloc_new]; exact rsg_at i hi⟩)
  clear hW1 hg
  have k0 : ((0 : Nat) : Int) = 0 := rfl
  go_loopg [6] 14 (fun gg x wr => ∃ i : Nat, i + gg = 14 ∧ x = .int .i64 (i : Int) ∧ Hid (∀ j, j < i → l.take (rsg j).length ≠ rsg j) ∧ Hid (Below w.heap.size w wr ∧ ∀ i, i < 14 → wr.cell? ⟨g, i, none⟩ = some (.string ⟨(rsg i).toArray⟩)))
  case atStart => exact ⟨0, rfl, rfl, Lib.hid (fun j h => by omega), HW⟩
  case round =>
    clear HW k0
    obtain ⟨i, hi, rfl, HP, HW⟩ := hrel
    by_cases hlt : i < 14
    · obtain ⟨G, hG⟩ : ∃ G : ByteArray, G = ⟨(rsg i).toArray⟩ := ⟨_, rfl⟩
      obtain ⟨z, hz⟩ : ∃ z, z = (rsg i).length := ⟨_, rfl⟩
      have hzz : z = 1 ∨ z = 2 := by rw [hz]; exact rsg_len i hlt
      have eg : (G.size : Int) = (z : Int) := by
        have : G.size = (rsg i).length := by rw [hG]; rfl
        omega
      have n0 : (0 : Int) ≤ (i : Int) := by omega
      have l0 : (i : Int) < 14 := by omega
      have w0 : IntKind.i64.wrap ((i : Int) + 1) = ((i + 1 : Nat) : Int) := IntWalk.i64_in _ (by omega)
      have c0 := HW.out.2 i hlt
      rw [← hG] at c0
      have cD : ∀ n, (wr.drewN n).cell? ⟨g, i, none⟩ = some (.string G) := fun _ => c0
      have HGG := Lib.hid (show G = ⟨(rsg i).toArray⟩ ∧ z = (rsg i).length from ⟨hG, hz⟩)
      have HII := Lib.hid hi
      clear hG hz hi
      by_cases hm : z ≤ m
      · obtain ⟨q, hq⟩ : ∃ q, q = p + z := ⟨_, rfl⟩
        have w1 : IntKind.i64.wrap ((p : Int) + (z : Int)) = (q : Int) := by rw [show (p : Int) + (z : Int) = (q : Int) by omega]; exact IntWalk.i64_in _ (by have := HL.out; omega)
        obtain ⟨X, hX⟩ : ∃ X, X = s.extract p q := ⟨_, rfl⟩
        have i1 : (z : Int) ≤ (m : Int) := by omega
        have d1 : decide ((z : Int) ≤ (m : Int)) = true := by simp; omega
        have d1' : decide (z ≤ m) = true := by simp; omega
        have sl : ∀ W, (Instr.slice 9 (.string s) (some (.int .i64 (p : Int))) (some (.int .i64 (q : Int))) none).run Tryz.prog W = .ok (.string X) W := fun W => by
          rw [run_slice_string_if W _ _ _ _ _ _ Tryz.underlying9, if_pos ⟨by omega, by have := HL.out; omega⟩, if_pos ⟨by omega, by omega⟩, show (p : Int).toNat = p by omega, show (q : Int).toNat = q by omega, hX]
        have sl2 : ∀ W, (Instr.sliceAt 9 (.string s) (some (.int .i64 (p : Int))) (some (.int .i64 (q : Int))) none).run Tryz.prog W = .ok (.string X) W := fun W => by
          rw [run_sliceAt_string W _ _ _ _ _ Tryz.underlying9]; exact sl W
        obtain ⟨b, hb⟩ : ∃ b, b = (l.take z == rsg i) := ⟨_, rfl⟩
        have eb : (X.toList == G.toList) = b := by
          rw [hb, hX, hq, rext_drop, HGG.out.1, ByteArray.toList_eq, ← HL.out.1]
        have HB := Lib.hid hb
        have j0 : (0 : Int) ≤ (p : Int) := by omega
        have j1 : (p : Int) ≤ (q : Int) := by omega
        have j2 : (q : Int) ≤ (n : Int) := by have := HL.out; omega
        clear hX hb hq hm
        cases b with
        | true =>
          have HR := Lib.hid (show Tk.signN l = z by
            have h1 := HB.out.symm
            rw [beq_iff_eq, HGG.out.2] at h1
            rw [rsignN_hit l i hlt h1, HGG.out.2])
          clear HB
          go_wp2
          go_quiet (fail)
          go_wp2
          go_ret
          exact ⟨by rw [HR.out]; rfl, by first | exact HW.out.1 | exact rbelow_drew HW.out.1 _⟩
        | false =>
          have HR := Lib.hid (show l.take (rsg i).length ≠ rsg i by
            have h1 := HB.out.symm
            rw [beq_eq_false_iff_ne, HGG.out.2] at h1
            exact h1)
          clear HB
          go_wp2
          go_quiet (fail)
          go_wp2
          go_roundg (14 - (i + 1))
          case measure => have := HII.out; omega
          case rel => exact ⟨i + 1, by omega, rfl, Lib.hid (fun j hj => by
            by_cases e : j = i
            · subst e; exact HR.out
            · exact HP.out j (by omega)), Lib.hid ⟨by first | exact HW.out.1 | exact rbelow_drew HW.out.1 _, HW.out.2⟩⟩
      · have i1 : ¬ (z : Int) ≤ (m : Int) := by omega
        have d1 : decide ((z : Int) ≤ (m : Int)) = false := by simp; omega
        have d1' : decide (z ≤ m) = false := by simp; omega
        have HR := Lib.hid (show l.take (rsg i).length ≠ rsg i from fun e => by
          have h1 := congrArg List.length e
          rw [List.length_take] at h1
          have := HL.out; have := HGG.out; omega)
        clear hm
        go_wp2
        go_quiet (fail)
        go_wp2
        go_roundg (14 - (i + 1))
        case measure => have := HII.out; omega
        case rel => exact ⟨i + 1, by omega, rfl, Lib.hid (fun j hj => by
          by_cases e : j = i
          · subst e; exact HR.out
          · exact HP.out j (by omega)), Lib.hid ⟨by first | exact HW.out.1 | exact rbelow_drew HW.out.1 _, HW.out.2⟩⟩
    · obtain rfl : i = 14 := by omega
      have kc : ((14 : Nat) : Int) = 14 := rfl
      have HR := Lib.hid (rsignN_none l HP.out)
      clear hlt hi
      go_wp2
      go_ret
      exact ⟨by rw [HR.out]; rfl, HW.out.1⟩
end Go.Proofs.YtjnmajdigjifkaaGreatDoor
