/- RatsPoints: its walk. -/
import Derived.Test.YthnlmjnfdokdbaaGreatDoorGRatPo
import Derived.Test.YthnlmjnfdokdbaaGreatDoorGRatPd
import Derived.Test.YthnlmjnfdokdbaaGreatDoorGRatAlive
import Derived.Test.YthnlmjnfdokdbaaGreatDoorGRatLaw
import Derived.Laws.Concat
import Derived.BigQuiet
import Derived.Deep.RegionHeld3
set_option linter.unusedSimpArgs false
set_option linter.unusedVariables false
namespace Go.Proofs.YthnlmjnfdokdbaaGreatDoor
open Go Go.Proofs Go.RowKit Go.Shelf Nu

attribute [local go_sem] Oper.semAt_some

def DIG : ByteArray := ⟨#[48, 49, 50, 51, 52, 53, 54, 55, 56, 57]⟩
theorem dig_at3 : ∀ r, r < 10 → ∃ c, (DIG.extract r (r + 1)).data.toList = [c] ∧ c.toNat = 48 + r
  | 0, _ => ⟨48, by rfl, by rfl⟩ | 1, _ => ⟨49, by rfl, by rfl⟩ | 2, _ => ⟨50, by rfl, by rfl⟩ | 3, _ => ⟨51, by rfl, by rfl⟩ | 4, _ => ⟨52, by rfl, by rfl⟩
  | 5, _ => ⟨53, by rfl, by rfl⟩ | 6, _ => ⟨54, by rfl, by rfl⟩ | 7, _ => ⟨55, by rfl, by rfl⟩ | 8, _ => ⟨56, by rfl, by rfl⟩ | 9, _ => ⟨57, by rfl, by rfl⟩
  | _ + 10, h => by omega
theorem dig_one3 {r : Nat} (hr : r < 10) : (DIG.extract r (r + 1)).size = 1 := by
  obtain ⟨c, h1, _⟩ := dig_at3 r hr
  rw [size_list, h1]; rfl
/-- what holds between two digits: k digits at least stand behind the point -/
structure PW (n k : Nat) (s : ByteArray) (m : Nat) : Prop where
  all : dall s.data.toList
  num : n = m * 10 ^ s.size + dval s.data.toList
  small : m < 10 ^ (10 - s.size)
  head : m = 0 → k + 1 < s.size → ∃ c t, s.data.toList = c :: t ∧ c ≠ 48
theorem PW.start {n k : Nat} (h : n ≤ 4294967295) : PW n k ⟨#[]⟩ n :=
  ⟨fun c hc => (by cases hc), by show n = n * 10 ^ 0 + 0; omega, Nat.lt_of_le_of_lt h (show 4294967295 < 10 ^ 10 by decide), fun _ h => absurd h (by show ¬ k + 1 < 0; omega)⟩
theorem PW.room {n k m : Nat} {s : ByteArray} (h : PW n k s m) (hm : 0 < m) : s.size < 10 := by
  have h1 := h.small
  rcases Nat.lt_or_ge s.size 10 with h2 | h2
  · exact h2
  · rw [show 10 - s.size = 0 by omega] at h1; simp at h1; omega
theorem PW.step {n k m r : Nat} {s d : ByteArray} (h : PW n k s m) (hr : r = m % 10) (hg : 0 < m ∨ s.size ≤ k) (hz : s.size < 10) (hd : d = DIG.extract r (r + 1) ++ s) : PW n k d (m / 10) ∧ d.size = s.size + 1 := by
  obtain ⟨c, h1, h2⟩ := dig_at3 r (by omega)
  have e : d.data.toList = c :: s.data.toList := by rw [hd, data_app, h1]; rfl
  have es : d.size = s.size + 1 := by rw [size_list, e, List.length_cons, ← size_list]
  refine ⟨⟨?_, ?_, ?_, ?_⟩, es⟩
  · rw [e]
    intro x hx
    rcases List.mem_cons.1 hx with rfl | hx
    · omega
    · exact h.all x hx
  · rw [e, es, dval_cons, ← size_list, h2, Nat.pow_succ]
    have h3 := h.num
    have h4 : m = 10 * (m / 10) + r := by omega
    have h5 : m * 10 ^ s.size = (m / 10) * (10 ^ s.size * 10) + r * 10 ^ s.size := by
      rw [Nat.mul_comm (10 ^ s.size) 10, ← Nat.mul_assoc, ← Nat.add_mul]
      congr 1; omega
    have h6 : 48 + r - 48 = r := by omega
    rw [h6]
    omega
  · rw [es]
    have h3 := h.small
    have h4 : 10 - s.size = (10 - (s.size + 1)) + 1 := by omega
    rw [h4, Nat.pow_succ] at h3
    omega
  · intro h0 hk
    refine ⟨c, _, e, fun e2 => ?_⟩
    have : c.toNat = 48 := by rw [e2]; rfl
    rcases hg with hg | hg <;> omega
theorem PW.cut {n k : Nat} {s a b : ByteArray} (h : PW n k s 0) (hk : k < s.size) (ha : a = s.extract 0 (s.size - k)) (hb : b = s.extract (s.size - k) s.size) : isNum a ∧ dall b.data.toList ∧ b.size = k ∧ dval (a.data.toList ++ b.data.toList) = n ∧ a.size + b.size = s.size := by
  have e1 : a.data.toList = s.data.toList.take (s.size - k) := by rw [ha, ext_take]
  have e2 : b.data.toList = s.data.toList.drop (s.size - k) := by rw [hb, ext_drop]
  have e3 : a.data.toList ++ b.data.toList = s.data.toList := by rw [e1, e2, List.take_append_drop]
  have hl := size_list s
  have h1 : a.size = s.size - k := by rw [size_list, e1, List.length_take]; omega
  have h2 : b.size = k := by rw [size_list, e2, List.length_drop]; omega
  have hn := h.num
  refine ⟨?_, fun c hc => h.all c (by rw [← e3]; exact List.mem_append_right _ hc), h2, by rw [e3]; omega, by omega⟩
  have h3 : dall a.data.toList := fun c hc => h.all c (by rw [← e3]; exact List.mem_append_left _ hc)
  cases ea : a.data.toList with
  | nil => rw [size_list, ea] at h1; simp at h1; omega
  | cons c t =>
    have : a = ⟨(c :: t).toArray⟩ := ext_lit _ _ ea
    rw [this]
    refine isNum_cons (ea ▸ h3) ?_
    cases t with
    | nil => exact .inl rfl
    | cons d t =>
      right
      have hl2 : a.size = t.length + 2 := by rw [size_list, ea]; rfl
      obtain ⟨x, u, hx, h0⟩ := h.head rfl (by omega)
      rw [← e3, ea] at hx
      injection hx with hx _
      rw [hx]; exact h0
theorem pts_cut {d : ByteArray} {p : Nat} (h : d.size ≤ 10) : ∃ A B A2, A = d.extract 0 p ∧ B = d.extract p d.size ∧ A2 = A ++ ⟨#[46]⟩ ++ B ∧ A2.size ≤ 21 ∧
    ∃ A1, (∀ W, (Op.stringOp .add A ⟨#[46]⟩).run Tryz.prog W = .ok (.string A1) W) ∧ (∀ W, (Op.stringOp .add A1 B).run Tryz.prog W = .ok (.string A2) W) := by
  have a0 : (d.extract 0 p).size ≤ 10 := by rw [ByteArray.size_extract]; omega
  have b0 : (d.extract p d.size).size ≤ 10 := by rw [ByteArray.size_extract]; omega
  have c0 : (⟨#[46]⟩ : ByteArray).size = 1 := rfl
  have d0 : (d.extract 0 p ++ ⟨#[46]⟩ : ByteArray).size ≤ 11 := by rw [ByteArray.size_append]; omega
  refine ⟨_, _, _, rfl, rfl, rfl, by rw [ByteArray.size_append]; omega, _, fun W => run_string_add_sum W _ _ (by omega), fun W => run_string_add_sum W _ _ (by omega)⟩
theorem pts_wraps {n : Nat} (hn : n ≤ 4294967295) : wrap64 (n : Int) = (n : Int) ∧ IntKind.i64.wrap (n : Int) = (n : Int) ∧ wrap64 (-(n : Int)) = -(n : Int) ∧ IntKind.i64.wrap (-(n : Int)) = -(n : Int) :=
  ⟨by unfold wrap64; omega, by rw [IntKind.wrap_i64]; omega, by unfold wrap64; omega, by rw [IntKind.wrap_i64]; omega⟩
theorem zeros_succ (i : Nat) : zeros (i + 1) = zeros i ++ ⟨#[48]⟩ := by
  apply ext_lit
  rw [data_app]
  show Lib.repeatL [48] (i + 1) = Lib.repeatL [48] i ++ [48]
  induction i with
  | zero => rfl
  | succ i ih =>
    show [48] ++ Lib.repeatL [48] (i + 1) = [48] ++ Lib.repeatL [48] i ++ [48]
    rw [ih]; simp
theorem pts_more {A2 T : ByteArray} {i : Nat} (h : T = A2 ++ zeros i) (hs : T.size ≤ 21 + i) (hi : i < 20) : ∃ T', T' = A2 ++ zeros (i + 1) ∧ T'.size ≤ 21 + (i + 1) ∧ ∀ W, (Op.stringOp .add T ⟨#[48]⟩).run Tryz.prog W = .ok (.string T') W := by
  have c0 : (⟨#[48]⟩ : ByteArray).size = 1 := rfl
  refine ⟨T ++ ⟨#[48]⟩, by rw [h, zeros_succ]; apply ext_lit; simp, by rw [ByteArray.size_append]; omega, fun W => run_string_add_sum W _ _ (by omega)⟩
theorem rat_tens (N : Int) (k q : Nat) : ((N * (10 ^ q : Nat) : Int) : Rat) / (((10 ^ (k + q) : Nat) : Int) : Rat) = ((N : Int) : Rat) / (((10 ^ k : Nat) : Int) : Rat) := by
  have h1 : (((10 ^ q : Nat) : Int) : Rat) ≠ 0 := by rw [Rat.intCast_natCast]; exact rnz (Nat.pos_iff_ne_zero.1 (Nat.pow_pos (by decide)))
  have h2 : (((10 ^ k : Nat) : Int) : Rat) ≠ 0 := by rw [Rat.intCast_natCast]; exact rnz (Nat.pos_iff_ne_zero.1 (Nat.pow_pos (by decide)))
  have h3 : (((10 ^ (k + q) : Nat) : Int) : Rat) = (((10 ^ k : Nat) : Int) : Rat) * (((10 ^ q : Nat) : Int) : Rat) := by
    rw [Nat.pow_add, Int.natCast_mul, Rat.intCast_mul]
  rw [h3, Rat.intCast_mul]
  generalize (((10 ^ q : Nat) : Int) : Rat) = a at *
  generalize (((10 ^ k : Nat) : Int) : Rat) = b at *
  generalize ((N : Int) : Rat) = c
  grind
/-- what the law's text is read as -/
theorem points_out {n k q : Nat} {s a b T : ByteArray} (h : PW n k s 0) (hk : k < s.size) (h10 : s.size ≤ 10) (k0 : 0 < k) (hq : q < 20) (ha : a = s.extract 0 (s.size - k)) (hb : b = s.extract (s.size - k) s.size) (hT : T = a ++ ⟨#[46]⟩ ++ b ++ zeros q) :
    pout T = (0, ((n : Nat) : Int) / (((10 ^ k : Nat) : Int) : Rat)) ∧ pout (⟨#[45]⟩ ++ T) = if n = 0 then (4, 0) else (0, ((-((n : Nat) : Int) : Int) : Rat) / (((10 ^ k : Nat) : Int) : Rat)) := by
  obtain ⟨c1, c2, c3, c4, c5⟩ := h.cut hk ha hb
  have hz : (b ++ zeros q).size = k + q := by rw [ByteArray.size_append, c3]; congr 1; rw [size_list]; exact zlen q
  have hd : dall (b ++ zeros q).data.toList := by
    rw [data_app]
    intro x hx
    rcases List.mem_append.1 hx with h | h
    · exact c2 x h
    · exact zall q x h
  have e : T.data.toList = a.data.toList ++ 46 :: (b ++ zeros q).data.toList := by rw [hT, data_app, data_app, data_app, data_app]; simp
  have hv : dval (a.data.toList ++ (b ++ zeros q).data.toList) = n * 10 ^ q := by
    rw [data_app, ← List.append_assoc, dval_app, c4]
    show n * 10 ^ (Lib.repeatL [48] q).length + dval (Lib.repeatL [48] q) = _
    rw [zlen, zdval, Nat.add_zero]
  obtain ⟨p1, p2⟩ := pout_point c1 (by omega) hd e
  have hs : a.size + (b ++ zeros q).size ≤ 200 := by rw [hz]; omega
  rw [p1, p2, pres_point c1 hd, pres_point c1 hd, hv, if_neg (fun h => by cases h.1), if_pos hs, if_pos hs, hz]
  have t1 := rat_tens ((n : Nat) : Int) k q
  have t2 := rat_tens (-((n : Nat) : Int)) k q
  refine ⟨by rw [← t1]; simp [Int.natCast_mul], ?_⟩
  by_cases h0 : n = 0
  · rw [if_pos h0, if_pos ⟨rfl, by rw [h0]; simp⟩]
  · rw [if_neg h0, if_neg]
    · rw [← t2]; simp [Int.natCast_mul, Int.neg_mul]
    · rintro ⟨_, h⟩
      rcases Nat.mul_eq_zero.1 h with h | h
      · exact h0 h
      · exact absurd h (Nat.pos_iff_ne_zero.1 (Nat.pow_pos (by decide)))

theorem pts_len {s : Bool} {L E : List Nat} {N : Int} {D : Nat} (h : RCan s L E (((N : Int) : Rat) / (((D : Nat) : Int) : Rat))) (hN : N.natAbs ≤ 4294967295) (hD : 0 < D) (hD2 : D ≤ 1000000000) : L.length ≤ 80000 ∧ E.length ≤ 80000 := by
  have hz := rnz (Nat.pos_iff_ne_zero.1 hD)
  obtain ⟨r1, r2⟩ := rat_small (Z := ((N : Int) : Rat) / (((D : Nat) : Int) : Rat)) (n := N) (Nat.pos_iff_ne_zero.1 hD) (by rw [Rat.intCast_natCast]; grind)
  have := rcan_small h (by omega) (by omega)
  omega
theorem pts_fin {n j q D : Nat} {d A B A2 T : ByteArray} (h : PW n (1 + j) d 0) (hk : 1 + j < d.size) (h10 : d.size ≤ 10) (hj : j < 9) (hq : q < 20) (ha : A = d.extract 0 (d.size - (1 + j))) (hb : B = d.extract (d.size - (1 + j)) d.size) (hA2 : A2 = A ++ ⟨#[46]⟩ ++ B) (hT : T = A2 ++ zeros q) (hD : D = 10 ^ (1 + j)) :
    pout T = (0, (((n : Nat) : Int) : Rat) / (((D : Nat) : Int) : Rat)) ∧ pout (⟨#[45]⟩ ++ T) = (if n = 0 then (4, 0) else (0, ((-((n : Nat) : Int) : Int) : Rat) / (((D : Nat) : Int) : Rat))) ∧ 0 < D ∧ D ≤ 1000000000 := by
  obtain ⟨p1, p2⟩ := points_out h hk h10 (by omega) hq ha hb (hT.trans (congrArg (· ++ zeros q) hA2))
  have h2 : D ≤ 10 ^ 9 := by rw [hD]; exact Nat.pow_le_pow_right (by decide) (by omega)
  have h3 : 0 < D := by rw [hD]; exact Nat.pow_pos (by decide)
  rw [hD]
  rw [hD] at h2 h3
  exact ⟨p1, p2, h3, h2⟩

set_option maxRecDepth 100000 in
set_option maxHeartbeats 8000000 in
theorem points_walk {n b q0 : Nat} {w : World} (hn : n ≤ 4294967295) (hb : b ≤ 255) (hq0 : q0 ≤ 255) :
    Calls Tryz.prog 7 #[.int .u32 (n : Int), .int .u8 (b : Int), .int .u8 (q0 : Int)] w fun e w' => e = .returned (.bool true) ∧ Below w.heap.size w w' := by
  obtain ⟨j, hj⟩ : ∃ j, j = b % 9 := ⟨_, rfl⟩
  have hj9 : j < 9 := by omega
  have hbj : (b : Int) % 9 = (j : Int) := by rw [hj]; simp
  obtain ⟨q, hq⟩ : ∃ q, q = q0 % 20 := ⟨_, rfl⟩
  have hq20 : q < 20 := by omega
  have hqq : (q0 : Int) % 20 = (q : Int) := by rw [hq]; simp
  clear hj hq
  go_enter Tryz.func7, Tryz.ntmps7
  go_wp2
  go_loopg [8, 9] 10 (fun g sd sm wx => ∃ (d : ByteArray) (m : Nat), d.size + g = 10 ∧ sd = .string d ∧ sm = .int .u32 (m : Int) ∧ PW n (1 + j) d m ∧ m ≤ 4294967295 ∧ wx = w)
  case atStart => exact ⟨⟨#[]⟩, n, by rfl, rfl, rfl, PW.start hn, hn, rfl⟩
  case round =>
    obtain ⟨d, m, hdg, rfl, rfl, hD, hm, hw⟩ := hrel
    subst wr
    have HD := Lib.hid hD
    clear hD
    obtain ⟨r, hr⟩ : ∃ r, r = m % 10 := ⟨_, rfl⟩
    have hr10 : r < 10 := by omega
    by_cases hm0 : 0 < m
    · have hroom := HD.out.room hm0
      have hg : decide ((0 : Int) < (m : Int)) = true := by simp; omega
      have hg2 : decide (0 < m) = true := by simp; omega
      obtain ⟨gg, rfl⟩ : ∃ gg, gk = gg + 1 := ⟨9 - d.size, by omega⟩
      have hm1 : (m : Int) % 10 = (r : Int) := by rw [hr]; simp
      obtain ⟨d', hd'⟩ : ∃ d', d' = DIG.extract r (r + 1) ++ d := ⟨_, rfl⟩
      have hadd : ∀ W, (Op.stringOp .add (DIG.extract r (r + 1)) d).run Tryz.prog W = .ok (.string d') W := fun W => by rw [hd']; exact run_string_add_sum W _ _ (by rw [dig_one3 hr10]; omega)
      have hdw := HD.out.step hr (.inl hm0) (by omega) hd'
      have HDW := Lib.hid hdw.1
      have HS := Lib.hid hdw.2
      have r0 : (0 : Int) ≤ (r : Int) := by omega
      have r1 : (r : Int) ≤ (r : Int) + 1 := by omega
      have r2 : (r : Int) + 1 ≤ 10 := by omega
      have r3 : ((r : Int) + 1).toNat = r + 1 := by omega
      unfold DIG at hadd
      have HDG := Lib.hid hdg
      clear hd' hdw hr hdg
      go_wp2_with fail
      go_roundg gg
      case measure => omega
      case rel => exact ⟨d', m / 10, by have := HS.out; have := HDG.out; omega, rfl, by first | rfl | (simp; done) | (congr 1; simp), HDW.out, by omega, rfl⟩
    · by_cases hk0 : d.size ≤ 1 + j
      · have hg : decide ((0 : Int) < (m : Int)) = false := by simp; omega
        have hg2 : decide (0 < m) = false := by simp; omega
        have hl : decide ((d.size : Int) ≤ 1 + (j : Int)) = true := by simp; omega
        obtain ⟨gg, rfl⟩ : ∃ gg, gk = gg + 1 := ⟨9 - d.size, by omega⟩
        have hm1 : (m : Int) % 10 = (r : Int) := by rw [hr]; simp
        obtain ⟨d', hd'⟩ : ∃ d', d' = DIG.extract r (r + 1) ++ d := ⟨_, rfl⟩
        have hadd : ∀ W, (Op.stringOp .add (DIG.extract r (r + 1)) d).run Tryz.prog W = .ok (.string d') W := fun W => by rw [hd']; exact run_string_add_sum W _ _ (by rw [dig_one3 hr10]; omega)
        have hdw := HD.out.step hr (.inr hk0) (by omega) hd'
        have HDW := Lib.hid hdw.1
        have HS := Lib.hid hdw.2
        have r0 : (0 : Int) ≤ (r : Int) := by omega
        have r1 : (r : Int) ≤ (r : Int) + 1 := by omega
        have r2 : (r : Int) + 1 ≤ 10 := by omega
        have r3 : ((r : Int) + 1).toNat = r + 1 := by omega
        unfold DIG at hadd
        have HDG := Lib.hid hdg
        clear hd' hdw hr hdg
        go_wp2_with fail
        go_roundg gg
        case measure => omega
        case rel => exact ⟨d', m / 10, by have := HS.out; have := HDG.out; omega, rfl, by first | rfl | (simp; done) | (congr 1; simp), HDW.out, by omega, rfl⟩
      · have hg : decide ((0 : Int) < (m : Int)) = false := by simp; omega
        have hg2 : decide (0 < m) = false := by simp; omega
        have hl : decide ((d.size : Int) ≤ 1 + (j : Int)) = false := by simp; omega
        obtain rfl : m = 0 := by omega
        have HP := HD
        have hkd := Lib.hid (show 1 + j < d.size by omega)
        have hd10 := Lib.hid (show d.size ≤ 10 by omega)
        clear HD hm hr hr10 hdg hm0 hk0
        go_wp2
        go_loopg [10, 11] (1 + j) (fun g sd si wx => ∃ (i D : Nat), i + g = 1 + j ∧ sd = .int .i64 (D : Int) ∧ si = .int .i64 (i : Int) ∧ Hid (D = 10 ^ i) ∧ wx = w)
        case atStart => exact ⟨0, 1, by omega, rfl, rfl, Lib.hid rfl, rfl⟩
        case round =>
          obtain ⟨i, D, hig, rfl, rfl, hD, hw⟩ := hrel
          subst wr
          by_cases hi : i < 1 + j
          · obtain ⟨gg, rfl⟩ : ∃ gg, gk = gg + 1 := ⟨j - i, by omega⟩
            have hc : (i : Int) < 1 + (j : Int) := by omega
            have hc2 : decide ((i : Int) < 1 + (j : Int)) = true := decide_eq_true hc
            have hlt : D ≤ 100000000 := by
              have h1 : (10 : Nat) ^ i ≤ 10 ^ 8 := Nat.pow_le_pow_right (by decide) (by omega)
              have := hD.out
              omega
            obtain ⟨E, hE⟩ : ∃ E, E = 10 * D := ⟨_, rfl⟩
            have u1 : 10 * (D : Int) = (E : Int) := by omega
            have u2 : IntKind.i64.wrap (10 * (D : Int)) = (E : Int) := by rw [u1, IntKind.wrap_i64]; omega
            have u3 : wrap64 (E : Int) = (E : Int) := by unfold wrap64; omega
            have HE := Lib.hid (show E = 10 ^ (i + 1) by rw [hE, hD.out, Nat.pow_succ, Nat.mul_comm])
            have HI := Lib.hid hig
            clear hE hlt hD hig
            go_wp2_with fail
            go_roundg gg
            case measure => omega
            case rel => exact ⟨i + 1, E, by have := HI.out; omega, by first | rfl | (simp; done) | (congr 1 <;> omega), by first | rfl | (simp; done) | (congr 1 <;> unfold wrap64 <;> omega), HE, rfl⟩
          · obtain rfl : i = 1 + j := by omega
            have hc : ¬ ((1 + j : Nat) : Int) < 1 + (j : Int) := by omega
            have hc2 : decide (((1 + j : Nat) : Int) < 1 + (j : Int)) = false := decide_eq_false hc
            clear hig hi
            go_wp2
            obtain ⟨p, hp⟩ : ∃ p, p = d.size - (1 + j) := ⟨_, rfl⟩
            have hdp : d.size = p + (1 + j) := by have := hkd.out; omega
            have e1 : (d.size : Int) - (1 + (j : Int)) = (p : Int) := by omega
            have p0 : (0 : Int) ≤ (p : Int) := by omega
            have p1 : (p : Int) ≤ (d.size : Int) := by omega
            have e2 : wrap64 (p : Int) = (p : Int) := by have := hd10.out; unfold wrap64; omega
            obtain ⟨A, B, A2, hA, hB, hT, zA2, s0⟩ := pts_cut (p := p) hd10.out
            have hsA : ∀ W : World, (Instr.slice 9 (.string d) none (some (.int .i64 (p : Int))) none).run Tryz.prog W = .ok (.string A) W := fun W => by
              rw [hA]; exact run_slice_string_h W _ d (by kernel_rfl) .i64 (p : Int) p0 p1
            have hsB : ∀ W : World, (Instr.slice 9 (.string d) (some (.int .i64 (p : Int))) none none).run Tryz.prog W = .ok (.string B) W := fun W => by
              rw [hB]; exact run_slice_string_l W _ d (by kernel_rfl) .i64 (p : Int) p0 p1
            obtain ⟨A1, s1, s2⟩ := s0
            have hlen : ∀ W : World, (Builtin.len_ #[9] 3 #[.string d]).run Tryz.prog W = .ok (.int .i64 (d.size : Int)) W := fun W => by rw [run_len_string W _ _ d (by kernel_rfl)]; rfl
            have HA := Lib.hid (show A = d.extract 0 (d.size - (1 + j)) by rw [← hp]; exact hA)
            have HB := Lib.hid (show B = d.extract (d.size - (1 + j)) d.size by rw [← hp]; exact hB)
            have HT := Lib.hid hT
            have ZA := Lib.hid zA2
            clear hp hdp hA hB hT zA2 p0 p1
            go_quiet (fail)
            have HB0 := Lib.hid (show Below w.heap.size w (w.drewN nq) from ⟨rfl, rfl, rfl, Nat.le_refl _, fun _ _ => rfl⟩)
            obtain ⟨V, hV⟩ : ∃ V, V = w.drewN nq := ⟨_, rfl⟩
            rw [← hV] at HB0 ⊢
            clear hV e1 e2 hsA hsB s1 s2 hlen
            go_wp2
            go_loopg [12, 13] q (fun g sd si wx => ∃ (i : Nat) (T : ByteArray), i + g = q ∧ sd = .string T ∧ si = .int .i64 (i : Int) ∧ Hid (T = A2 ++ zeros i) ∧ T.size ≤ 21 + i ∧ wx = V)
            case atStart => exact ⟨0, A2, by omega, rfl, rfl, Lib.hid (by apply ext_lit; simp [zeros, Lib.repeatL]), by have := ZA.out; omega, rfl⟩
            case round =>
              obtain ⟨i, T, hig, rfl, rfl, hT, hTs, hw⟩ := hrel
              subst wr
              by_cases hi : i < q
              · obtain ⟨gg, rfl⟩ : ∃ gg, gk = gg + 1 := ⟨q - i - 1, by omega⟩
                have hc : (i : Int) < (q : Int) := by omega
                have hc2 : decide ((i : Int) < (q : Int)) = true := decide_eq_true hc
                obtain ⟨T', hT', hTs', ht⟩ := pts_more hT.out hTs (by omega)
                have HT' := Lib.hid hT'
                have HTs' := Lib.hid hTs'
                have HI := Lib.hid hig
                clear hT' hTs' hTs hT hig
                go_wp2_with fail
                go_roundg gg
                case measure => omega
                case rel => exact ⟨i + 1, T', by have := HI.out; omega, rfl, by first | rfl | (simp; done) | (congr 1 <;> unfold wrap64 <;> omega), HT', HTs'.out, rfl⟩
              · obtain rfl : i = q := by omega
                have hc : ¬ (i : Int) < (i : Int) := by omega
                have hc2 : decide ((i : Int) < (i : Int)) = false := decide_eq_false hc
                obtain ⟨o1, o2, d0, d9⟩ := pts_fin HP.out hkd.out hd10.out hj9 hq20 HA.out HB.out HT.out hT.out hD.out
                have zT : T.size ≤ 100 := by omega
                clear HP hkd hd10 HA HB HT hT hD ZA hTs hig hi
                have n0 : (0 : Int) ≤ (n : Int) := by omega
                obtain ⟨sZ, LZ, DZ, cZ⟩ := RCan.ex ((((n : Nat) : Int) : Rat) / (((D : Nat) : Int) : Rat))
                have lZ := pts_len cZ (by simpa using hn) d0 d9
                have KP := Lib.hid (fun (W : World) => parse_val T (by omega) o1 cZ W)
                obtain ⟨T2, hT2⟩ : ∃ t : ByteArray, t = ⟨#[45]⟩ ++ T := ⟨_, rfl⟩
                have zT2 : T2.size ≤ 101 := by rw [hT2, ByteArray.size_append, show (⟨#[45]⟩ : ByteArray).size = 1 from rfl]; omega
                have s3 : ∀ W, (Op.stringOp .add ⟨#[45]⟩ T).run Tryz.prog W = .ok (.string T2) W := fun W => by rw [hT2]; exact run_string_add_sum W _ _ (by rw [show (⟨#[45]⟩ : ByteArray).size = 1 from rfl]; omega)
                rw [← hT2] at o2
                have KS := Lib.hid (fun (W : World) {a b : Option Addr} {c e : Nat} {a' b' : Option Addr} {c' e' : Nat} (y1 : Reads W (.slice a LZ.length c) LZ) (y2 : Reads W (.slice b DZ.length e) DZ) (y3 : Reads W (.slice a' LZ.length c') LZ) (y4 : Reads W (.slice b' DZ.length e') DZ) => r_same true cZ cZ (by simp) lZ.1 lZ.2 lZ.1 lZ.2 y1 y2 y3 y4)
                by_cases hz : n = 0
                · subst hz
                  rw [if_pos rfl] at o2
                  have hn0 : (((0 : Nat) : Int) == 0) = true := by rfl
                  have e0 : (((0 : Nat) : Int) : Rat) / (((D : Nat) : Int) : Rat) = ((0 : Int) : Rat) / ((1 : Int) : Rat) := by
                    rw [Rat.div_def, Rat.div_def]; simp
                  have KM := Lib.hid (fun (W : World) => parse_err T2 (by omega) o2 (by decide) W)
                  have KO := Lib.hid (fun (W : World) => r_lof 0 1 W cZ e0 (by decide) (by decide) (by decide) (by decide) (by decide))
                  have M : Mem w [] [] V := (Mem.start w).up HB0.out
                  clear o1 o2 lZ cZ zT zT2 hT2 d0 d9 e0 HB0
                  go_wp2_with fail
                  refine (KP.out _).mono ?_
                  rintro e w1 ⟨a1, c1, b1, e1, rfl, g, g', rr⟩
                  have M' := (((M.up rr).add g).add g').new 27 [.bool sZ, .slice a1 LZ.length c1, .slice b1 DZ.length e1]; clear M rr g g'; have M := M'; clear M'
                  go_wp2_with fail
                  refine (KM.out _).mono ?_
                  rintro e w2 ⟨rfl, rr⟩
                  have M' := (M.up rr).new 27 [.bool false, .slice none 0 0, .slice none 0 0]; clear M rr; have M := M'; clear M'
                  go_wp2_with fail
                  replace M := M.drew; have mk0 := True.intro
                  go_region_held3 (fun V => V.cell? ⟨w1.heap.size, 0, none⟩ = some (.bool sZ) ∧ V.cell? ⟨w1.heap.size, 1, none⟩ = some (.slice a1 LZ.length c1) ∧ V.cell? ⟨w1.heap.size, 2, none⟩ = some (.slice b1 DZ.length e1)) (exact ⟨M.cell 1 rfl 0 rfl, M.cell 1 rfl 1 rfl, M.cell 1 rfl 2 rfl⟩) (first
                    | (have nope := mk0; clear nope; (fail_if_success have nope := mk1); have mk1 := True.intro; go_at_call 44; refine (r_alive _).mono ?_; rintro e u1 ⟨rfl, rr⟩; have M' := M.up rr; clear M rr; have M := M'; clear M')
                    | (have nope := mk1; clear nope; (fail_if_success have nope := mk2); have mk2 := True.intro; go_at_call 46; refine (KO.out _).mono ?_; rintro e u2 ⟨a3, c3, b3, e3, rfl, g, g', rr⟩; have M' := ((M.up rr).add g).add g'; clear M rr g g'; have M := M'; clear M')
                    | (have nope := mk2; clear nope; (fail_if_success have nope := mk3); have mk3 := True.intro; go_at_call 45; refine (KS.out _ (M.get 3 rfl) (M.get 2 rfl) (M.get 1 rfl) (M.get 0 rfl)).mono ?_; rintro e u3 ⟨rfl, rr⟩; have M' := M.up rr; clear M rr; have M := M'; clear M'))
                  go_wp2_with fail
                  go_ret
                  exact ⟨rfl, M.below⟩
                · rw [if_neg hz] at o2
                  have hn0 : ((n : Int) == 0) = false := by
                    have : ¬ (n : Int) = 0 := by omega
                    simpa using this
                  obtain ⟨sY, LY, DY, cY⟩ := RCan.ex (((-((n : Nat) : Int) : Int) : Rat) / (((D : Nat) : Int) : Rat))
                  have lY := pts_len cY (by simpa using hn) d0 d9
                  have KM := Lib.hid (fun (W : World) => parse_val T2 (by omega) o2 cY W)
                  have KO := Lib.hid (fun (W : World) => r_lof (n : Int) (D : Int) W cZ rfl (by omega) (by omega) (by omega) (by omega) (by omega))
                  have KO2 := Lib.hid (fun (W : World) => r_lof (-(n : Int)) (D : Int) W cY rfl (by omega) (by omega) (by omega) (by omega) (by omega))
                  have KS2 := Lib.hid (fun (W : World) {a b : Option Addr} {c e : Nat} {a' b' : Option Addr} {c' e' : Nat} (y1 : Reads W (.slice a LY.length c) LY) (y2 : Reads W (.slice b DY.length e) DY) (y3 : Reads W (.slice a' LY.length c') LY) (y4 : Reads W (.slice b' DY.length e') DY) => r_same true cY cY (by simp) lY.1 lY.2 lY.1 lY.2 y1 y2 y3 y4)
                  have M : Mem w [] [] V := (Mem.start w).up HB0.out
                  obtain ⟨uu1, uu2, uu3, uu4⟩ := pts_wraps hn
                  clear o1 o2 lZ cZ lY cY zT zT2 hT2 d0 d9 HB0
                  go_wp2_with fail
                  refine (KP.out _).mono ?_
                  rintro e w1 ⟨a1, c1, b1, e1, rfl, g, g', rr⟩
                  have M' := (((M.up rr).add g).add g').new 27 [.bool sZ, .slice a1 LZ.length c1, .slice b1 DZ.length e1]; clear M rr g g'; have M := M'; clear M'
                  go_wp2_with fail
                  refine (KM.out _).mono ?_
                  rintro e w2 ⟨a2, c2, b2, e2, rfl, g, g', rr⟩
                  have M' := (((M.up rr).add g).add g').new 27 [.bool sY, .slice a2 LY.length c2, .slice b2 DY.length e2]; clear M rr g g'; have M := M'; clear M'
                  go_wp2_with fail
                  replace M := M.drew; have mk0 := True.intro
                  go_region_held3 (fun V => V.cell? ⟨w1.heap.size, 0, none⟩ = some (.bool sZ) ∧ V.cell? ⟨w1.heap.size, 1, none⟩ = some (.slice a1 LZ.length c1) ∧ V.cell? ⟨w1.heap.size, 2, none⟩ = some (.slice b1 DZ.length e1) ∧ V.cell? ⟨w2.heap.size, 0, none⟩ = some (.bool sY) ∧ V.cell? ⟨w2.heap.size, 1, none⟩ = some (.slice a2 LY.length c2) ∧ V.cell? ⟨w2.heap.size, 2, none⟩ = some (.slice b2 DY.length e2)) (exact ⟨M.cell 1 rfl 0 rfl, M.cell 1 rfl 1 rfl, M.cell 1 rfl 2 rfl, M.cell 0 rfl 0 rfl, M.cell 0 rfl 1 rfl, M.cell 0 rfl 2 rfl⟩) (first
                    | (have nope := mk0; clear nope; (fail_if_success have nope := mk1); have mk1 := True.intro; go_at_call 44; refine (r_alive _).mono ?_; rintro e u1 ⟨rfl, rr⟩; have M' := M.up rr; clear M rr; have M := M'; clear M')
                    | (have nope := mk1; clear nope; (fail_if_success have nope := mk2); have mk2 := True.intro; go_at_call 46; refine (KO.out _).mono ?_; rintro e u2 ⟨a3, c3, b3, e3, rfl, g, g', rr⟩; have M' := ((M.up rr).add g).add g'; clear M rr g g'; have M := M'; clear M')
                    | (have nope := mk2; clear nope; (fail_if_success have nope := mk3); have mk3 := True.intro; go_at_call 45; refine (KS.out _ (M.get 5 rfl) (M.get 4 rfl) (M.get 1 rfl) (M.get 0 rfl)).mono ?_; rintro e u3 ⟨rfl, rr⟩; have M' := M.up rr; clear M rr; have M := M'; clear M')
                    | (have nope := mk3; clear nope; (fail_if_success have nope := mk4); have mk4 := True.intro; go_at_call 46; (try rw [uu4]); refine (KO2.out _).mono ?_; rintro e u4 ⟨a4, c4, b4, e4, rfl, g, g', rr⟩; have M' := ((M.up rr).add g).add g'; clear M rr g g'; have M := M'; clear M')
                    | (have nope := mk4; clear nope; (fail_if_success have nope := mk5); have mk5 := True.intro; go_at_call 45; refine (KS2.out _ (M.get 5 rfl) (M.get 4 rfl) (M.get 1 rfl) (M.get 0 rfl)).mono ?_; rintro e u5 ⟨rfl, rr⟩; have M' := M.up rr; clear M rr; have M := M'; clear M'))
                  go_wp2_with fail
                  go_ret
                  exact ⟨rfl, M.below⟩

theorem points_all {a b c : Int} {w : World} (h0 : (Lit.int .u32 a).wf = true) (h1 : (Lit.int .u8 b).wf = true) (h2 : (Lit.int .u8 c).wf = true) :
    Calls Tryz.prog 7 #[.int .u32 a, .int .u8 b, .int .u8 c] w fun e w' => e = .returned (.bool true) ∧ Below w.heap.size w w' := by
  simp [Lit.wf, IntKind.min, IntKind.max, IntKind.signed, IntKind.bits] at h0 h1 h2
  obtain ⟨n, rfl⟩ := Int.eq_ofNat_of_zero_le h0.1
  obtain ⟨m, rfl⟩ := Int.eq_ofNat_of_zero_le h1.1
  obtain ⟨k, rfl⟩ := Int.eq_ofNat_of_zero_le h2.1
  exact points_walk (by omega) (by omega) (by omega)

end Go.Proofs.YthnlmjnfdokdbaaGreatDoor
