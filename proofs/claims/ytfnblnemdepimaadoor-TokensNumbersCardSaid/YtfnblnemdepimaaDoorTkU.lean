/- TokensNumbers: the walk. -/
import Derived.Test.YtfnblnemdepimaaDoorTkV
import Derived.Test.YtfnblnemdepimaaDoorTkQ
import Derived.Laws.Concat
namespace Go.Proofs.YtfnblnemdepimaaDoor
open Go Go.Proofs Go.RowKit Go.Shelf
set_option linter.unusedVariables false
set_option linter.unusedSimpArgs false

/-- digits alone? -/
def AllDig (d : ByteArray) : Prop := ∀ c ∈ d.data.toList, Tk.digit c = true
theorem num_plain {D m : List UInt8} (hD : ∀ c ∈ D, Tk.digit c = true) (h0 : D ≠ []) (hm : m = [120] ∨ m = [46]) : Tk.tokN (D ++ m) = some (2, D.length) := by
  cases D with
  | nil => exact (h0 rfl).elim
  | cons c D =>
    have hc := hD c (by simp)
    have hr := Tk.run_eq Tk.digit (c :: D) m hD (by rcases hm with rfl | rfl <;> (intro d t h; cases h; decide))
    have hn := Tk.numN_tail (c :: D ++ m) (by rw [hr]; simp)
    rw [hr, List.drop_left] at hn
    have ht : Tk.tailN (c :: D).length m = (c :: D).length := by rcases hm with rfl | rfl <;> rfl
    rw [ht] at hn
    show (if Tk.letter c then _ else if Tk.digit c then some (2, Tk.numN (c :: D ++ m)) else _) = _
    rw [if_neg (by rw [digit_letter hc]; simp), if_pos hc, hn]
theorem num_point {D E m : List UInt8} (hD : ∀ c ∈ D, Tk.digit c = true) (h0 : D ≠ []) (hE : ∀ c ∈ E, Tk.digit c = true) (h1 : E ≠ []) (hm : m = [120] ∨ m = [46]) : Tk.tokN ((D ++ 46 :: E) ++ m) = some (2, (D ++ 46 :: E).length) := by
  cases D with
  | nil => exact (h0 rfl).elim
  | cons c D =>
    have hc := hD c (by simp)
    have ea : c :: D ++ 46 :: E ++ m = c :: D ++ (46 :: (E ++ m)) := by simp
    have hr := Tk.run_eq Tk.digit (c :: D) (46 :: (E ++ m)) hD (by intro d t h; cases h; decide)
    have hn := Tk.numN_tail (c :: D ++ (46 :: (E ++ m))) (by rw [hr]; simp)
    rw [hr, List.drop_left] at hn
    have hr2 := Tk.run_eq Tk.digit E m hE (by rcases hm with rfl | rfl <;> (intro d t h; cases h; decide))
    have hl : 0 < E.length := List.length_pos_iff.2 h1
    have ht : Tk.tailN (c :: D).length (46 :: (E ++ m)) = (c :: D).length + 1 + E.length := by
      simp only [Tk.tailN, if_true, hr2]
      rw [if_neg (by omega)]
    rw [ht] at hn
    rw [ea]
    show (if Tk.letter c then _ else if Tk.digit c then some (2, Tk.numN (c :: D ++ (46 :: (E ++ m)))) else _) = _
    rw [if_neg (by rw [digit_letter hc]; simp), if_pos hc, hn]
    simp; omega
theorem rd_x {S : List UInt8} (h : Tk.tokN (S ++ [120]) = some (2, S.length)) : Tk.Rd (S ++ [120]) 0 [⟨2, S, 0⟩, ⟨1, [120], S.length⟩] none := by
  have := Tk.Rd.tok (k := 0) h (ts := [⟨1, [120], S.length⟩]) (e := none) (by
    rw [List.drop_left, Nat.zero_add]
    exact Tk.Rd.tok (l := [120]) (n := 1) (kd := 1) (by rfl) (.nil _))
  rwa [List.take_left] at this
theorem rd_p {S : List UInt8} (h : Tk.tokN (S ++ [46]) = some (2, S.length)) : Tk.Rd (S ++ [46]) 0 [⟨2, S, 0⟩] (some S.length) := by
  have := Tk.Rd.tok (k := 0) h (ts := []) (e := some S.length) (by
    rw [List.drop_left, Nat.zero_add]
    exact Tk.Rd.bad (by rfl) (by decide) (by rfl))
  rwa [List.take_left] at this
def DIG : ByteArray := ⟨#[48, 49, 50, 51, 52, 53, 54, 55, 56, 57]⟩
theorem dig_at : ∀ r, r < 10 → ∃ c, (DIG.extract r (r + 1)).data.toList = [c] ∧ Tk.digit c = true
  | 0, _ => ⟨48, by rfl, by rfl⟩ | 1, _ => ⟨49, by rfl, by rfl⟩ | 2, _ => ⟨50, by rfl, by rfl⟩ | 3, _ => ⟨51, by rfl, by rfl⟩ | 4, _ => ⟨52, by rfl, by rfl⟩
  | 5, _ => ⟨53, by rfl, by rfl⟩ | 6, _ => ⟨54, by rfl, by rfl⟩ | 7, _ => ⟨55, by rfl, by rfl⟩ | 8, _ => ⟨56, by rfl, by rfl⟩ | 9, _ => ⟨57, by rfl, by rfl⟩
  | _ + 10, h => by omega
/-- one digit more -/
theorem dig_front {d : ByteArray} {r : Nat} (hr : r < 10) (hd : AllDig d) : AllDig (DIG.extract r (r + 1) ++ d) ∧ (DIG.extract r (r + 1) ++ d).size = d.size + 1 := by
  obtain ⟨c, h1, h2⟩ := dig_at r hr
  have e : (DIG.extract r (r + 1) ++ d).data.toList = c :: d.data.toList := by rw [ByteArray.data_append, Array.toList_append, h1]; rfl
  refine ⟨?_, ?_⟩
  · intro x hx
    rw [e] at hx
    rcases List.mem_cons.1 hx with rfl | hx
    · exact h2
    · exact hd x hx
  · rw [size_list, e, List.length_cons, ← size_list]
theorem dig_back {d : ByteArray} {r : Nat} (hr : r < 10) (hd : AllDig d) : AllDig (d ++ DIG.extract r (r + 1)) ∧ (d ++ DIG.extract r (r + 1)).size = d.size + 1 := by
  obtain ⟨c, h1, h2⟩ := dig_at r hr
  have e : (d ++ DIG.extract r (r + 1)).data.toList = d.data.toList ++ [c] := by rw [ByteArray.data_append, Array.toList_append, h1]
  refine ⟨?_, ?_⟩
  · intro x hx
    rw [e] at hx
    rcases List.mem_append.1 hx with hx | hx
    · exact hd x hx
    · simp at hx; rw [hx]; exact h2
  · rw [size_list, e, List.length_append, ← size_list]; rfl
theorem dig_one {r : Nat} (hr : r < 10) : (DIG.extract r (r + 1)).size = 1 := by
  obtain ⟨c, h1, _⟩ := dig_at r hr
  rw [size_list, h1]; rfl
theorem pow_down {m g : Nat} (h : m < 10 ^ (g + 1)) : m / 10 < 10 ^ g := by rw [Nat.pow_succ] at h; omega
/-- what holds between two digits -/
structure DW (d : ByteArray) (m g : Nat) : Prop where
  all : AllDig d
  small : m < 10 ^ g
theorem empty_facts (d : ByteArray) (h : 0 < d.size) : (d.toList == ([] : List UInt8)) = false ∧ d.toList.isEmpty = false ∧ (¬ d.toList = []) ∧ ¬ d = ⟨#[]⟩ := by
  obtain ⟨t, ht⟩ := list_cons d h
  refine ⟨by rw [Lib.toList_data, ht]; rfl, by rw [Lib.toList_data, ht]; rfl, by rw [Lib.toList_data, ht]; simp, ?_⟩
  rintro rfl
  cases h
set_option maxRecDepth 100000 in
set_option maxHeartbeats 8000000 in
theorem numbers_false {a b : Nat} {w : World} (hT : HasTab w) (ha : a ≤ 4294967295) (hb : b ≤ 4294967295) :
    Calls Tryd.prog 8 #[.int .u32 (a : Int), .int .u32 (b : Int), .bool false] w fun e w' => e = .returned (.bool true) ∧ Below w.heap.size w w' := by
  have hlt := hT.lt
  have HT := Lib.hid hT
  clear hT
  go_enter Tryd.func8, Tryd.ntmps8
  go_wp2
  go_loopg [7, 8] 10 (fun g sd sm wx => ∃ (d : ByteArray) (m : Nat), d.size + g = 10 ∧ sd = .string d ∧ sm = .int .u32 (m : Int) ∧ DW d m g ∧ m ≤ 4294967295 ∧ (d.size = 0 → g = 10) ∧ wx = w)
  case atStart => exact ⟨⟨#[]⟩, a, by rfl, rfl, rfl, ⟨(by intro c hc; cases hc), Nat.lt_of_le_of_lt (m := 4294967295) (by omega) (show 4294967295 < 10 ^ 10 by decide)⟩, by omega, by intro _; rfl, rfl⟩
  case round =>
    obtain ⟨d, m, hdg, rfl, rfl, hD, hm, hd10, rfl⟩ := hrel
    have HD := Lib.hid hD
    clear hD
    obtain ⟨r, hr⟩ : ∃ r, r = m % 10 := ⟨_, rfl⟩
    have hr10 : r < 10 := by omega
    by_cases hd0 : d.size = 0
    · obtain ⟨gg, rfl⟩ : ∃ gg, gk = gg + 1 := ⟨9, by omega⟩
      have hde := bytes_empty d hd0
      subst hde
      clear hd10 hd0
      obtain ⟨gp, hgp⟩ : ∃ gp, gp = decide (0 < m) := ⟨_, rfl⟩
      have hg : decide (0 < m) = gp := hgp.symm
      have hg2 : decide ((0 : Int) < (m : Int)) = gp := by rw [hgp]; simp
      clear hgp
      cases gp <;>
      · skip
        have hm1 : (m : Int) % 10 = (r : Int) := by rw [hr]; simp
        obtain ⟨d', hd'⟩ : ∃ d', d' = DIG.extract r (r + 1) ++ ⟨#[]⟩ := ⟨_, rfl⟩
        have hadd : ∀ W, (Op.stringOp .add (DIG.extract r (r + 1)) ⟨#[]⟩).run Tryd.prog W = .ok (.string d') W := fun W => by rw [hd']; exact run_string_add_sum W _ _ (by rw [dig_one hr10]; omega)
        have hdw := dig_front hr10 HD.out.all
        rw [← hd'] at hdw
        have HDW := Lib.hid hdw
        have hsz' := hdw.2
        have r0 : (0 : Int) ≤ (r : Int) := by omega
        have r1 : (r : Int) ≤ (r : Int) + 1 := by omega
        have r2 : (r : Int) + 1 ≤ 10 := by omega
        have r3 : ((r : Int) + 1).toNat = r + 1 := by omega
        unfold DIG at hadd
        have HS := Lib.hid hsz'
        clear hd' hdw hsz' hr
        go_wp2_with fail
        go_roundg gg
        case measure => omega
        case rel => exact ⟨d', m / 10, by rw [HS.out]; omega, rfl, by first | rfl | (simp; done) | (congr 1; simp), ⟨HDW.out.1, pow_down HD.out.small⟩, by omega, by intro h; rw [HS.out] at h; omega, rfl⟩
    · have hdp : 0 < d.size := by omega
      have hef := empty_facts d hdp
      obtain ⟨f1, f2, f3, f4⟩ := hef
      clear hd10 hd0
      by_cases hm0 : m = 0
      · have hg : decide ((0 : Int) < (m : Int)) = false := by simp; omega
        have hg2 : decide (0 < m) = false := by simp; omega
        have hdz : d.size ≤ 10 := by omega
        have HDG := Lib.hid hdg
        clear hr hr10
        obtain ⟨S, hS⟩ : ∃ S, S = d := ⟨_, rfl⟩
        obtain ⟨sx0, hx0⟩ : ∃ sx0 : ByteArray, sx0 = ⟨#[120]⟩ := ⟨_, rfl⟩
        obtain ⟨sp0, hp0⟩ : ∃ sp0 : ByteArray, sp0 = ⟨#[46]⟩ := ⟨_, rfl⟩
        subst hS
        have hSne : S.data.toList ≠ [] := by intro e; rw [size_list, e] at hdp; simp at hdp
        have hSx : Tk.Rd (S ++ sx0).data.toList 0 [⟨2, S.data.toList, 0⟩, ⟨1, [120], S.data.toList.length⟩] none := by
          have := rd_x (S := S.data.toList) (num_plain HD.out.all hSne (.inl rfl))
          rw [hx0]
          simpa using this
        have hSp : Tk.Rd (S ++ sp0).data.toList 0 [⟨2, S.data.toList, 0⟩] (some S.data.toList.length) := by
          have := rd_p (S := S.data.toList) (num_plain HD.out.all hSne (.inr rfl))
          rw [hp0]
          simpa using this
        obtain ⟨sx, hsx⟩ : ∃ sx, sx = S ++ sx0 := ⟨_, rfl⟩
        obtain ⟨sp, hsp⟩ : ∃ sp, sp = S ++ sp0 := ⟨_, rfl⟩
        have hz1 : sx.size ≤ 100 := by rw [hsx, hx0, ByteArray.size_append]; show S.size + 1 ≤ 100; omega
        have hz2 : sp.size ≤ 100 := by rw [hsp, hp0, ByteArray.size_append]; show S.size + 1 ≤ 100; omega
        have ax : ∀ W, (Op.stringOp .add S ⟨#[120]⟩).run Tryd.prog W = .ok (.string sx) W := fun W => by rw [hsx, hx0]; exact run_string_add_sum W _ _ (by show S.size + 1 ≤ _; omega)
        have ap : ∀ W, (Op.stringOp .add S ⟨#[46]⟩).run Tryd.prog W = .ok (.string sp) W := fun W => by rw [hsp, hp0]; exact run_string_add_sum W _ _ (by show S.size + 1 ≤ _; omega)
        rw [← hsx, ← size_list] at hSx
        rw [← hsp, ← size_list] at hSp
        have HX := Lib.hid hSx
        have HP := Lib.hid hSp
        clear hSx hSp hsx hsp hx0 hp0
        go_wp2_with fail
        refine (read_any (by omega) HT.out HX.out).mono ?_
        rintro e w2 ⟨v, rfl, g2, b2⟩
        have B2 := Lib.hid b2
        have G2 := Lib.hid g2.reads
        obtain ⟨a, cap, rfl, _⟩ := g2.reads
        clear b2 g2
        go_wp2_with fail
        refine (read_any (by omega) (HT.out.below B2.out hlt) HP.out).mono ?_
        rintro e w3 ⟨rfl, b3⟩
        have B3 := Lib.hid (then_below B2.out b3)
        have G3 := Lib.hid (G2.out.below b3)
        clear b3 G2 B2
        go_wp2_with fail
        refine (alive_any (HT.out.below B3.out hlt)).mono ?_
        rintro e w4 ⟨rfl, b4⟩
        have B4 := Lib.hid (then_below B3.out b4)
        obtain ⟨a', cap', e', hcc⟩ := G3.out.below b4
        simp only [Value.slice.injEq] at e'
        obtain ⟨rfl, -, rfl⟩ := e'
        obtain ⟨bb, rfl, hbb, hcc⟩ := hcc (by simp)
        have c0 := hcc 0 _ rfl 0 (by omega)
        have c1 := hcc 0 _ rfl 1 (by omega)
        have c2 := hcc 0 _ rfl 2 (by omega)
        have c4 := hcc 1 _ rfl 1 (by omega)
        have c5 := hcc 1 _ rfl 2 (by omega)
        simp [tcell] at c0 c1 c2 c4 c5
        clear b4 hcc G3 B3
        go_wp2_with fail
        go_ret
        exact ⟨ret_bool (by first | rfl | simp), B4.out⟩
      · have hg : decide ((0 : Int) < (m : Int)) = true := by simp; omega
        have hg2 : decide (0 < m) = true := by simp; omega
        obtain ⟨gg, rfl⟩ : ∃ gg, gk = gg + 1 := by
          cases hgk : gk with
          | zero =>
            have := HD.out.small
            rw [hgk] at this
            simp at this
            omega
          | succ gg => exact ⟨gg, rfl⟩
        have hm1 : (m : Int) % 10 = (r : Int) := by rw [hr]; simp
        obtain ⟨d', hd'⟩ : ∃ d', d' = DIG.extract r (r + 1) ++ d := ⟨_, rfl⟩
        have hadd : ∀ W, (Op.stringOp .add (DIG.extract r (r + 1)) d).run Tryd.prog W = .ok (.string d') W := fun W => by rw [hd']; exact run_string_add_sum W _ _ (by rw [dig_one hr10]; omega)
        have hdw := dig_front hr10 HD.out.all
        rw [← hd'] at hdw
        have HDW := Lib.hid hdw
        have hsz' := hdw.2
        have r0 : (0 : Int) ≤ (r : Int) := by omega
        have r1 : (r : Int) ≤ (r : Int) + 1 := by omega
        have r2 : (r : Int) + 1 ≤ 10 := by omega
        have r3 : ((r : Int) + 1).toNat = r + 1 := by omega
        unfold DIG at hadd
        have HS := Lib.hid hsz'
        clear hd' hdw hsz' hr
        go_wp2_with fail
        go_roundg gg
        case measure => omega
        case rel => exact ⟨d', m / 10, by rw [HS.out]; omega, rfl, by first | rfl | (simp; done) | (congr 1; simp), ⟨HDW.out.1, pow_down HD.out.small⟩, by omega, by intro h; rw [HS.out] at h; omega, rfl⟩
set_option maxRecDepth 100000 in
set_option maxHeartbeats 8000000 in
theorem numbers_true {a b : Nat} {w : World} (hT : HasTab w) (ha : a ≤ 4294967295) (hb : b ≤ 4294967295) :
    Calls Tryd.prog 8 #[.int .u32 (a : Int), .int .u32 (b : Int), .bool true] w fun e w' => e = .returned (.bool true) ∧ Below w.heap.size w w' := by
  have hlt := hT.lt
  have HT := Lib.hid hT
  clear hT
  go_enter Tryd.func8, Tryd.ntmps8
  go_wp2
  go_loopg [7, 8] 10 (fun g sd sm wx => ∃ (d : ByteArray) (m : Nat), d.size + g = 10 ∧ sd = .string d ∧ sm = .int .u32 (m : Int) ∧ DW d m g ∧ m ≤ 4294967295 ∧ (d.size = 0 → g = 10) ∧ wx = w)
  case atStart => exact ⟨⟨#[]⟩, a, by rfl, rfl, rfl, ⟨(by intro c hc; cases hc), Nat.lt_of_le_of_lt (m := 4294967295) (by omega) (show 4294967295 < 10 ^ 10 by decide)⟩, by omega, by intro _; rfl, rfl⟩
  case round =>
    obtain ⟨d, m, hdg, rfl, rfl, hD, hm, hd10, rfl⟩ := hrel
    have HD := Lib.hid hD
    clear hD
    obtain ⟨r, hr⟩ : ∃ r, r = m % 10 := ⟨_, rfl⟩
    have hr10 : r < 10 := by omega
    by_cases hd0 : d.size = 0
    · obtain ⟨gg, rfl⟩ : ∃ gg, gk = gg + 1 := ⟨9, by omega⟩
      have hde := bytes_empty d hd0
      subst hde
      clear hd10 hd0
      obtain ⟨gp, hgp⟩ : ∃ gp, gp = decide (0 < m) := ⟨_, rfl⟩
      have hg : decide (0 < m) = gp := hgp.symm
      have hg2 : decide ((0 : Int) < (m : Int)) = gp := by rw [hgp]; simp
      clear hgp
      cases gp <;>
      · skip
        have hm1 : (m : Int) % 10 = (r : Int) := by rw [hr]; simp
        obtain ⟨d', hd'⟩ : ∃ d', d' = DIG.extract r (r + 1) ++ ⟨#[]⟩ := ⟨_, rfl⟩
        have hadd : ∀ W, (Op.stringOp .add (DIG.extract r (r + 1)) ⟨#[]⟩).run Tryd.prog W = .ok (.string d') W := fun W => by rw [hd']; exact run_string_add_sum W _ _ (by rw [dig_one hr10]; omega)
        have hdw := dig_front hr10 HD.out.all
        rw [← hd'] at hdw
        have HDW := Lib.hid hdw
        have hsz' := hdw.2
        have r0 : (0 : Int) ≤ (r : Int) := by omega
        have r1 : (r : Int) ≤ (r : Int) + 1 := by omega
        have r2 : (r : Int) + 1 ≤ 10 := by omega
        have r3 : ((r : Int) + 1).toNat = r + 1 := by omega
        unfold DIG at hadd
        have HS := Lib.hid hsz'
        clear hd' hdw hsz' hr
        go_wp2_with fail
        go_roundg gg
        case measure => omega
        case rel => exact ⟨d', m / 10, by rw [HS.out]; omega, rfl, by first | rfl | (simp; done) | (congr 1; simp), ⟨HDW.out.1, pow_down HD.out.small⟩, by omega, by intro h; rw [HS.out] at h; omega, rfl⟩
    · have hdp : 0 < d.size := by omega
      have hef := empty_facts d hdp
      obtain ⟨f1, f2, f3, f4⟩ := hef
      clear hd10 hd0
      by_cases hm0 : m = 0
      · have hg : decide ((0 : Int) < (m : Int)) = false := by simp; omega
        have hg2 : decide (0 < m) = false := by simp; omega
        have hdz : d.size ≤ 10 := by omega
        have HDG := Lib.hid hdg
        clear hr hr10
        obtain ⟨D, hDd⟩ : ∃ D, D = d := ⟨_, rfl⟩
        subst hDd
        have hDne : Hid (D.data.toList ≠ []) := Lib.hid (by intro e; rw [size_list, e] at hdp; simp at hdp)
        have HD1 : Hid (AllDig D) := Lib.hid HD.out.all
        have HDZ := Lib.hid hdz
        go_wp2
        clear HD HDG hdz hdp f1 f2 f3 f4 hm0 hg hg2
        go_loopg [9, 10] 10 (fun g sd sm wx => ∃ (d : ByteArray) (m : Nat), d.size + g = 10 ∧ sd = .string d ∧ sm = .int .u32 (m : Int) ∧ DW d m g ∧ m ≤ 4294967295 ∧ (d.size = 0 → g = 10) ∧ wx = wr)
        case atStart => exact ⟨⟨#[]⟩, b, by rfl, rfl, rfl, ⟨(by intro c hc; cases hc), Nat.lt_of_le_of_lt (m := 4294967295) (by omega) (show 4294967295 < 10 ^ 10 by decide)⟩, by omega, by intro _; rfl, rfl⟩
        case round =>
          obtain ⟨d, m, hdg, rfl, rfl, hD, hm, hd10, rfl⟩ := hrel
          have HD := Lib.hid hD
          clear hD
          obtain ⟨r, hr⟩ : ∃ r, r = m % 10 := ⟨_, rfl⟩
          have hr10 : r < 10 := by omega
          by_cases hd0 : d.size = 0
          · obtain ⟨gg, rfl⟩ : ∃ gg, gk = gg + 1 := ⟨9, by omega⟩
            have hde := bytes_empty d hd0
            subst hde
            clear hd10 hd0
            obtain ⟨gp, hgp⟩ : ∃ gp, gp = decide (0 < m) := ⟨_, rfl⟩
            have hg : decide (0 < m) = gp := hgp.symm
            have hg2 : decide ((0 : Int) < (m : Int)) = gp := by rw [hgp]; simp
            clear hgp
            cases gp <;>
            · skip
              have hm1 : (m : Int) % 10 = (r : Int) := by rw [hr]; simp
              obtain ⟨d', hd'⟩ : ∃ d', d' = ⟨#[]⟩ ++ DIG.extract r (r + 1) := ⟨_, rfl⟩
              have hadd : ∀ W, (Op.stringOp .add ⟨#[]⟩ (DIG.extract r (r + 1))).run Tryd.prog W = .ok (.string d') W := fun W => by rw [hd']; exact run_string_add_sum W _ _ (by rw [dig_one hr10]; omega)
              have hdw := dig_back hr10 HD.out.all
              rw [← hd'] at hdw
              have HDW := Lib.hid hdw
              have hsz' := hdw.2
              have r0 : (0 : Int) ≤ (r : Int) := by omega
              have r1 : (r : Int) ≤ (r : Int) + 1 := by omega
              have r2 : (r : Int) + 1 ≤ 10 := by omega
              have r3 : ((r : Int) + 1).toNat = r + 1 := by omega
              unfold DIG at hadd
              have HS := Lib.hid hsz'
              clear hd' hdw hsz' hr
              go_wp2_with fail
              go_roundg gg
              case measure => omega
              case rel => exact ⟨d', m / 10, by rw [HS.out]; omega, rfl, by first | rfl | (simp; done) | (congr 1; simp), ⟨HDW.out.1, pow_down HD.out.small⟩, by omega, by intro h; rw [HS.out] at h; omega, rfl⟩
          · have hdp : 0 < d.size := by omega
            have hef := empty_facts d hdp
            obtain ⟨f1, f2, f3, f4⟩ := hef
            clear hd10 hd0
            by_cases hm0 : m = 0
            · have hg : decide ((0 : Int) < (m : Int)) = false := by simp; omega
              have hg2 : decide (0 < m) = false := by simp; omega
              have hdz : d.size ≤ 10 := by omega
              have HDG := Lib.hid hdg
              clear hr hr10
              obtain ⟨E, hE⟩ : ∃ E, E = d := ⟨_, rfl⟩
              subst hE
              have hEne : E.data.toList ≠ [] := by intro e; rw [size_list, e] at hdp; simp at hdp
              obtain ⟨sx0, hx0⟩ : ∃ sx0 : ByteArray, sx0 = ⟨#[120]⟩ := ⟨_, rfl⟩
              obtain ⟨sp0, hp0⟩ : ∃ sp0 : ByteArray, sp0 = ⟨#[46]⟩ := ⟨_, rfl⟩
              obtain ⟨M, hM⟩ : ∃ M, M = D ++ sp0 := ⟨_, rfl⟩
              obtain ⟨S, hS⟩ : ∃ S, S = M ++ E := ⟨_, rfl⟩
              have hDz := HDZ.out
              have am : ∀ W, (Op.stringOp .add D ⟨#[46]⟩).run Tryd.prog W = .ok (.string M) W := fun W => by rw [hM, hp0]; exact run_string_add_sum W _ _ (by show D.size + 1 ≤ _; omega)
              have hMz : M.size = D.size + 1 := by rw [hM, hp0, ByteArray.size_append]; rfl
              have a5 : ∀ W, (Op.stringOp .add M E).run Tryd.prog W = .ok (.string S) W := fun W => by rw [hS]; exact run_string_add_sum W _ _ (by omega)
              have hSz : S.size ≤ 21 := by rw [hS, ByteArray.size_append]; omega
              have hSl : S.data.toList = D.data.toList ++ 46 :: E.data.toList := by rw [hS, hM, hp0, ByteArray.data_append, ByteArray.data_append, Array.toList_append, Array.toList_append]; simp
              clear hM hS hMz hDz
              have hSx : Tk.Rd (S ++ sx0).data.toList 0 [⟨2, S.data.toList, 0⟩, ⟨1, [120], S.data.toList.length⟩] none := by
                have := rd_x (S := S.data.toList) (by rw [hSl]; exact num_point HD1.out hDne.out HD.out.all hEne (.inl rfl))
                rw [hx0]
                simpa using this
              have hSp : Tk.Rd (S ++ sp0).data.toList 0 [⟨2, S.data.toList, 0⟩] (some S.data.toList.length) := by
                have := rd_p (S := S.data.toList) (by rw [hSl]; exact num_point HD1.out hDne.out HD.out.all hEne (.inr rfl))
                rw [hp0]
                simpa using this
              obtain ⟨sx, hsx⟩ : ∃ sx, sx = S ++ sx0 := ⟨_, rfl⟩
              obtain ⟨sp, hsp⟩ : ∃ sp, sp = S ++ sp0 := ⟨_, rfl⟩
              have hz1 : sx.size ≤ 100 := by rw [hsx, hx0, ByteArray.size_append]; show S.size + 1 ≤ 100; omega
              have hz2 : sp.size ≤ 100 := by rw [hsp, hp0, ByteArray.size_append]; show S.size + 1 ≤ 100; omega
              have ax : ∀ W, (Op.stringOp .add S ⟨#[120]⟩).run Tryd.prog W = .ok (.string sx) W := fun W => by rw [hsx, hx0]; exact run_string_add_sum W _ _ (by show S.size + 1 ≤ _; omega)
              have ap : ∀ W, (Op.stringOp .add S ⟨#[46]⟩).run Tryd.prog W = .ok (.string sp) W := fun W => by rw [hsp, hp0]; exact run_string_add_sum W _ _ (by show S.size + 1 ≤ _; omega)
              rw [← hsx, ← size_list] at hSx
              rw [← hsp, ← size_list] at hSp
              have HX := Lib.hid hSx
              have HP := Lib.hid hSp
              clear hSl hSx hSp hsx hsp hx0 hp0
              go_wp2_with fail
              refine (read_any (by omega) HT.out HX.out).mono ?_
              rintro e w2 ⟨v, rfl, g2, b2⟩
              have B2 := Lib.hid b2
              have G2 := Lib.hid g2.reads
              obtain ⟨a, cap, rfl, _⟩ := g2.reads
              clear b2 g2
              go_wp2_with fail
              refine (read_any (by omega) (HT.out.below B2.out hlt) HP.out).mono ?_
              rintro e w3 ⟨rfl, b3⟩
              have B3 := Lib.hid (then_below B2.out b3)
              have G3 := Lib.hid (G2.out.below b3)
              clear b3 G2 B2
              go_wp2_with fail
              refine (alive_any (HT.out.below B3.out hlt)).mono ?_
              rintro e w4 ⟨rfl, b4⟩
              have B4 := Lib.hid (then_below B3.out b4)
              obtain ⟨a', cap', e', hcc⟩ := G3.out.below b4
              simp only [Value.slice.injEq] at e'
              obtain ⟨rfl, -, rfl⟩ := e'
              obtain ⟨bb, rfl, hbb, hcc⟩ := hcc (by simp)
              have c0 := hcc 0 _ rfl 0 (by omega)
              have c1 := hcc 0 _ rfl 1 (by omega)
              have c2 := hcc 0 _ rfl 2 (by omega)
              have c4 := hcc 1 _ rfl 1 (by omega)
              have c5 := hcc 1 _ rfl 2 (by omega)
              simp [tcell] at c0 c1 c2 c4 c5
              clear b4 hcc G3 B3
              go_wp2_with fail
              go_ret
              exact ⟨ret_bool (by first | rfl | simp), B4.out⟩
            · have hg : decide ((0 : Int) < (m : Int)) = true := by simp; omega
              have hg2 : decide (0 < m) = true := by simp; omega
              obtain ⟨gg, rfl⟩ : ∃ gg, gk = gg + 1 := by
                cases hgk : gk with
                | zero =>
                  have := HD.out.small
                  rw [hgk] at this
                  simp at this
                  omega
                | succ gg => exact ⟨gg, rfl⟩
              have hm1 : (m : Int) % 10 = (r : Int) := by rw [hr]; simp
              obtain ⟨d', hd'⟩ : ∃ d', d' = d ++ DIG.extract r (r + 1) := ⟨_, rfl⟩
              have hadd : ∀ W, (Op.stringOp .add d (DIG.extract r (r + 1))).run Tryd.prog W = .ok (.string d') W := fun W => by rw [hd']; exact run_string_add_sum W _ _ (by rw [dig_one hr10]; omega)
              have hdw := dig_back hr10 HD.out.all
              rw [← hd'] at hdw
              have HDW := Lib.hid hdw
              have hsz' := hdw.2
              have r0 : (0 : Int) ≤ (r : Int) := by omega
              have r1 : (r : Int) ≤ (r : Int) + 1 := by omega
              have r2 : (r : Int) + 1 ≤ 10 := by omega
              have r3 : ((r : Int) + 1).toNat = r + 1 := by omega
              unfold DIG at hadd
              have HS := Lib.hid hsz'
              clear hd' hdw hsz' hr
              go_wp2_with fail
              go_roundg gg
              case measure => omega
              case rel => exact ⟨d', m / 10, by rw [HS.out]; omega, rfl, by first | rfl | (simp; done) | (congr 1; simp), ⟨HDW.out.1, pow_down HD.out.small⟩, by omega, by intro h; rw [HS.out] at h; omega, rfl⟩
      · have hg : decide ((0 : Int) < (m : Int)) = true := by simp; omega
        have hg2 : decide (0 < m) = true := by simp; omega
        obtain ⟨gg, rfl⟩ : ∃ gg, gk = gg + 1 := by
          cases hgk : gk with
          | zero =>
            have := HD.out.small
            rw [hgk] at this
            simp at this
            omega
          | succ gg => exact ⟨gg, rfl⟩
        have hm1 : (m : Int) % 10 = (r : Int) := by rw [hr]; simp
        obtain ⟨d', hd'⟩ : ∃ d', d' = DIG.extract r (r + 1) ++ d := ⟨_, rfl⟩
        have hadd : ∀ W, (Op.stringOp .add (DIG.extract r (r + 1)) d).run Tryd.prog W = .ok (.string d') W := fun W => by rw [hd']; exact run_string_add_sum W _ _ (by rw [dig_one hr10]; omega)
        have hdw := dig_front hr10 HD.out.all
        rw [← hd'] at hdw
        have HDW := Lib.hid hdw
        have hsz' := hdw.2
        have r0 : (0 : Int) ≤ (r : Int) := by omega
        have r1 : (r : Int) ≤ (r : Int) + 1 := by omega
        have r2 : (r : Int) + 1 ≤ 10 := by omega
        have r3 : ((r : Int) + 1).toNat = r + 1 := by omega
        unfold DIG at hadd
        have HS := Lib.hid hsz'
        clear hd' hdw hsz' hr
        go_wp2_with fail
        go_roundg gg
        case measure => omega
        case rel => exact ⟨d', m / 10, by rw [HS.out]; omega, rfl, by first | rfl | (simp; done) | (congr 1; simp), ⟨HDW.out.1, pow_down HD.out.small⟩, by omega, by intro h; rw [HS.out] at h; omega, rfl⟩

theorem numbers_any {x y : Int} {p : Bool} {w : World} (hT : HasTab w) (hx : (Lit.int .u32 x).wf = true) (hy : (Lit.int .u32 y).wf = true) :
    Calls Tryd.prog 8 #[.int .u32 x, .int .u32 y, .bool p] w fun e w' => e = .returned (.bool true) ∧ Below w.heap.size w w' := by
  simp [Lit.wf, IntKind.min, IntKind.max, IntKind.signed, IntKind.bits] at hx hy
  obtain ⟨a, rfl⟩ : ∃ a : Nat, x = (a : Int) := ⟨x.toNat, by omega⟩
  obtain ⟨b, rfl⟩ : ∃ b : Nat, y = (b : Int) := ⟨y.toNat, by omega⟩
  cases p with
  | false => exact numbers_false hT (by omega) (by omega)
  | true => exact numbers_true hT (by omega) (by omega)
end Go.Proofs.YtfnblnemdepimaaDoor
