/- TokensWords: the walk. -/
import Derived.Test.YtfnblnemdepimaaDoorTkV
import Derived.Test.YtfnblnemdepimaaDoorTkQ
import Derived.Test.YtfnblnemdepimaaDoorTkP
import Derived.Laws.IdiomStrings
import Derived.Laws.Concat
namespace Go.Proofs.YtfnblnemdepimaaDoor
open Go Go.Proofs Go.RowKit Go.Shelf
set_option linter.unusedVariables false
set_option linter.unusedSimpArgs false

theorem name_word {l : List UInt8} (h : nameB l = true) : ∃ c t, l = c :: t ∧ Tk.letter c = true ∧ Tk.run Tk.ofWord l = l.length ∧ l.length ≤ 32 := by
  unfold nameB at h
  simp only [Bool.and_eq_true, decide_eq_true_eq, beq_iff_eq] at h
  obtain ⟨⟨⟨h0, h1⟩, h2⟩, _⟩ := h
  cases l with
  | nil => simp at h0
  | cons c t =>
    refine ⟨c, t, rfl, ?_, ?_, h1⟩
    · exact word_letter (l := t) (by rw [h2]; simp)
    · have hc := word_letter (l := t) (by rw [h2]; simp)
      simp only [wordN, hc, if_true] at h2
      exact h2
theorem rd_word {l : List UInt8} {c : UInt8} {t : List UInt8} (hl : l = c :: t) (hc : Tk.letter c = true) (hr : Tk.run Tk.ofWord l = l.length) : Tk.Rd l 0 [⟨1, l, 0⟩] none := by
  have ht : Tk.tokN l = some (1, l.length) := by
    rw [hl] at hr ⊢
    simp only [Tk.tokN, hc, if_true, hr]
  have := Tk.Rd.tok (k := 0) ht (ts := []) (e := none) (by rw [List.drop_length]; exact .nil _)
  rwa [List.take_length] at this
theorem run_snoc {p : UInt8 → Bool} (l : List UInt8) (d : UInt8) (h : Tk.run p l = l.length) : Tk.run p (l ++ [d]) = if p d then l.length + 1 else l.length := by
  have ha : ∀ c ∈ l, p c = true := by
    have := Tk.run_take p l
    rw [h, List.take_length] at this
    exact this
  by_cases hd : p d = true
  · rw [if_pos hd]
    have := Tk.run_all p (l ++ [d]) (by intro c hc; rcases List.mem_append.1 hc with hc | hc; exact ha c hc; simp at hc; rw [hc]; exact hd)
    rw [this]; simp
  · rw [if_neg hd]
    have := Tk.run_eq p l [d] ha (by intro c t h; simp at h; rw [← h.1]; simpa using hd)
    exact this
theorem rd_more {l : List UInt8} {d : UInt8} (h : nameB l = true) (hd : Tk.ofWord d = true) : Tk.Rd (l ++ [d]) 0 [⟨1, l ++ [d], 0⟩] none := by
  obtain ⟨c, t, hl, hc, hr, _⟩ := name_word h
  have h2 := run_snoc l d hr
  rw [if_pos hd] at h2
  exact rd_word (c := c) (t := t ++ [d]) (by rw [hl]; rfl) hc (by rw [h2]; simp)
theorem name_more {l : List UInt8} {d : UInt8} (h : nameB l = true) (hd : Tk.ofWord d = false) : nameB (l ++ [d]) = false := by
  obtain ⟨c, t, hl, hc, hr, _⟩ := name_word h
  have h2 := run_snoc l d hr
  rw [if_neg (by simp [hd])] at h2
  have h3 : wordN (l ++ [d]) = l.length := by
    rw [← h2, hl]
    simp only [List.cons_append, wordN, hc, if_true]
  unfold nameB
  rw [h3]
  simp
theorem rd_first {l : List UInt8} {d : UInt8} (h : nameB l = true) (hd : Tk.ofWord d = false) {ts : List Tk.Tok} {x : Option Nat} (hR : Tk.Rd (l ++ [d]) 0 ts x) : ∃ ts', ts = ⟨1, l, 0⟩ :: ts' := by
  obtain ⟨c, t, hl, hc, hr, _⟩ := name_word h
  have h2 := run_snoc l d hr
  rw [if_neg (by simp [hd])] at h2
  have ht : Tk.tokN (l ++ [d]) = some (1, l.length) := by
    rw [← h2, hl]
    simp only [List.cons_append, Tk.tokN, hc, if_true]
  obtain ⟨ts', e, _⟩ := Tk.Rd.of_tok ht hR
  exact ⟨ts', by rw [e]; simp⟩
theorem name_len {l : List UInt8} (h : nameB l = true) : l.length ≤ 32 := by obtain ⟨_, _, _, _, _, h⟩ := name_word h; exact h

set_option maxRecDepth 100000 in
set_option maxHeartbeats 4000000 in
theorem words_far {s : ByteArray} {x : Int} {w : World} (hT : HasTab w) (hs : 1000 < s.size) :
    Calls Tryd.prog 7 #[.string s, .int .u8 x] w fun e w' => e = .returned (.bool true) ∧ Below w.heap.size w w' := by
  have hlt := hT.lt
  have HT := Lib.hid hT
  have d1 : decide ((1000 : Int) < (s.size : Int)) = true := by simp; omega
  clear hT
  go_enter Tryd.func7, Tryd.ntmps7
  go_wp2_with fail
  refine (alive_any HT.out).mono ?_
  rintro e w1 ⟨rfl, b1⟩
  have B1 := Lib.hid b1
  clear b1
  go_wp2_with fail
  refine (alive_any (HT.out.below B1.out hlt)).mono ?_
  rintro e w2 ⟨rfl, b2⟩
  have B2 := Lib.hid (then_below B1.out b2)
  clear b2
  go_wp2_with fail
  go_ret
  exact ⟨rfl, B2.out⟩
set_option maxRecDepth 100000 in
set_option maxHeartbeats 4000000 in
theorem words_none {s : ByteArray} {x : Int} {w : World} (hT : HasTab w) (hs : s.size ≤ 1000) (hN : nameB s.data.toList = false) :
    Calls Tryd.prog 7 #[.string s, .int .u8 x] w fun e w' => e = .returned (.bool true) ∧ Below w.heap.size w w' := by
  have hlt := hT.lt
  have HT := Lib.hid hT
  have d1 : decide ((1000 : Int) < (s.size : Int)) = false := by simp; omega
  have kn := fun W => name_is s W false (by omega) hN
  clear hT hN
  go_enter Tryd.func7, Tryd.ntmps7
  go_wp2_with fail
  refine (alive_any HT.out).mono ?_
  rintro e w1 ⟨rfl, b1⟩
  have B1 := Lib.hid b1
  clear b1
  go_wp2_with fail
  refine (kn _).mono ?_
  rintro e w1' ⟨rfl, rfl⟩
  go_wp2_with fail
  refine (alive_any (HT.out.below B1.out hlt)).mono ?_
  rintro e w2 ⟨rfl, b2⟩
  have B2 := Lib.hid (then_below B1.out b2)
  clear b2
  go_wp2_with fail
  go_ret
  exact ⟨rfl, B2.out⟩
theorem conv_one (c : UInt8) (W : World) : (convert 36 9 (.slice (some ⟨W.heap.size, 0, none⟩) 1 1)).run Tryd.prog (W.alloc (.cells #[.int .u8 (c.toNat : Int)] 5)) = .ok (.string ⟨#[c]⟩) (W.alloc (.cells #[.int .u8 (c.toNat : Int)] 5)) := by
  have := run_convert_bytes_back (P := Tryd.prog) (W.alloc (.cells #[.int .u8 (c.toNat : Int)] 5)) 36 9 5 ⟨W.heap.size, 0, none⟩ 1 [c] (by kernel_rfl) (by kernel_rfl) (by kernel_rfl) (fun j hj => by
    have hj0 : j = 0 := by simp at hj; exact hj
    subst hj0
    rw [Addr.add_lit, cell_of_row _ _ _ _ _ (0, 0) (heap_alloc_new W _)]
    rfl)
  exact this

set_option maxRecDepth 100000 in
set_option maxHeartbeats 8000000 in
theorem words_sign {s : ByteArray} {c : UInt8} {w : World} (hT : HasTab w) (hs : s.size ≤ 1000) (hN : nameB s.data.toList = true) (hc : Tk.ofWord c = true) :
    Calls Tryd.prog 7 #[.string s, .int .u8 (c.toNat : Int)] w fun e w' => e = .returned (.bool true) ∧ Below w.heap.size w w' := by
  have hlt := hT.lt
  have HT := Lib.hid hT
  have d1 : decide ((1000 : Int) < (s.size : Int)) = false := by simp; omega
  have hlen := name_len hN
  rw [← size_list] at hlen
  have d2 : decide ((32 : Int) < (s.size : Int)) = false := by simp; omega
  have kn := fun W => name_is s W true (by omega) hN
  obtain ⟨c0, t0, hl, h1, h2, _⟩ := name_word hN
  have HR := Lib.hid (rd_word hl h1 h2)
  obtain ⟨m, hm⟩ : ∃ m : ByteArray, m = ⟨#[c]⟩ := ⟨_, rfl⟩
  obtain ⟨more, hmore⟩ : ∃ more, more = s ++ m := ⟨_, rfl⟩
  have hml : more.data.toList = s.data.toList ++ [c] := by rw [hmore, hm]; simp
  have hmz : more.size = s.size + 1 := by rw [size_list, hml, List.length_append, ← size_list]; rfl
  have hR2 := rd_more hN hc
  rw [← hml] at hR2
  have HR2 := Lib.hid hR2
  have hcv := fun W => conv_one c W
  have hadd : ∀ W, (Op.stringOp .add s m).run Tryd.prog W = .ok (.string more) W := fun W => by rw [hmore]; exact run_string_add_sum W s m (by rw [hm]; show s.size + 1 ≤ _; omega)
  rw [← hm] at hcv
  obtain ⟨b, hb⟩ : ∃ b, b = nameB more.data.toList := ⟨_, rfl⟩
  have kn2 := fun W => name_is more W b (by omega) hb.symm
  have hb32 : b = true → s.size < 32 := fun h => by
    rw [h] at hb
    have := name_len hb.symm
    rw [← size_list] at this
    omega
  have HML := Lib.hid hml
  have HMZ := Lib.hid hmz
  have hmle : more.size ≤ 1001 := by omega
  obtain ⟨n, hn⟩ : ∃ n, n = c.toNat := ⟨_, rfl⟩
  have hcase : (97 ≤ n ∧ n ≤ 122) ∨ (65 ≤ n ∧ n ≤ 90) ∨ (48 ≤ n ∧ n ≤ 57) ∨ (95 ≤ n ∧ n ≤ 95) := by
    simp only [Tk.ofWord, Bool.or_eq_true, beq_iff_eq] at hc
    rcases hc with (hc | hc) | hc
    · have := Tk.letter_lo hc; omega
    · have := Tk.digit_lo hc; omega
    · have : c.toNat = 95 := by rw [hc]; rfl
      omega
  rw [← hn] at hcv ⊢
  clear hT hN hc hl h1 h2 hR2 hm hmore hml hmz hb hn
  have hcase2 : ∃ (lo hi : Nat) (q : Bool), lo ≤ n ∧ n ≤ hi ∧ ((n : Int) == 95) = q ∧ ((lo = 97 ∧ hi = 122 ∧ q = false) ∨ (lo = 65 ∧ hi = 90 ∧ q = false) ∨ (lo = 48 ∧ hi = 57 ∧ q = false) ∨ (lo = 95 ∧ hi = 95 ∧ q = true)) := by
    rcases hcase with h | h | h | h
    · exact ⟨97, 122, false, by omega, by omega, by simp; omega, by simp⟩
    · exact ⟨65, 90, false, by omega, by omega, by simp; omega, by simp⟩
    · exact ⟨48, 57, false, by omega, by omega, by simp; omega, by simp⟩
    · exact ⟨95, 95, true, by omega, by omega, by simp; omega, by simp⟩
  obtain ⟨lo, hi, q95, n0, n1, h95, h⟩ := hcase2
  clear hcase
  rcases h with ⟨rfl, rfl, rfl⟩ | ⟨rfl, rfl, rfl⟩ | ⟨rfl, rfl, rfl⟩ | ⟨rfl, rfl, rfl⟩ <;>
  · cases b with
    | true =>
      have hb' := hb32 rfl
      clear hb32
      go_enter Tryd.func7, Tryd.ntmps7
      go_wp2_with fail
      refine (alive_any HT.out).mono ?_
      rintro e w1 ⟨rfl, b1⟩
      have B1 := Lib.hid b1
      clear b1
      go_wp2_with fail
      refine (kn _).mono ?_
      rintro e w1' ⟨rfl, rfl⟩
      clear kn
      go_wp2_with fail
      refine (read_any (by omega) (HT.out.below B1.out hlt) HR.out).mono ?_
      rintro e w2 ⟨v, rfl, g2, b2⟩
      have B2 := Lib.hid (then_below B1.out b2)
      have G2 := Lib.hid g2.reads
      obtain ⟨a, cap, rfl, _⟩ := g2.reads
      clear b2 g2
      go_wp2_with fail
      have B3 := Lib.hid (B2.out.alloc B2.out.size (.cells #[.int .u8 (n : Int)] 5))
      have G3 := Lib.hid (G2.out.below ((Below.refl _ _).alloc (Nat.le_refl _) (.cells #[.int .u8 (n : Int)] 5)))
      clear B2 G2
      refine (read_any (by omega) (HT.out.below B3.out hlt) HR2.out).mono ?_
      rintro e w4 ⟨v2, rfl, g4, b4⟩
      have B4 := Lib.hid (then_below B3.out b4)
      obtain ⟨a', cap', e', hcc⟩ := G3.out.below b4
      have G4 := Lib.hid g4.reads
      simp only [Value.slice.injEq] at e'
      obtain ⟨rfl, -, rfl⟩ := e'
      obtain ⟨bb, rfl, hbb, hcc⟩ := hcc (by simp)
      have c0 := hcc 0 _ rfl 0 (by omega)
      have c1 := hcc 0 _ rfl 1 (by omega)
      have c2 := hcc 0 _ rfl 2 (by omega)
      simp [tcell] at c0 c1 c2
      obtain ⟨a2, cap2, rfl, hcc2⟩ := g4.reads
      obtain ⟨b2, rfl, hb2, hcc2⟩ := hcc2 (by simp)
      have c3 := hcc2 0 _ rfl 1 (by omega)
      simp [tcell] at c3
      clear b4 g4 hcc hcc2 G3 B3
      go_wp2_with (go_at_call 12; refine (kn2 _).mono ?_; clear kn2; rintro e w5 ⟨rfl, rfl⟩)
      go_ret
      exact ⟨ret_bool (by first | rfl | (simp; omega) | simp), B4.out⟩
    | false =>
      clear hb32
      go_enter Tryd.func7, Tryd.ntmps7
      go_wp2_with fail
      refine (alive_any HT.out).mono ?_
      rintro e w1 ⟨rfl, b1⟩
      have B1 := Lib.hid b1
      clear b1
      go_wp2_with fail
      refine (kn _).mono ?_
      rintro e w1' ⟨rfl, rfl⟩
      clear kn
      go_wp2_with fail
      refine (read_any (by omega) (HT.out.below B1.out hlt) HR.out).mono ?_
      rintro e w2 ⟨v, rfl, g2, b2⟩
      have B2 := Lib.hid (then_below B1.out b2)
      have G2 := Lib.hid g2.reads
      obtain ⟨a, cap, rfl, _⟩ := g2.reads
      clear b2 g2
      go_wp2_with fail
      have B3 := Lib.hid (B2.out.alloc B2.out.size (.cells #[.int .u8 (n : Int)] 5))
      have G3 := Lib.hid (G2.out.below ((Below.refl _ _).alloc (Nat.le_refl _) (.cells #[.int .u8 (n : Int)] 5)))
      clear B2 G2
      refine (read_any (by omega) (HT.out.below B3.out hlt) HR2.out).mono ?_
      rintro e w4 ⟨v2, rfl, g4, b4⟩
      have B4 := Lib.hid (then_below B3.out b4)
      obtain ⟨a', cap', e', hcc⟩ := G3.out.below b4
      have G4 := Lib.hid g4.reads
      simp only [Value.slice.injEq] at e'
      obtain ⟨rfl, -, rfl⟩ := e'
      obtain ⟨bb, rfl, hbb, hcc⟩ := hcc (by simp)
      have c0 := hcc 0 _ rfl 0 (by omega)
      have c1 := hcc 0 _ rfl 1 (by omega)
      have c2 := hcc 0 _ rfl 2 (by omega)
      simp [tcell] at c0 c1 c2
      obtain ⟨a2, cap2, rfl, hcc2⟩ := g4.reads
      obtain ⟨b2, rfl, hb2, hcc2⟩ := hcc2 (by simp)
      have c3 := hcc2 0 _ rfl 1 (by omega)
      simp [tcell] at c3
      clear b4 g4 hcc hcc2 G3 B3
      go_wp2_with (go_at_call 12; refine (kn2 _).mono ?_; clear kn2; rintro e w5 ⟨rfl, rfl⟩)
      go_ret
      exact ⟨ret_bool (by first | rfl | (simp; omega) | simp), B4.out⟩

set_option maxRecDepth 100000 in
set_option maxHeartbeats 8000000 in
theorem words_not {s : ByteArray} {c : UInt8} {w : World} (hT : HasTab w) (hs : s.size ≤ 1000) (hN : nameB s.data.toList = true) (hc : Tk.ofWord c = false) :
    Calls Tryd.prog 7 #[.string s, .int .u8 (c.toNat : Int)] w fun e w' => e = .returned (.bool true) ∧ Below w.heap.size w w' := by
  have hlt := hT.lt
  have HT := Lib.hid hT
  have d1 : decide ((1000 : Int) < (s.size : Int)) = false := by simp; omega
  have hlen := name_len hN
  rw [← size_list] at hlen
  have d2 : decide ((32 : Int) < (s.size : Int)) = false := by simp; omega
  have kn := fun W => name_is s W true (by omega) hN
  obtain ⟨c0, t0, hl, h1, h2, _⟩ := name_word hN
  have HR := Lib.hid (rd_word hl h1 h2)
  obtain ⟨m, hm⟩ : ∃ m : ByteArray, m = ⟨#[c]⟩ := ⟨_, rfl⟩
  obtain ⟨more, hmore⟩ : ∃ more, more = s ++ m := ⟨_, rfl⟩
  have hml : more.data.toList = s.data.toList ++ [c] := by rw [hmore, hm]; simp
  have hmz : more.size = s.size + 1 := by rw [size_list, hml, List.length_append, ← size_list]; rfl
  have hcv := fun W => conv_one c W
  have hadd : ∀ W, (Op.stringOp .add s m).run Tryd.prog W = .ok (.string more) W := fun W => by rw [hmore]; exact run_string_add_sum W s m (by rw [hm]; show s.size + 1 ≤ _; omega)
  rw [← hm] at hcv
  have kn2 := fun W => name_is more W false (by omega) (by rw [hml]; exact name_more hN hc)
  obtain ⟨ts, x, hR2⟩ := Tk.Rd.total _ more.data.toList 0 (Nat.le_refl _)
  have HR2 := Lib.hid hR2
  rw [hml] at hR2
  obtain ⟨ts', hts⟩ := rd_first hN hc hR2
  have hmle : more.size ≤ 1001 := by omega
  obtain ⟨n, hn⟩ : ∃ n, n = c.toNat := ⟨_, rfl⟩
  have hn256 : n < 256 := by rw [hn]; exact c.toNat_lt
  have hcase : n ≤ 47 ∨ (58 ≤ n ∧ n ≤ 64) ∨ (91 ≤ n ∧ n ≤ 94) ∨ n = 96 ∨ 123 ≤ n := by
    have e1 := word_int c
    rw [hc, letter_int, digit_int, ← hn] at e1
    simp at e1
    omega
  rw [← hn] at hcv ⊢
  have h95 : ((n : Int) == 95) = false := by simp; omega
  clear hT hN hc hl h1 h2 hR2 hm hmore hml hmz hn
  have hcase2 : ∃ lo hi : Nat, lo ≤ n ∧ n ≤ hi ∧ ((lo = 0 ∧ hi = 47) ∨ (lo = 58 ∧ hi = 64) ∨ (lo = 91 ∧ hi = 94) ∨ (lo = 96 ∧ hi = 96) ∨ (lo = 123 ∧ hi = 255)) := by
    rcases hcase with h | h | h | h | h
    · exact ⟨0, 47, by omega, by omega, by omega⟩
    · exact ⟨58, 64, by omega, by omega, by omega⟩
    · exact ⟨91, 94, by omega, by omega, by omega⟩
    · exact ⟨96, 96, by omega, by omega, by omega⟩
    · exact ⟨123, 255, by omega, by omega, by omega⟩
  obtain ⟨lo, hi, n0, n1, h⟩ := hcase2
  clear hcase hn256
  rcases h with ⟨rfl, rfl⟩ | ⟨rfl, rfl⟩ | ⟨rfl, rfl⟩ | ⟨rfl, rfl⟩ | ⟨rfl, rfl⟩ <;>
  · cases x with
    | some p =>
      clear hts
      go_enter Tryd.func7, Tryd.ntmps7
      go_wp2_with fail
      refine (alive_any HT.out).mono ?_
      rintro e w1 ⟨rfl, b1⟩
      have B1 := Lib.hid b1
      clear b1
      go_wp2_with fail
      refine (kn _).mono ?_
      rintro e w1' ⟨rfl, rfl⟩
      clear kn
      go_wp2_with fail
      refine (read_any (by omega) (HT.out.below B1.out hlt) HR.out).mono ?_
      rintro e w2 ⟨v, rfl, g2, b2⟩
      have B2 := Lib.hid (then_below B1.out b2)
      have G2 := Lib.hid g2.reads
      obtain ⟨a, cap, rfl, _⟩ := g2.reads
      clear b2 g2
      go_wp2_with fail
      have B3 := Lib.hid (B2.out.alloc B2.out.size (.cells #[.int .u8 (n : Int)] 5))
      have G3 := Lib.hid (G2.out.below ((Below.refl _ _).alloc (Nat.le_refl _) (.cells #[.int .u8 (n : Int)] 5)))
      clear B2 G2
      refine (read_any (by omega) (HT.out.below B3.out hlt) HR2.out).mono ?_
      rintro e w4 ⟨rfl, b4⟩
      have B4 := Lib.hid (then_below B3.out b4)
      obtain ⟨a', cap', e', hcc⟩ := G3.out.below b4
      simp only [Value.slice.injEq] at e'
      obtain ⟨rfl, -, rfl⟩ := e'
      obtain ⟨bb, rfl, hbb, hcc⟩ := hcc (by simp)
      have c0 := hcc 0 _ rfl 0 (by omega)
      have c1 := hcc 0 _ rfl 1 (by omega)
      have c2 := hcc 0 _ rfl 2 (by omega)
      simp [tcell] at c0 c1 c2
      clear b4 hcc G3 B3
      go_wp2_with (go_at_call 12; refine (kn2 _).mono ?_; clear kn2; rintro e w5 ⟨rfl, rfl⟩)
      go_ret
      exact ⟨ret_bool (by first | rfl | (simp; omega) | simp), B4.out⟩
    | none =>
      obtain ⟨L, hL⟩ : ∃ L, L = ts'.length := ⟨_, rfl⟩
      have hL2 : ts.length = L + 1 := by rw [hts, List.length_cons, hL]
      have hL3 : L ≤ 1001 := by
        have := HR2.out.len
        rw [← size_list] at this
        omega
      have HTS := Lib.hid hts
      have HL2 := Lib.hid hL2
      clear hts hL hL2
      go_enter Tryd.func7, Tryd.ntmps7
      go_wp2_with fail
      refine (alive_any HT.out).mono ?_
      rintro e w1 ⟨rfl, b1⟩
      have B1 := Lib.hid b1
      clear b1
      go_wp2_with fail
      refine (kn _).mono ?_
      rintro e w1' ⟨rfl, rfl⟩
      clear kn
      go_wp2_with fail
      refine (read_any (by omega) (HT.out.below B1.out hlt) HR.out).mono ?_
      rintro e w2 ⟨v, rfl, g2, b2⟩
      have B2 := Lib.hid (then_below B1.out b2)
      have G2 := Lib.hid g2.reads
      obtain ⟨a, cap, rfl, _⟩ := g2.reads
      clear b2 g2
      go_wp2_with fail
      have B3 := Lib.hid (B2.out.alloc B2.out.size (.cells #[.int .u8 (n : Int)] 5))
      have G3 := Lib.hid (G2.out.below ((Below.refl _ _).alloc (Nat.le_refl _) (.cells #[.int .u8 (n : Int)] 5)))
      clear B2 G2
      refine (read_any (by omega) (HT.out.below B3.out hlt) HR2.out).mono ?_
      rintro e w4 ⟨v2, rfl, g4, b4⟩
      have B4 := Lib.hid (then_below B3.out b4)
      obtain ⟨a', cap', e', hcc⟩ := G3.out.below b4
      simp only [Value.slice.injEq] at e'
      obtain ⟨rfl, -, rfl⟩ := e'
      obtain ⟨bb, rfl, hbb, hcc⟩ := hcc (by simp)
      have c0 := hcc 0 _ rfl 0 (by omega)
      have c1 := hcc 0 _ rfl 1 (by omega)
      have c2 := hcc 0 _ rfl 2 (by omega)
      simp [tcell] at c0 c1 c2
      obtain ⟨a2, cap2, rfl, hcc2⟩ := g4.reads
      obtain ⟨b2, rfl, hb2, hcc2⟩ := hcc2 (by rw [HTS.out]; simp)
      have c3 := hcc2 0 ⟨1, s.data.toList, 0⟩ (by rw [HTS.out]; rfl) 1 (by omega)
      simp [tcell] at c3
      rw [HL2.out]
      clear b4 g4 hcc hcc2 G3 B3
      go_wp2_with (go_at_call 12; refine (kn2 _).mono ?_; clear kn2; rintro e w5 ⟨rfl, rfl⟩)
      go_ret
      exact ⟨ret_bool (by first | rfl | (simp; omega) | simp), B4.out⟩

theorem words_any {s : ByteArray} {x : Int} {w : World} (hT : HasTab w) (hx : (Lit.int .u8 x).wf = true) :
    Calls Tryd.prog 7 #[.string s, .int .u8 x] w fun e w' => e = .returned (.bool true) ∧ Below w.heap.size w w' := by
  by_cases h : s.size ≤ 1000
  · cases hN : nameB s.data.toList with
    | false => exact words_none hT h hN
    | true =>
      simp [Lit.wf, IntKind.min, IntKind.max, IntKind.signed, IntKind.bits] at hx
      obtain ⟨c, rfl⟩ : ∃ c : UInt8, x = (c.toNat : Int) := ⟨UInt8.ofNat x.toNat, by
        rw [UInt8.toNat_ofNat', Nat.mod_eq_of_lt (by omega)]; omega⟩
      cases hc : Tk.ofWord c with
      | true => exact words_sign hT h hN hc
      | false => exact words_not hT h hN hc
  · exact words_far hT (by omega)
end Go.Proofs.YtfnblnemdepimaaDoor
