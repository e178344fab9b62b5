/- Tokens: the document's Read; the program's, too, at a text that is too long. -/
import Derived.Test.YtjnmajdigjifkaaGreatDoorTrB
import Derived.Test.YtjnmajdigjifkaaGreatDoorTkF
import Derived.Test.YtjnmajdigjifkaaGreatDoorBq
namespace Go.Proofs.YtjnmajdigjifkaaGreatDoor
open Go Go.Proofs Go.RowKit Go.Shelf
set_option maxRecDepth 100000
theorem below_or {w W w3 : World} {T sz n : Nat} {v v' : Value} {xs : List Value} (o : Obj) (hb : Below w.heap.size w W) (hO : W.ownsRow w.heap.size T sz v n xs) (hor : (v'.ownBlock = v.ownBlock ∧ (W.alloc o).grownBy w3 v.ownBlock) ∨ (v'.ownBlock = some (W.alloc o).heap.size ∧ (W.alloc o).grownBy w3 none)) : Below w.heap.size w w3 := by
  have hb1 := hb.alloc hb.size o
  rcases hor with ⟨_, h⟩ | ⟨_, h⟩
  · exact hb1.grown h hb1.size (fun k e => (World.ownsRow.lt hO k e).1)
  · exact hb1.grown h hb1.size (fun k e => by cases e)
theorem Rd.few {l : List UInt8} {k : Nat} {ts : List Tk.Tok} {x : Option Nat} (h : Tk.Rd l k ts x) : ts.length ≤ l.length := by
  induction h with
  | nil => simp
  | blank _ _ ih => simp only [List.length_cons]; omega
  | comment _ ih => rw [List.length_drop] at ih; simp only [List.length_cons]; omega
  | tok ht _ ih =>
    have := Tk.tokN_le ht
    rw [List.length_drop] at ih
    simp only [List.length_cons]; omega
  | bad => simp
theorem Rd.of_blank {c : UInt8} {l : List UInt8} {k : Nat} {ts : List Tk.Tok} {x : Option Nat} (hb : Tk.blank c = true) (h : Tk.Rd (c :: l) k ts x) : Tk.Rd l (k + 1) ts x := by
  obtain ⟨t2, e2, h2⟩ := Tk.Rd.total l.length l (k + 1) (Nat.le_refl _)
  obtain ⟨h3, h4⟩ := (Tk.Rd.blank hb h2).det h
  rw [h3, h4]; exact h2
theorem tok_word {c : UInt8} {t : List UInt8} (h : wordN (c :: t) ≠ 0) : Tk.tokN (c :: t) = some (1, wordN (c :: t)) := by
  have hl := word_letter h
  simp [Tk.tokN, hl, wordN]
theorem tok_num {c : UInt8} {t : List UInt8} (h1 : wordN (c :: t) = 0) (h2 : Tk.numN (c :: t) ≠ 0) : Tk.tokN (c :: t) = some (2, Tk.numN (c :: t)) := by
  have hl := word_no h1
  have hd := num_digit h2
  simp [Tk.tokN, hl, hd]
theorem tok_sign {c : UInt8} {t : List UInt8} (h1 : wordN (c :: t) = 0) (h2 : Tk.numN (c :: t) = 0) (h3 : Tk.signN (c :: t) ≠ 0) : Tk.tokN (c :: t) = some (3, Tk.signN (c :: t)) := by
  have hl := word_no h1
  have hd := num_no h2
  simp [Tk.tokN, hl, hd, h3]
theorem tok_none {c : UInt8} {t : List UInt8} (h1 : wordN (c :: t) = 0) (h2 : Tk.numN (c :: t) = 0) (h3 : Tk.signN (c :: t) = 0) : Tk.tokN (c :: t) = none := by
  have hl := word_no h1
  have hd := num_no h2
  simp [Tk.tokN, hl, hd, h3]
theorem small_maxL {a n p : Nat} (h : a ≤ p) (h1 : n ≤ 65536) (h2 : p < n) : a + 1 ≤ maxLen := by unfold maxLen; omega
theorem bytes_maxL {a n p : Nat} (h : a ≤ p) (h1 : n ≤ 65536) (h2 : p < n) : (a + 1) * 32 ≤ 140737488355328 := by omega
theorem info_tokR : (Tryz.prog.info? 51).map (fun i => (i.zero, i.size, i.bytes)) = some (some (.agg #[.int .u8 0, .string ⟨#[]⟩, .int .i64 0]), 3, 32) := by kernel_rfl
set_option maxHeartbeats 16000000 in
theorem rread_any {s : ByteArray} {w : World} (hs : s.size ≤ 65536) {ts : List Tk.Tok} {x : Option Nat} (hR : Tk.Rd s.data.toList 0 ts x) :
    Calls Tryz.prog 5 #[.string s] w (ReadAns w ts x) := by
  obtain ⟨i0, hi0, hz0, hz1, hz2⟩ := q_info info_tokR
  obtain ⟨n, hn⟩ : ∃ n, n = s.size := ⟨_, rfl⟩
  have es : (s.size : Int) = (n : Int) := by omega
  have i9 : ¬ (65536 : Int) < (n : Int) := by omega
  obtain ⟨l, hl⟩ : ∃ l, l = s.data.toList := ⟨_, rfl⟩
  have HN := Lib.hid (show n = s.size ∧ n ≤ 65536 ∧ l.length = n from ⟨hn, by omega, by rw [hl, ← size_list, hn]⟩)
  have HLL := Lib.hid hl
  have HLD := Lib.hid (show ∀ p, l.drop p = s.data.toList.drop p from fun p => by rw [hl])
  rw [← hl] at hR
  have HR := Lib.hid hR
  have HI := Lib.hid hi0
  have HZ := Lib.hid hz0
  have HZ1 := Lib.hid hz1
  have HZ2 := Lib.hid hz2
  have KW := Lib.hid (fun p (h : p ≤ n) W => rword_at s p W (by omega) (by omega))
  have KN := Lib.hid (fun p (h : p ≤ n) W => rnumber_at s p W (by omega) (by omega))
  have KS := Lib.hid (fun p (h : p ≤ n) W => rsigns_at s p W (by omega) (by omega))
  clear hs hn hl hR hi0 hz0 hz1 hz2
  go_enter Tryz.func5, Tryz.ntmps5
  go_wp2
  have k0 : ((0 : Nat) : Int) = 0 := rfl
  go_loopg [5, 6] n (fun g v y wr => ∃ (p : Nat) (acc ts' : List Tk.Tok), p + g = n ∧ y = .int .i64 (p : Int) ∧ Hid (TFresh wr w.heap.size v acc) ∧ Hid (Below w.heap.size w wr) ∧ Hid (ts = acc ++ ts' ∧ Tk.Rd (l.drop p) p ts' x) ∧ Hid (acc.length ≤ p))
  case atStart => exact ⟨0, [], ts, by omega, rfl, Lib.hid (TFresh.nil _ _), Lib.hid (Below.refl _ _), Lib.hid ⟨rfl, HR.out⟩, Lib.hid (by simp)⟩
  case round =>
    clear k0
    obtain ⟨p, acc, ts', hp, rfl, HO, HB, HR, HAC⟩ := hrel
    have HP := Lib.hid hp
    by_cases hlt : p < n
    · have n0 : (0 : Int) ≤ (p : Int) := by omega
      have l0 : (p : Int) < (n : Int) := by omega
      have w0 : IntKind.i64.wrap ((p : Int) + 1) = ((p + 1 : Nat) : Int) := IntWalk.i64_in _ (by have := HN.out; omega)
      have ix := fun W => tstr_at s p (by have := HN.out; omega) W
      obtain ⟨c, hc⟩ : ∃ c, c = s[p]'(by have := HN.out; omega) := ⟨_, rfl⟩
      have hdr : l.drop p = c :: l.drop (p + 1) := by
        have h1 := get_list s p (by have := HN.out; omega)
        have hlen : p < l.length := by have := HN.out; omega
        rw [List.drop_eq_getElem_cons hlen]
        congr 1
        rw [← HLL.out, List.getElem?_eq_getElem hlen, ← hc] at h1
        simpa using h1
      rw [← hc] at ix
      obtain ⟨Xb, hX⟩ : ∃ X : Int, X = (c.toNat : Int) := ⟨_, rfl⟩
      rw [← hX] at ix
      have HD := Lib.hid hdr
      have HX := Lib.hid hX
      clear hc hdr
      by_cases hbl : Xb = 32 ∨ Xb = 9 ∨ Xb = 10 ∨ Xb = 13
      · have HBL := Lib.hid (show Tk.Rd (l.drop (p + 1)) (p + 1) ts' x by
          have h := HR.out.2
          rw [HD.out] at h
          refine Rd.of_blank ?_ h
          rw [blank_int, ← hX]
          rcases hbl with h | h | h | h <;> (rw [h]; rfl))
        clear hX HX HD hp
        rcases hbl with rfl | rfl | rfl | rfl
        all_goals
          go_wp2
          go_roundg (n - (p + 1))
          case measure => have := HP.out; omega
          case rel => exact ⟨p + 1, acc, ts', by omega, rfl, HO, HB, Lib.hid ⟨HR.out.1, HBL.out⟩, Lib.hid (by have := HAC.out; omega)⟩
      · have b1 : ¬ Xb = 32 := fun h => hbl (.inl h)
        have b2 : ¬ Xb = 9 := fun h => hbl (.inr (.inl h))
        have b3 : ¬ Xb = 10 := fun h => hbl (.inr (.inr (.inl h)))
        have b4 : ¬ Xb = 13 := fun h => hbl (.inr (.inr (.inr h)))
        have d1 : (Xb == 32) = false := by rw [beq_eq_false_iff_ne]; exact b1
        have d2 : (Xb == 9) = false := by rw [beq_eq_false_iff_ne]; exact b2
        have d3 : (Xb == 10) = false := by rw [beq_eq_false_iff_ne]; exact b3
        have d4 : (Xb == 13) = false := by rw [beq_eq_false_iff_ne]; exact b4
        have HNB := Lib.hid (show Tk.blank c = false by rw [blank_int, ← hX, d1, d2, d3, d4]; rfl)
        clear hbl hX hp
        by_cases h35 : Xb = 35
        · subst h35
          have HC35 := Lib.hid (show c = 35 from UInt8.toNat_inj.1 (by show c.toNat = 35; have := HX.out; omega))
          go_wp2
          go_loopg [6] (n - p) (fun g y wy => ∃ (q k : Nat), q + g = n ∧ y = .int .i64 (q : Int) ∧ Hid (q = p + k ∧ ∀ d ∈ (l.drop p).take k, Tk.noEnd d = true) ∧ wy = wr)
          case atStart => exact ⟨p, 0, by have := HP.out; omega, rfl, Lib.hid ⟨by omega, by intro d h; simp at h⟩, rfl⟩
          case round =>
            obtain ⟨q, k, hq, rfl, H, rfl⟩ := hrel
            have HQ := Lib.hid hq
            have HEND := Lib.hid (show Tk.run Tk.noEnd (l.drop p) = k → Tk.Rd (l.drop q) q ts' x ∧ 1 ≤ k from fun hk => by
              have h := HR.out.2
              rw [HD.out, HC35.out] at h
              have h2 := Tk.Rd.of_comment h
              have hk2 : Tk.run Tk.noEnd (35 :: l.drop (p + 1)) = k := by rw [← hk, HD.out, HC35.out]
              rw [hk2] at h2
              rw [← HC35.out, ← HD.out, List.drop_drop, ← H.out.1] at h2
              refine ⟨h2, ?_⟩
              rw [← hk2, Tk.run_pos (by decide)]
              omega)
            clear hq
            by_cases hlq : q < n
            · have m0 : (0 : Int) ≤ (q : Int) := by omega
              have m1 : (q : Int) < (n : Int) := by omega
              have w2 : IntKind.i64.wrap ((q : Int) + 1) = ((q + 1 : Nat) : Int) := IntWalk.i64_in _ (by have := HN.out; omega)
              have iy := fun W => tstr_at s q (by have := HN.out; omega) W
              obtain ⟨c2, hc2⟩ : ∃ c, c = s[q]'(by have := HN.out; omega) := ⟨_, rfl⟩
              have HC2 := Lib.hid (show (l.drop p)[k]? = some c2 by
                have h1 := get_list s q (by have := HN.out; omega)
                rw [List.getElem?_drop, ← H.out.1, HLL.out, hc2]
                exact h1)
              rw [← hc2] at iy
              obtain ⟨Y, hY⟩ : ∃ Y : Int, Y = (c2.toNat : Int) := ⟨_, rfl⟩
              rw [← hY] at iy
              by_cases h10 : Y = 10
              · have HS := Lib.hid (HEND.out (run_stop _ _ _ H.out.2 HC2.out (by
                  have : c2 = 10 := UInt8.toNat_inj.1 (by show c2.toNat = 10; omega)
                  rw [this]; rfl)))
                subst h10
                clear hc2 hY HEND
                go_wp2
                go_roundg (n - q)
                case measure => have := HP.out; have := HS.out; have := H.out.1; omega
                case rel => exact ⟨q, acc, ts', by omega, rfl, HO, HB, Lib.hid ⟨HR.out.1, HS.out.1⟩, Lib.hid (by have := HAC.out; have := H.out.1; omega)⟩
              · have h10' : (Y == 10) = false := by rw [beq_eq_false_iff_ne]; exact h10
                have HS := Lib.hid (run_next _ _ _ H.out.2 HC2.out (by
                  have : c2 ≠ 10 := fun e => h10 (by rw [hY, e]; rfl)
                  simpa [Tk.noEnd] using this))
                clear hc2 hY HEND
                go_wp2
                go_roundg (n - (q + 1))
                case measure => have := HQ.out; omega
                case rel => exact ⟨q + 1, k + 1, by omega, rfl, Lib.hid ⟨by have := H.out.1; omega, HS.out⟩, rfl⟩
            · obtain rfl : q = n := by have := HQ.out; omega
              have hqq : ¬ (q : Int) < (q : Int) := by omega
              have HS := Lib.hid (HEND.out (by
                have hk : (l.drop p).length = k := by rw [List.length_drop]; have := H.out.1; have := HN.out; omega
                have := run_full (p := Tk.noEnd) (l.drop p) (by rw [hk]; exact H.out.2)
                rw [this, hk]))
              clear HEND
              go_wp2
              go_roundg 0
              case measure => have := HP.out; have := HS.out; have := H.out.1; omega
              case rel => exact ⟨q, acc, ts', by omega, rfl, HO, HB, Lib.hid ⟨HR.out.1, HS.out.1⟩, Lib.hid (by have := HAC.out; have := H.out.1; omega)⟩
        · have b5 : (Xb == 35) = false := by rw [beq_eq_false_iff_ne]; exact h35
          have HNC := Lib.hid (show c ≠ 35 from fun e => h35 (by rw [HX.out, e]; rfl))
          have K1 := Lib.hid (fun W => KW.out p (Nat.le_of_lt hlt) W)
          have K2 := Lib.hid (fun W => KN.out p (Nat.le_of_lt hlt) W)
          have K3 := Lib.hid (fun W => KS.out p (Nat.le_of_lt hlt) W)
          rw [← HLD.out] at K1 K2 K3
          obtain ⟨n1, hn1⟩ : ∃ a, a = wordN (l.drop p) := ⟨_, rfl⟩
          obtain ⟨n2, hn2⟩ : ∃ a, a = Tk.numN (l.drop p) := ⟨_, rfl⟩
          obtain ⟨n3, hn3⟩ : ∃ a, a = Tk.signN (l.drop p) := ⟨_, rfl⟩
          rw [← hn1] at K1
          rw [← hn2] at K2
          rw [← hn3] at K3
          rw [HD.out] at hn1 hn2 hn3
          by_cases z1 : n1 = 0
          · have e1 : ((n1 : Int) == 0) = true := by rw [z1]; rfl
            have e1' : (n1 : Int) = 0 := by omega
            by_cases z2 : n2 = 0
            · have e2 : ((n2 : Int) == 0) = true := by rw [z2]; rfl
              have e2' : (n2 : Int) = 0 := by omega
              by_cases z3 : n3 = 0
              · have HX9 := Lib.hid (show ts = acc ∧ x = some p by
                  have h := HR.out
                  rw [HD.out] at h
                  obtain ⟨h1, h2⟩ := Tk.Rd.of_bad HNB.out HNC.out (tok_none (by rw [← hn1]; exact z1) (by rw [← hn2]; exact z2) (by rw [← hn3]; exact z3)) h.2
                  exact ⟨by rw [h.1, h1, List.append_nil], h2⟩)
                subst z1 z2 z3
                have kz : ((0 : Nat) : Int) = 0 := rfl
                clear hn1 hn2 hn3 e1 e1' e2 e2'
                go_wp2_with (first
                  | (go_at_call 11; (with_reducible refine (K1.out _).mono ?_); rintro e w' ⟨rfl, rfl⟩)
                  | (go_at_call 12; (with_reducible refine (K2.out _).mono ?_); rintro e w' ⟨rfl, rfl⟩)
                  | (go_at_call 13; (with_reducible refine (K3.out _).mono ?_); rintro e w5 ⟨rfl, q5⟩; have B5 := Lib.hid q5; clear q5))
                go_ret3
                have h9 := HX9.out
                unfold ReadAns
                rw [h9.2]
                exact ⟨rfl, HB.out.trans (B5.out.mono HB.out.size)⟩
              · have e3 : ((n3 : Int) == 0) = false := by rw [beq_eq_false_iff_ne]; omega
                have e3' : ¬ (n3 : Int) = 0 := by omega
                obtain ⟨nn, hnn⟩ : ∃ nn, nn = n3 := ⟨_, rfl⟩
                have HT := Lib.hid (show Tk.tokN (l.drop p) = some (3, nn) by rw [HD.out, hnn, hn3]; exact tok_sign (by rw [← hn1]; exact z1) (by rw [← hn2]; exact z2) (by rw [← hn3]; exact z3))
                rw [← hnn] at K3 e3 e3'
                subst z1 z2
                have kz : ((0 : Nat) : Int) = 0 := rfl
                clear hn1 hn2 hn3 e1 e1' e2 e2' z3 hnn
                go_wp2_with (first
                  | (go_at_call 11; (with_reducible refine (K1.out _).mono ?_); rintro e w' ⟨rfl, rfl⟩)
                  | (go_at_call 12; (with_reducible refine (K2.out _).mono ?_); rintro e w' ⟨rfl, rfl⟩)
                  | (go_at_call 13; (with_reducible refine (K3.out _).mono ?_); rintro e w5 ⟨rfl, q5⟩; have B5 := Lib.hid q5; clear q5; refine Hid.out ?_)
                  | fail)
                refine Lib.hid ?_
                have hn1 : 1 ≤ nn ∧ nn ≤ n - p := by
                  have h := Tk.tokN_le HT.out
                  rw [HLD.out, List.length_drop, ← size_list, ← HN.out.1] at h
                  omega
                obtain ⟨q, hq⟩ : ∃ q, q = p + nn := ⟨_, rfl⟩
                have w1 : IntKind.i64.wrap ((p : Int) + (nn : Int)) = (q : Int) := by rw [show (p : Int) + (nn : Int) = (q : Int) by omega]; exact IntWalk.i64_in _ (by have := HN.out; omega)
                obtain ⟨X, hX⟩ : ∃ X, X = s.extract p q := ⟨_, rfl⟩
                have sl2 : ∀ W, (Instr.sliceAt 9 (.string s) (some (.int .i64 (p : Int))) (some (.int .i64 (q : Int))) none).run Tryz.prog W = .ok (.string X) W := fun W => by
                  rw [run_sliceAt_string W _ _ _ _ _ Tryz.underlying9, run_slice_string_if W _ _ _ _ _ _ Tryz.underlying9, if_pos ⟨by omega, by have := HN.out; omega⟩, if_pos ⟨by omega, by omega⟩, show (p : Int).toNat = p by omega, show (q : Int).toNat = q by omega, hX]
                have sl1 : ∀ W, (Instr.slice 9 (.string s) (some (.int .i64 (p : Int))) (some (.int .i64 (q : Int))) none).run Tryz.prog W = .ok (.string X) W := fun W => by
                  have := sl2 W
                  rw [run_sliceAt_string W _ _ _ _ _ Tryz.underlying9] at this
                  exact this
                have HX := Lib.hid (show X = ⟨((l.drop p).take nn).toArray⟩ ∧ q = p + nn ∧ 1 ≤ nn ∧ q ≤ n by
                  refine ⟨?_, hq, hn1.1, by omega⟩
                  rw [hX, hq]
                  apply ByteArray.ext
                  apply Array.toList_inj.1
                  have := Lib.extract_toList s p (p + nn)
                  rw [Lib.toList_data] at this
                  rw [this]
                  simp [HLL.out])
                have HO := Lib.hid (show TFresh w5 w.heap.size u5 acc from HO.out.below B5.out)
                have HB := Lib.hid (show Below w.heap.size w w5 from HB.out.trans (B5.out.mono HB.out.size))
                have hac := HAC.out
                clear hq hX hn1
                clear B5 K1 K2 K3
                go_wp2_with (at_builtin; go_loud (refine qwpList_append_or _ rfl _ _ 22 rfl w.heap.size 51 i0 (.agg #[.int .u8 0, .string ⟨#[]⟩, .int .i64 0]) 3 32 Tryz.underlying22 HI.out HZ.out HZ1.out HZ2.out rfl (by decide) _ _ _ rfl (World.ownsRow.alloc HO.out _) ⟨w5.heap.size, 0, none⟩ 1 1 [.int .u8 3, .string X, .int .i64 (p : Int)] rfl rfl (World.news_of_block (cs := #[.int .u8 3, .string X, .int .i64 (p : Int)]) (t := 51) (fr := (0, 0)) (q_new w5 _)) (by simp [Value.oneCell']) (small_maxL hac HN.out.2.1 hlt) (bytes_maxL hac HN.out.2.1 hlt) (Nat.le_trans HB.out.size (by simp)) ?_); intro v' w3 qown qor; have hown' := Lib.hid qown; have hor := Lib.hid qor; clear qown qor; refine Hid.out ?_)
                refine Lib.hid ?_
                obtain ⟨ts2, ht2, hr2⟩ := Tk.Rd.of_tok HT.out HR.out.2
                have HB2 := Lib.hid (below_or (.cells #[.int .u8 3, .string X, .int .i64 (p : Int)] 51) HB.out HO.out hor.out)
                have HO2 := Lib.hid (show TFresh w3 w.heap.size v' (acc ++ [⟨3, (l.drop p).take nn, p⟩]) from by
                  have h := hown'.out
                  unfold TFresh
                  rw [tcells_snoc, List.length_append]
                  rw [HX.out.1] at h
                  exact h)
                have HR2 := Lib.hid (show ts = (acc ++ [⟨3, (l.drop p).take nn, p⟩]) ++ ts2 ∧ Tk.Rd (l.drop q) q ts2 x from by
                  refine ⟨by rw [HR.out.1, ht2, List.append_assoc]; rfl, ?_⟩
                  rw [List.drop_drop, ← HX.out.2.1] at hr2
                  exact hr2)
                have HAC2 := Lib.hid (show (acc ++ [(⟨3, (l.drop p).take nn, p⟩ : Tk.Tok)]).length ≤ q by
                  rw [List.length_append]
                  have := HX.out
                  simp only [List.length_singleton]
                  omega)
                obtain ⟨acc2, ha2⟩ : ∃ a, a = acc ++ [(⟨3, (l.drop p).take nn, p⟩ : Tk.Tok)] := ⟨_, rfl⟩
                rw [← ha2] at HO2 HR2 HAC2
                clear ha2 hown' hor ht2 hr2 hac
                go_wp2
                go_roundg (n - q)
                case measure => have := HP.out; have := HX.out; omega
                case rel => exact ⟨q, acc2, ts2, by have := HX.out; omega, by first | rfl | simp, HO2, HB2, HR2, HAC2⟩
            · have e2 : ((n2 : Int) == 0) = false := by rw [beq_eq_false_iff_ne]; omega
              have e2' : ¬ (n2 : Int) = 0 := by omega
              obtain ⟨nn, hnn⟩ : ∃ nn, nn = n2 := ⟨_, rfl⟩
              have HT := Lib.hid (show Tk.tokN (l.drop p) = some (2, nn) by rw [HD.out, hnn, hn2]; exact tok_num (by rw [← hn1]; exact z1) (by rw [← hn2]; exact z2))
              rw [← hnn] at K2 e2 e2'
              subst z1
              have kz : ((0 : Nat) : Int) = 0 := rfl
              clear hn1 hn2 hn3 e1 e1' z2 hnn
              have hn1 : 1 ≤ nn ∧ nn ≤ n - p := by
                have h := Tk.tokN_le HT.out
                rw [HLD.out, List.length_drop, ← size_list, ← HN.out.1] at h
                omega
              obtain ⟨q, hq⟩ : ∃ q, q = p + nn := ⟨_, rfl⟩
              have w1 : IntKind.i64.wrap ((p : Int) + (nn : Int)) = (q : Int) := by rw [show (p : Int) + (nn : Int) = (q : Int) by omega]; exact IntWalk.i64_in _ (by have := HN.out; omega)
              obtain ⟨X, hX⟩ : ∃ X, X = s.extract p q := ⟨_, rfl⟩
              have sl2 : ∀ W, (Instr.sliceAt 9 (.string s) (some (.int .i64 (p : Int))) (some (.int .i64 (q : Int))) none).run Tryz.prog W = .ok (.string X) W := fun W => by
                rw [run_sliceAt_string W _ _ _ _ _ Tryz.underlying9, run_slice_string_if W _ _ _ _ _ _ Tryz.underlying9, if_pos ⟨by omega, by have := HN.out; omega⟩, if_pos ⟨by omega, by omega⟩, show (p : Int).toNat = p by omega, show (q : Int).toNat = q by omega, hX]
              have sl1 : ∀ W, (Instr.slice 9 (.string s) (some (.int .i64 (p : Int))) (some (.int .i64 (q : Int))) none).run Tryz.prog W = .ok (.string X) W := fun W => by
                have := sl2 W
                rw [run_sliceAt_string W _ _ _ _ _ Tryz.underlying9] at this
                exact this
              have HX := Lib.hid (show X = ⟨((l.drop p).take nn).toArray⟩ ∧ q = p + nn ∧ 1 ≤ nn ∧ q ≤ n by
                refine ⟨?_, hq, hn1.1, by omega⟩
                rw [hX, hq]
                apply ByteArray.ext
                apply Array.toList_inj.1
                have := Lib.extract_toList s p (p + nn)
                rw [Lib.toList_data] at this
                rw [this]
                simp [HLL.out])
              have HO := Lib.hid (show TFresh wr w.heap.size u5 acc from HO.out)
              have HB := Lib.hid (show Below w.heap.size w wr from HB.out)
              have hac := HAC.out
              clear hq hX hn1
              go_wp2_with (first
                | (go_at_call 11; (with_reducible refine (K1.out _).mono ?_); rintro e w' ⟨rfl, rfl⟩)
                | (go_at_call 12; (with_reducible refine (K2.out _).mono ?_); rintro e w' ⟨rfl, rfl⟩)
                | (at_builtin; go_loud (refine qwpList_append_or _ rfl _ _ 22 rfl w.heap.size 51 i0 (.agg #[.int .u8 0, .string ⟨#[]⟩, .int .i64 0]) 3 32 Tryz.underlying22 HI.out HZ.out HZ1.out HZ2.out rfl (by decide) _ _ _ rfl (World.ownsRow.alloc HO.out _) ⟨wr.heap.size, 0, none⟩ 1 1 [.int .u8 2, .string X, .int .i64 (p : Int)] rfl rfl (World.news_of_block (cs := #[.int .u8 2, .string X, .int .i64 (p : Int)]) (t := 51) (fr := (0, 0)) (q_new wr _)) (by simp [Value.oneCell']) (small_maxL hac HN.out.2.1 hlt) (bytes_maxL hac HN.out.2.1 hlt) (Nat.le_trans HB.out.size (by simp)) ?_); intro v' w3 qown qor; have hown' := Lib.hid qown; have hor := Lib.hid qor; clear qown qor; refine Hid.out ?_)
                | fail)
              refine Lib.hid ?_
              obtain ⟨ts2, ht2, hr2⟩ := Tk.Rd.of_tok HT.out HR.out.2
              have HB2 := Lib.hid (below_or (.cells #[.int .u8 2, .string X, .int .i64 (p : Int)] 51) HB.out HO.out hor.out)
              have HO2 := Lib.hid (show TFresh w3 w.heap.size v' (acc ++ [⟨2, (l.drop p).take nn, p⟩]) from by
                have h := hown'.out
                unfold TFresh
                rw [tcells_snoc, List.length_append]
                rw [HX.out.1] at h
                exact h)
              have HR2 := Lib.hid (show ts = (acc ++ [⟨2, (l.drop p).take nn, p⟩]) ++ ts2 ∧ Tk.Rd (l.drop q) q ts2 x from by
                refine ⟨by rw [HR.out.1, ht2, List.append_assoc]; rfl, ?_⟩
                rw [List.drop_drop, ← HX.out.2.1] at hr2
                exact hr2)
              have HAC2 := Lib.hid (show (acc ++ [(⟨2, (l.drop p).take nn, p⟩ : Tk.Tok)]).length ≤ q by
                rw [List.length_append]
                have := HX.out
                simp only [List.length_singleton]
                omega)
              obtain ⟨acc2, ha2⟩ : ∃ a, a = acc ++ [(⟨2, (l.drop p).take nn, p⟩ : Tk.Tok)] := ⟨_, rfl⟩
              rw [← ha2] at HO2 HR2 HAC2
              clear ha2 hown' hor ht2 hr2 hac
              go_wp2
              go_roundg (n - q)
              case measure => have := HP.out; have := HX.out; omega
              case rel => exact ⟨q, acc2, ts2, by have := HX.out; omega, by first | rfl | simp, HO2, HB2, HR2, HAC2⟩
          · have e1 : ((n1 : Int) == 0) = false := by rw [beq_eq_false_iff_ne]; omega
            have e1' : ¬ (n1 : Int) = 0 := by omega
            obtain ⟨nn, hnn⟩ : ∃ nn, nn = n1 := ⟨_, rfl⟩
            have HT := Lib.hid (show Tk.tokN (l.drop p) = some (1, nn) by rw [HD.out, hnn, hn1]; exact tok_word (by rw [← hn1]; exact z1))
            rw [← hnn] at K1 e1 e1'
            clear hn1 hn2 hn3 z1 hnn
            have hn1 : 1 ≤ nn ∧ nn ≤ n - p := by
              have h := Tk.tokN_le HT.out
              rw [HLD.out, List.length_drop, ← size_list, ← HN.out.1] at h
              omega
            obtain ⟨q, hq⟩ : ∃ q, q = p + nn := ⟨_, rfl⟩
            have w1 : IntKind.i64.wrap ((p : Int) + (nn : Int)) = (q : Int) := by rw [show (p : Int) + (nn : Int) = (q : Int) by omega]; exact IntWalk.i64_in _ (by have := HN.out; omega)
            obtain ⟨X, hX⟩ : ∃ X, X = s.extract p q := ⟨_, rfl⟩
            have sl2 : ∀ W, (Instr.sliceAt 9 (.string s) (some (.int .i64 (p : Int))) (some (.int .i64 (q : Int))) none).run Tryz.prog W = .ok (.string X) W := fun W => by
              rw [run_sliceAt_string W _ _ _ _ _ Tryz.underlying9, run_slice_string_if W _ _ _ _ _ _ Tryz.underlying9, if_pos ⟨by omega, by have := HN.out; omega⟩, if_pos ⟨by omega, by omega⟩, show (p : Int).toNat = p by omega, show (q : Int).toNat = q by omega, hX]
            have sl1 : ∀ W, (Instr.slice 9 (.string s) (some (.int .i64 (p : Int))) (some (.int .i64 (q : Int))) none).run Tryz.prog W = .ok (.string X) W := fun W => by
              have := sl2 W
              rw [run_sliceAt_string W _ _ _ _ _ Tryz.underlying9] at this
              exact this
            have HX := Lib.hid (show X = ⟨((l.drop p).take nn).toArray⟩ ∧ q = p + nn ∧ 1 ≤ nn ∧ q ≤ n by
              refine ⟨?_, hq, hn1.1, by omega⟩
              rw [hX, hq]
              apply ByteArray.ext
              apply Array.toList_inj.1
              have := Lib.extract_toList s p (p + nn)
              rw [Lib.toList_data] at this
              rw [this]
              simp [HLL.out])
            have HO := Lib.hid (show TFresh wr w.heap.size u5 acc from HO.out)
            have HB := Lib.hid (show Below w.heap.size w wr from HB.out)
            have hac := HAC.out
            clear hq hX hn1
            go_wp2_with (first
              | (go_at_call 11; (with_reducible refine (K1.out _).mono ?_); rintro e w' ⟨rfl, rfl⟩)
              | (at_builtin; go_loud (refine qwpList_append_or _ rfl _ _ 22 rfl w.heap.size 51 i0 (.agg #[.int .u8 0, .string ⟨#[]⟩, .int .i64 0]) 3 32 Tryz.underlying22 HI.out HZ.out HZ1.out HZ2.out rfl (by decide) _ _ _ rfl (World.ownsRow.alloc HO.out _) ⟨wr.heap.size, 0, none⟩ 1 1 [.int .u8 1, .string X, .int .i64 (p : Int)] rfl rfl (World.news_of_block (cs := #[.int .u8 1, .string X, .int .i64 (p : Int)]) (t := 51) (fr := (0, 0)) (q_new wr _)) (by simp [Value.oneCell']) (small_maxL hac HN.out.2.1 hlt) (bytes_maxL hac HN.out.2.1 hlt) (Nat.le_trans HB.out.size (by simp)) ?_); intro v' w3 qown qor; have hown' := Lib.hid qown; have hor := Lib.hid qor; clear qown qor; refine Hid.out ?_)
              | fail)
            refine Lib.hid ?_
            obtain ⟨ts2, ht2, hr2⟩ := Tk.Rd.of_tok HT.out HR.out.2
            have HB2 := Lib.hid (below_or (.cells #[.int .u8 1, .string X, .int .i64 (p : Int)] 51) HB.out HO.out hor.out)
            have HO2 := Lib.hid (show TFresh w3 w.heap.size v' (acc ++ [⟨1, (l.drop p).take nn, p⟩]) from by
              have h := hown'.out
              unfold TFresh
              rw [tcells_snoc, List.length_append]
              rw [HX.out.1] at h
              exact h)
            have HR2 := Lib.hid (show ts = (acc ++ [⟨1, (l.drop p).take nn, p⟩]) ++ ts2 ∧ Tk.Rd (l.drop q) q ts2 x from by
              refine ⟨by rw [HR.out.1, ht2, List.append_assoc]; rfl, ?_⟩
              rw [List.drop_drop, ← HX.out.2.1] at hr2
              exact hr2)
            have HAC2 := Lib.hid (show (acc ++ [(⟨1, (l.drop p).take nn, p⟩ : Tk.Tok)]).length ≤ q by
              rw [List.length_append]
              have := HX.out
              simp only [List.length_singleton]
              omega)
            obtain ⟨acc2, ha2⟩ : ∃ a, a = acc ++ [(⟨1, (l.drop p).take nn, p⟩ : Tk.Tok)] := ⟨_, rfl⟩
            rw [← ha2] at HO2 HR2 HAC2
            clear ha2 hown' hor ht2 hr2 hac
            go_wp2
            go_roundg (n - q)
            case measure => have := HP.out; have := HX.out; omega
            case rel => exact ⟨q, acc2, ts2, by have := HX.out; omega, by first | rfl | simp, HO2, HB2, HR2, HAC2⟩
    · obtain rfl : p = n := by omega
      have pp : ¬ (p : Int) < (p : Int) := by omega
      have HE := Lib.hid (show ts = acc ∧ x = none by
        have h := HR.out
        have hd : l.drop p = [] := List.drop_eq_nil_of_le (by rw [HN.out.2.2]; exact Nat.le_refl _)
        rw [hd] at h
        obtain ⟨h1, h2⟩ := Tk.Rd.of_nil h.2
        exact ⟨by rw [h.1, h1, List.append_nil], h2⟩)
      go_wp2
      go_ret3
      have h9 := HE.out
      unfold ReadAns
      rw [h9.2, h9.1]
      exact ⟨_, rfl, HO.out, HB.out⟩
end Go.Proofs.YtjnmajdigjifkaaGreatDoor
