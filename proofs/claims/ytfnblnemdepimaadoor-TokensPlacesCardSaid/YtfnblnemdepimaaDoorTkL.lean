/- TokensPlaces: the walk. -/
import Derived.Test.YtfnblnemdepimaaDoorTkV
import Derived.Test.YtfnblnemdepimaaDoorTkP
namespace Go.Proofs.YtfnblnemdepimaaDoor
open Go Go.Proofs Go.RowKit Go.Shelf

theorem scan_cons {cm : Bool} {c : UInt8} {l : List UInt8} (h : Tk.scan cm (c :: l) = true) :
    (c = 10 ∧ Tk.scan false l = true) ∨ (c ≠ 10 ∧ cm = true ∧ Tk.scan true l = true) ∨ (cm = false ∧ c = 35 ∧ Tk.scan true l = true) ∨ (cm = false ∧ (c = 32 ∨ c = 9 ∨ c = 13) ∧ Tk.scan false l = true) := by
  by_cases h10 : c = 10
  · subst h10
    left
    simpa [Tk.scan] using h
  · right
    simp only [Tk.scan, if_neg h10, Bool.and_eq_true, Bool.or_eq_true, beq_iff_eq] at h
    cases cm with
    | true => left; exact ⟨h10, rfl, by simpa using h.2⟩
    | false =>
      right
      by_cases h35 : c = 35
      · subst h35
        left; exact ⟨rfl, rfl, by simpa using h.2⟩
      · right
        have e : (c == 35) = false := by simpa using h35
        rw [e] at h
        refine ⟨rfl, ?_, by simpa using h.2⟩
        simp [h35] at h
        rcases h.1 with (h | h) | h <;> simp [h]
theorem take_cons {l : List UInt8} {k n : Nat} {c : UInt8} (hc : l[k]? = some c) (hn : k < n) : (l.drop k).take (n - k) = c :: (l.drop (k + 1)).take (n - (k + 1)) := by
  have hk := (List.getElem?_eq_some_iff.1 hc)
  obtain ⟨h1, h2⟩ := hk
  rw [List.drop_eq_getElem_cons h1, h2, show n - k = (n - (k + 1)) + 1 by omega, List.take_succ_cons]

set_option maxRecDepth 100000 in
set_option maxHeartbeats 4000000 in
theorem places_far {s : ByteArray} {w : World} (hT : HasTab w) (hs : 65536 < s.size) :
    Calls Tryd.prog 3 #[.string s] w fun e w' => e = .returned (.bool true) ∧ Below w.heap.size w w' := by
  have hlt := hT.lt
  have HT := Lib.hid hT
  have d1 : decide ((65536 : Int) < (s.size : Int)) = true := by simp; omega
  clear hT
  go_enter Tryd.func3, Tryd.ntmps3
  go_wp2_with fail
  refine (alive_any HT.out).mono ?_
  rintro e w1 ⟨rfl, b1⟩
  have B1 := Lib.hid b1
  clear b1
  go_wp2_with fail
  refine (alive_any (HT.out.below B1.out hlt)).mono ?_
  rintro e w2 ⟨rfl, b2⟩
  have B2 := Lib.hid (then_below B1.out b2)
  clear b2
  go_wp2_with fail
  go_ret
  exact ⟨rfl, B2.out⟩

set_option maxRecDepth 100000 in
set_option maxHeartbeats 8000000 in
theorem places_near {s : ByteArray} {w : World} (hT : HasTab w) (hs : s.size ≤ 65536) :
    Calls Tryd.prog 3 #[.string s] w fun e w' => e = .returned (.bool true) ∧ Below w.heap.size w w' := by
  have hlt := hT.lt
  have HT := Lib.hid hT
  have d1 : decide ((65536 : Int) < (s.size : Int)) = false := by simp; omega
  obtain ⟨ts, x, hR⟩ := Tk.Rd.total _ s.data.toList 0 (Nat.le_refl _)
  have HR := Lib.hid hR
  clear hT hR
  cases x with
  | some p =>
    have hp := (HR.out.err p rfl).2
    rw [Nat.zero_add, ← size_list] at hp
    go_enter Tryd.func3, Tryd.ntmps3
    go_wp2_with fail
    refine (alive_any HT.out).mono ?_
    rintro e w1 ⟨rfl, b1⟩
    have B1 := Lib.hid b1
    clear b1
    go_wp2_with fail
    refine (read_any hs (HT.out.below B1.out hlt) HR.out).mono ?_
    rintro e w2 ⟨rfl, b2⟩
    have B2 := Lib.hid (then_below B1.out b2)
    clear b2
    go_wp2_with fail
    go_ret
    exact ⟨ret_bool (by first | rfl | simp), B2.out⟩
  | none =>
    have hpl := HR.out.pl rfl
    have HPL := Lib.hid hpl
    clear hpl
    obtain ⟨N, hN⟩ : ∃ N, N = ts.length := ⟨_, rfl⟩
    have hNs : N ≤ s.size := by rw [hN, size_list]; exact HR.out.len
    have HN := Lib.hid hN
    clear hN
    go_enter Tryd.func3, Tryd.ntmps3
    go_wp2_with fail
    refine (alive_any HT.out).mono ?_
    rintro e w1 ⟨rfl, b1⟩
    have B1 := Lib.hid b1
    clear b1
    go_wp2_with fail
    refine (read_any hs (HT.out.below B1.out hlt) HR.out).mono ?_
    rintro e w2 ⟨v, rfl, g2, b2⟩
    have B2 := Lib.hid (then_below B1.out b2)
    obtain ⟨a, cap, rfl, hc⟩ := g2.reads
    try rw [← HN.out]
    have HC := Lib.hid hc
    clear b2 g2 hc
    go_wp2_with fail
    go_loopg [6, 7] (N + 1) (fun g f i wx => ∃ jj ff : Nat, jj + g = N + 1 ∧ f = .int .i64 (ff : Int) ∧ i = .int .i64 (jj : Int) ∧ ff ≤ s.size ∧ Hid (jj ≤ N → Tk.Pl (s.data.toList.drop ff) ff (ts.drop jj)) ∧ ∃ n, wx = w2.drewN n)
    case atStart => exact ⟨0, 0, by omega, rfl, rfl, by omega, Lib.hid fun _ => HPL.out, 0, rfl⟩
    case round =>
      obtain ⟨jj, ff, hjg, rfl, rfl, hff, HJ, nd, rfl⟩ := hrel
      by_cases hj : jj < N
      · obtain ⟨t, ht⟩ : ∃ t, ts[jj]? = some t := ⟨_, List.getElem?_eq_getElem (by rw [← HN.out]; exact hj)⟩
        have hdrop : ts.drop jj = t :: ts.drop (jj + 1) := by
          have h1 := (List.getElem?_eq_some_iff.1 ht)
          rw [List.drop_eq_getElem_cons h1.1, h1.2]
        have h0 := HJ.out (by omega)
        rw [hdrop] at h0
        obtain ⟨g, h1, h2, h3, h4, h5, h6, h7, h8⟩ := h0
        obtain ⟨b, rfl, hb, hcc⟩ := HC.out (by intro e; rw [e] at ht; cases ht)
        have c0 := hcc jj t ht 0 (by omega)
        have c1 := hcc jj t ht 1 (by omega)
        have c2 := hcc jj t ht 2 (by omega)
        simp only [tcell, List.getElem?_cons_zero, List.getElem?_cons_succ, Nat.add_zero] at c0 c1 c2
        obtain ⟨txt, hx⟩ : ∃ txt : ByteArray, txt = ⟨t.text.toArray⟩ := ⟨_, rfl⟩
        have hxl : txt.size = t.text.length := by rw [hx]; rfl
        rw [List.length_drop, ← size_list] at h3
        have hxe : s.extract (ff + g) (ff + g + txt.size) = txt := by rw [ext_take, ← List.drop_drop, hxl, h5, hx]
        have hx0 : 0 < txt.size := by
          rw [hxl]
          cases hq : t.text with
          | nil => exact (h2 hq).elim
          | cons _ _ => simp
        obtain ⟨kd, hkd⟩ : ∃ kd, kd = t.kind := ⟨_, rfl⟩
        obtain ⟨p, hp⟩ : ∃ p, p = ff + g := ⟨_, rfl⟩
        rw [← hx] at c1
        rw [h1, ← hp] at c2
        rw [← hkd] at c0 h6 h7
        rw [← hp] at hxe
        have hpf : ff ≤ p := by omega
        have hps : p + txt.size ≤ s.size := by omega
        have HXE := Lib.hid hxe
        have HSC : Hid (Tk.scan false ((s.data.toList.drop ff).take (p - ff)) = true) := Lib.hid (by rw [hp, show ff + g - ff = g by omega]; exact h4)
        have HNX : Hid (Tk.Pl (s.data.toList.drop (p + txt.size)) (p + txt.size) (ts.drop (jj + 1))) := Lib.hid (by rw [hp, hxl, show ff + g + t.text.length = ff + (g + t.text.length) by omega, ← List.drop_drop, show ff + (g + t.text.length) = ff + g + t.text.length by omega]; exact h8)
        clear hcc hdrop h1 h2 h3 h4 h5 h8 hx hxl hkd hp ht hxe
        have q0 : (0 : Int) ≤ (jj : Int) := by omega
        have q1 : (jj : Int) < (N : Int) := by omega
        have e0 : (txt.toList == ([] : List UInt8)) = false := by
          rw [Lib.toList_data]
          cases hq : txt.data.toList with
          | nil => rw [size_list, hq] at hx0; simp at hx0
          | cons _ _ => rfl
        have e1 : txt.toList.isEmpty = false := by
          cases hq : txt.toList with
          | nil => rw [hq] at e0; cases e0
          | cons _ _ => rfl
        have e2 : ¬ txt.toList = [] := by intro e; rw [e] at e0; cases e0
        have e3 : ¬ txt = ⟨#[]⟩ := by rintro rfl; cases hx0
        have d2 : decide (p < ff) = false := by simp; omega
        have d3 : decide ((p : Int) < (ff : Int)) = false := by simp; omega
        have d4 : IntKind.i64.wrap ((s.size : Int) - (p : Int)) = (s.size : Int) - (p : Int) := IntWalk.i64_in _ (by omega)
        have d5 : decide ((s.size : Int) - (p : Int) < (txt.size : Int)) = false := by simp; omega
        have d6 : IntKind.i64.wrap ((p : Int) + (txt.size : Int)) = (p : Int) + (txt.size : Int) := IntWalk.i64_in _ (by omega)
        have d7 : ((p : Int) + (txt.size : Int)).toNat = p + txt.size := by omega
        have d8 : (0 : Int) ≤ (p : Int) := by omega
        have d9 : (p : Int) ≤ (p : Int) + (txt.size : Int) := by omega
        have da : (p : Int) + (txt.size : Int) ≤ (s.size : Int) := by omega
        have db : ((s.extract p (p + txt.size)).toList == txt.toList) = true := by rw [HXE.out]; simp
        have dc : decide ((kd : Int) < 1) = false := by simp; omega
        have dd : decide ((3 : Int) < (kd : Int)) = false := by simp; omega
        have de : decide (kd < 1) = false := by simp; omega
        have df : decide (3 < kd) = false := by simp; omega
        go_wp2_with fail
        go_quiet (fail)
        clear e0 e1 e2 e3 d2 d3 d4 d5 d6 d7 d8 d9 da db dc dd de df c0 c2
        go_wp2_with fail
        go_loopg [9, 10] (p - ff) (fun g2 cm i wx => ∃ (k : Nat) (c : Bool), k + g2 = p ∧ ff ≤ k ∧ i = .int .i64 (k : Int) ∧ cm = .bool c ∧ Hid (Tk.scan c ((s.data.toList.drop k).take (p - k)) = true) ∧ ∃ n, wx = w2.drewN n)
        case atStart => exact ⟨ff, false, by omega, Nat.le_refl _, rfl, rfl, HSC, _, by first | rfl | exact World.drewN_drewN _ _ _⟩
        case round =>
          obtain ⟨k, cm, hkg, hfk, rfl, rfl, HS, nd2, rfl⟩ := hrel
          by_cases hk : k < p
          · have hks : k < s.size := by omega
            have hg := get_list s k hks
            have hsc := HS.out
            rw [take_cons hg hk] at hsc
            have hsc := scan_cons hsc
            obtain ⟨ch, hch⟩ : ∃ ch, ch = s[k].toNat := ⟨_, rfl⟩
            have r0 : (0 : Int) ≤ (k : Int) := by omega
            have r1 : (k : Int) < (s.size : Int) := by omega
            rcases hsc with ⟨hc, hn⟩ | ⟨hc, rfl, hn⟩ | ⟨rfl, hc, hn⟩ | ⟨rfl, hc, hn⟩
            · have hv : (s[k].toNat : Int) = 10 := by rw [hc]; rfl
              have HNN := Lib.hid hn
              clear hc hn hg hch
              go_wp2_with fail
              go_roundg (p - (k + 1))
              case measure => omega
              case rel => exact ⟨k + 1, false, by omega, by omega, by first | rfl | simp, rfl, HNN, _, rfl⟩
            · have hv : ((s[k].toNat : Int) == 10) = false := by
                have : s[k].toNat ≠ 10 := fun e => hc (UInt8.toNat_inj.1 (by rw [e]; rfl))
                simp; omega
              have HNN := Lib.hid hn
              clear hc hn hg hch
              go_wp2_with fail
              go_roundg (p - (k + 1))
              case measure => omega
              case rel => exact ⟨k + 1, true, by omega, by omega, by first | rfl | simp, rfl, HNN, _, rfl⟩
            · have hv : (s[k].toNat : Int) = 35 := by rw [hc]; rfl
              have HNN := Lib.hid hn
              clear hc hn hg hch
              go_wp2_with fail
              go_roundg (p - (k + 1))
              case measure => omega
              case rel => exact ⟨k + 1, true, by omega, by omega, by first | rfl | simp, by first | rfl | simp, HNN, _, rfl⟩
            · have hv : (s[k].toNat : Int) = 32 ∨ (s[k].toNat : Int) = 9 ∨ (s[k].toNat : Int) = 13 := by rcases hc with hc | hc | hc <;> rw [hc] <;> simp
              have HNN := Lib.hid hn
              clear hc hn hg hch
              rcases hv with hv | hv | hv <;>
              · go_wp2_with fail
                go_roundg (p - (k + 1))
                case measure => omega
                case rel => exact ⟨k + 1, false, by omega, by omega, by first | rfl | simp, by first | rfl | simp, HNN, _, rfl⟩
          · obtain rfl : k = p := by omega
            have d6 : IntKind.i64.wrap ((k : Int) + (txt.size : Int)) = (k : Int) + (txt.size : Int) := IntWalk.i64_in _ (by omega)
            go_wp2_with fail
            go_roundg (N + 1 - (jj + 1))
            case measure => omega
            case rel => exact ⟨jj + 1, k + txt.size, by omega, by first | rfl | simp, by first | rfl | simp, by omega, Lib.hid fun _ => HNX.out, _, rfl⟩
      · by_cases hj2 : jj = N
        · have h0 := HJ.out (by omega)
          rw [List.drop_of_length_le (show ts.length ≤ jj by rw [← HN.out]; omega)] at h0
          have HSC : Hid (Tk.scan false ((s.data.toList.drop ff).take (s.size - ff)) = true) := Lib.hid (by rw [List.take_of_length_le (by rw [List.length_drop, ← size_list]; exact Nat.le_refl _)]; exact h0)
          clear h0
          go_wp2_with fail
          go_loopg [9, 10] (s.size - ff) (fun g2 cm i wx => ∃ (k : Nat) (c : Bool), k + g2 = s.size ∧ ff ≤ k ∧ i = .int .i64 (k : Int) ∧ cm = .bool c ∧ Hid (Tk.scan c ((s.data.toList.drop k).take (s.size - k)) = true) ∧ ∃ n, wx = w2.drewN n)
          case atStart => exact ⟨ff, false, by omega, Nat.le_refl _, rfl, rfl, HSC, _, rfl⟩
          case round =>
            obtain ⟨k, cm, hkg, hfk, rfl, rfl, HS, nd2, rfl⟩ := hrel
            by_cases hk : k < s.size
            · have hks : k < s.size := by omega
              have hg := get_list s k hks
              have hsc := HS.out
              rw [take_cons hg hk] at hsc
              have hsc := scan_cons hsc
              obtain ⟨ch, hch⟩ : ∃ ch, ch = s[k].toNat := ⟨_, rfl⟩
              have r0 : (0 : Int) ≤ (k : Int) := by omega
              have r1 : (k : Int) < (s.size : Int) := by omega
              rcases hsc with ⟨hc, hn⟩ | ⟨hc, rfl, hn⟩ | ⟨rfl, hc, hn⟩ | ⟨rfl, hc, hn⟩
              · have hv : (s[k].toNat : Int) = 10 := by rw [hc]; rfl
                have HNN := Lib.hid hn
                clear hc hn hg hch
                go_wp2_with fail
                go_roundg (s.size - (k + 1))
                case measure => omega
                case rel => exact ⟨k + 1, false, by omega, by omega, by first | rfl | simp, rfl, HNN, _, rfl⟩
              · have hv : ((s[k].toNat : Int) == 10) = false := by
                  have : s[k].toNat ≠ 10 := fun e => hc (UInt8.toNat_inj.1 (by rw [e]; rfl))
                  simp; omega
                have HNN := Lib.hid hn
                clear hc hn hg hch
                go_wp2_with fail
                go_roundg (s.size - (k + 1))
                case measure => omega
                case rel => exact ⟨k + 1, true, by omega, by omega, by first | rfl | simp, rfl, HNN, _, rfl⟩
              · have hv : (s[k].toNat : Int) = 35 := by rw [hc]; rfl
                have HNN := Lib.hid hn
                clear hc hn hg hch
                go_wp2_with fail
                go_roundg (s.size - (k + 1))
                case measure => omega
                case rel => exact ⟨k + 1, true, by omega, by omega, by first | rfl | simp, by first | rfl | simp, HNN, _, rfl⟩
              · have hv : (s[k].toNat : Int) = 32 ∨ (s[k].toNat : Int) = 9 ∨ (s[k].toNat : Int) = 13 := by rcases hc with hc | hc | hc <;> rw [hc] <;> simp
                have HNN := Lib.hid hn
                clear hc hn hg hch
                rcases hv with hv | hv | hv <;>
                · go_wp2_with fail
                  go_roundg (s.size - (k + 1))
                  case measure => omega
                  case rel => exact ⟨k + 1, false, by omega, by omega, by first | rfl | simp, by first | rfl | simp, HNN, _, rfl⟩
            · obtain rfl : k = s.size := by omega
              go_wp2_with fail
              go_roundg (N + 1 - (jj + 1))
              case measure => omega
              case rel => exact ⟨jj + 1, ff, by omega, rfl, by first | rfl | (simp; omega) | simp, by omega, Lib.hid fun h => by omega, _, rfl⟩
        · have hj3 : jj = N + 1 := by omega
          go_wp2_with fail
          go_ret
          exact ⟨ret_bool (by simp), below_drewN B2.out nd⟩

theorem places_any {s : ByteArray} {w : World} (hT : HasTab w) :
    Calls Tryd.prog 3 #[.string s] w fun e w' => e = .returned (.bool true) ∧ Below w.heap.size w w' := by
  by_cases h : s.size ≤ 65536
  · exact places_near hT h
  · exact places_far hT (by omega)
end Go.Proofs.YtfnblnemdepimaaDoor
