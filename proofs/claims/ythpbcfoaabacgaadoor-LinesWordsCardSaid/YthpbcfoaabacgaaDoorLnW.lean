/- Lines: the document's words of a text; what the law package asks of lists of texts. -/
import Derived.Test.YthpbcfoaabacgaaDoorLnA
namespace Go.Proofs.YthpbcfoaabacgaaDoor
open Go Go.Proofs Go.RowKit Go.Shelf

attribute [local go_sem] Oper.semAt_some
set_option maxRecDepth 100000
theorem info_str : (Tryd.prog.info? 9).map (fun i => (i.zero, i.size, i.bytes)) = some (some (.string ⟨#[]⟩), 1, 16) := by kernel_rfl
set_option maxHeartbeats 8000000 in
theorem rwords_any (s : ByteArray) (w : World) (hs : s.size ≤ 1048576) : Calls Tryd.prog 7 #[.string s] w fun e w' => ∃ v, e = .returned v ∧ SFresh w' w.heap.size v (Ln.words s.data.toList) ∧ Below w.heap.size w w' := by
  obtain ⟨i0, hi0, hz0, hz1, hz2⟩ := q_info info_str
  obtain ⟨n, hn⟩ : ∃ n, n = s.size := ⟨_, rfl⟩
  have es : (s.size : Int) = (n : Int) := by omega
  obtain ⟨l, hl⟩ : ∃ l, l = s.data.toList := ⟨_, rfl⟩
  rw [← hl]
  have HN := Lib.hid (show n = s.size ∧ n ≤ 1048576 ∧ l.length = n ∧ l = s.data.toList from ⟨hn, by omega, by rw [hl, ← lsize_list, hn], hl⟩)
  have HI := Lib.hid hi0
  have HZ := Lib.hid hz0
  have HZ1 := Lib.hid hz1
  have HZ2 := Lib.hid hz2
  clear hs hn hl hi0 hz0 hz1 hz2
  have k0 : ((0 : Nat) : Int) = 0 := rfl
  go_enter Tryd.func7, Tryd.ntmps7
  go_wp2
  go_loopg [3, 4, 5] (n + 1) (fun g v y z wr => ∃ (i f : Nat) (acc : List (List UInt8)), i + g = n + 1 ∧ y = .int .i64 (f : Int) ∧ z = .int .i64 (i : Int) ∧ Hid (SFresh wr w.heap.size v acc) ∧ Hid (Below w.heap.size w wr) ∧ Hid (f ≤ i ∧ acc.length ≤ i ∧ (i ≤ n → Ln.words l = acc ++ Ln.wgo ((l.drop f).take (i - f)) (l.drop i)) ∧ (i = n + 1 → Ln.words l = acc)))
  case atStart => exact ⟨0, 0, [], by omega, rfl, rfl, Lib.hid (SFresh.nil _ _), Lib.hid (Below.refl _ _), Lib.hid ⟨Nat.le_refl _, Nat.le_refl _, fun _ => by simp [Ln.words], fun h => by omega⟩⟩
  case round =>
    clear k0
    obtain ⟨i, f, acc, hi, rfl, rfl, HO, HB, HA⟩ := hrel
    have hfi := HA.out.1
    have w0 : IntKind.i64.wrap ((i : Int) + 1) = ((i + 1 : Nat) : Int) := IntWalk.i64_in _ (by have := HN.out; omega)
    by_cases hle : i ≤ n
    · have l1 : (i : Int) ≤ (n : Int) := by omega
      have HW := Lib.hid (HA.out.2.2.1 hle)
      by_cases hlt : i < n
      · have n0 : (0 : Int) ≤ (i : Int) := by omega
        have l0 : (i : Int) < (n : Int) := by omega
        have ix := fun W => lstr_at s i (by have := HN.out; omega) W
        obtain ⟨c, hc⟩ : ∃ c, c = s[i]'(by have := HN.out; omega) := ⟨_, rfl⟩
        have HC := Lib.hid (show l[i]? = some c by
          have h1 := lget_list s i (by have := HN.out; omega)
          rw [HN.out.2.2.2, hc]
          exact h1)
        rw [← hc] at ix
        obtain ⟨X, hX⟩ : ∃ X : Int, X = (c.toNat : Int) := ⟨_, rfl⟩
        rw [← hX] at ix
        have HX := Lib.hid hX
        clear hc hX
        by_cases hbl : X = 32 ∨ X = 9
        · have HBL := Lib.hid (show Ln.blank c = true by
            have h := HX.out
            rcases hbl with e | e
            · have : c = 32 := UInt8.toNat_inj.1 (by show c.toNat = 32; omega)
              rw [this]; rfl
            · have : c = 9 := UInt8.toNat_inj.1 (by show c.toNat = 9; omega)
              rw [this]; rfl)
          clear HX
          by_cases hfl : f < i
          · have f3 : (f : Int) < (i : Int) := by omega
            have HE := Lib.hid (show Ln.words l = (acc ++ [(l.drop f).take (i - f)]) ++ Ln.wgo ((l.drop (i + 1)).take (i + 1 - (i + 1))) (l.drop (i + 1)) by
              rw [HW.out, Ln.go_end HC.out HBL.out, Ln.wend_some hfl (by have := HN.out; omega), List.append_assoc])
            clear HC HBL
            rcases hbl with rfl | rfl
            all_goals
              obtain ⟨D, hD⟩ : ∃ D, D = s.extract f i := ⟨_, rfl⟩
              have sl1 := fun W => lslice s f i (by omega) (by have := HN.out; omega) W
              have sl2 := fun W => lsliceAt s f i (by omega) (by have := HN.out; omega) W
              rw [← hD] at sl1 sl2
              have HD := Lib.hid (show Value.string D = scell ((l.drop f).take (i - f)) by rw [hD, lcut s f i, scell, HN.out.2.2.2])
              have f0 : (0 : Int) ≤ (f : Int) := by omega
              have f1 : (f : Int) ≤ (i : Int) := by omega
              have f2 : (i : Int) ≤ (n : Int) := by omega
              have hac := HA.out.2.1
              clear hD
              go_wp2_with (at_builtin; go_loud (refine qwpList_append_or _ rfl _ _ 23 rfl w.heap.size 9 i0 (.string ⟨#[]⟩) 1 16 Tryd.underlying23 HI.out HZ.out HZ1.out HZ2.out rfl (by decide) _ _ _ rfl (World.ownsRow.alloc HO.out _) ⟨wr.heap.size, 0, none⟩ 1 1 [.string D] rfl rfl (World.news_of_block (cs := #[.string D]) (t := 9) (fr := (0, 0)) (q_new wr _)) (by simp [Value.oneCell']) (by unfold maxLen; have := HN.out; omega) (by have := HN.out; omega) (Nat.le_trans HB.out.size (by simp)) ?_); intro v' w3 qown qor; have hown' := Lib.hid qown; have hor := Lib.hid qor; clear qown qor; refine Hid.out ?_)
              refine Lib.hid ?_
              have HB2 := Lib.hid (sbelow_or (.cells #[.string D] 9) HB.out HO.out hor.out)
              have HO2 := Lib.hid (SFresh.snoc (b := (l.drop f).take (i - f)) (by have h := hown'.out; rw [HD.out] at h; exact h))
              clear hown' hor hac
              go_wp2
              go_roundg (n - i)
              case measure => omega
              case rel => exact ⟨i + 1, i + 1, acc ++ [(l.drop f).take (i - f)], by omega, by first | rfl | simp, by first | rfl | simp, HO2, HB2, Lib.hid ⟨Nat.le_refl _, by rw [List.length_append]; have := HA.out; simp only [List.length_singleton]; omega, fun _ => HE.out, fun h => by omega⟩⟩
          · have HE := Lib.hid (show Ln.words l = acc ++ Ln.wgo ((l.drop (i + 1)).take (i + 1 - (i + 1))) (l.drop (i + 1)) by
              rw [HW.out, Ln.go_end HC.out HBL.out, Ln.wend_none (by omega), List.nil_append])
            clear HC HBL
            rcases hbl with rfl | rfl
            all_goals
              have f1 : ¬ (f : Int) < (i : Int) := by omega
              go_wp2
              go_roundg (n - i)
              case measure => omega
              case rel => exact ⟨i + 1, i + 1, acc, by omega, by first | rfl | simp, by first | rfl | simp, HO, HB, Lib.hid ⟨Nat.le_refl _, by have := HA.out; omega, fun _ => HE.out, fun h => by omega⟩⟩
        · have x1 : ¬ X = 32 := fun h => hbl (.inl h)
          have x2 : ¬ X = 9 := fun h => hbl (.inr h)
          have y1 : (X != 32) = true := bne_iff_ne.2 x1
          have y2 : (X != 9) = true := bne_iff_ne.2 x2
          have HE := Lib.hid (show Ln.words l = acc ++ Ln.wgo ((l.drop f).take (i + 1 - f)) (l.drop (i + 1)) by
            rw [HW.out, Ln.go_on hfi HC.out (by
              unfold Ln.blank
              rw [Bool.or_eq_false_iff, beq_eq_false_iff_ne, beq_eq_false_iff_ne]
              exact ⟨fun e => x1 (by rw [HX.out, e]; rfl), fun e => x2 (by rw [HX.out, e]; rfl)⟩)])
          clear HC HX hbl
          go_wp2
          go_roundg (n - i)
          case measure => omega
          case rel => exact ⟨i + 1, f, acc, by omega, rfl, by first | rfl | simp, HO, HB, Lib.hid ⟨by omega, by have := HA.out; omega, fun _ => HE.out, fun h => by omega⟩⟩
      · obtain rfl : i = n := by omega
        have l0 : ¬ (i : Int) < (i : Int) := by omega
        have HQ := Lib.hid (HW.out.trans (congrArg (acc ++ ·) (Ln.go_last (by have := HN.out; omega))))
        by_cases hfl : f < i
        · have f3 : (f : Int) < (i : Int) := by omega
          have HE := Lib.hid (show Ln.words l = acc ++ [(l.drop f).take (i - f)] by rw [HQ.out]; show acc ++ _ = _; rw [Ln.wend_some hfl (by have := HN.out; omega)])
          obtain ⟨D, hD⟩ : ∃ D, D = s.extract f i := ⟨_, rfl⟩
          have sl1 := fun W => lslice s f i (by omega) (by have := HN.out; omega) W
          have sl2 := fun W => lsliceAt s f i (by omega) (by have := HN.out; omega) W
          rw [← hD] at sl1 sl2
          have HD := Lib.hid (show Value.string D = scell ((l.drop f).take (i - f)) by rw [hD, lcut s f i, scell, HN.out.2.2.2])
          have f0 : (0 : Int) ≤ (f : Int) := by omega
          have f1 : (f : Int) ≤ (i : Int) := by omega
          have f2 : (i : Int) ≤ (i : Int) := by omega
          have hac := HA.out.2.1
          clear hD
          go_wp2_with (at_builtin; go_loud (refine qwpList_append_or _ rfl _ _ 23 rfl w.heap.size 9 i0 (.string ⟨#[]⟩) 1 16 Tryd.underlying23 HI.out HZ.out HZ1.out HZ2.out rfl (by decide) _ _ _ rfl (World.ownsRow.alloc HO.out _) ⟨wr.heap.size, 0, none⟩ 1 1 [.string D] rfl rfl (World.news_of_block (cs := #[.string D]) (t := 9) (fr := (0, 0)) (q_new wr _)) (by simp [Value.oneCell']) (by unfold maxLen; have := HN.out; omega) (by have := HN.out; omega) (Nat.le_trans HB.out.size (by simp)) ?_); intro v' w3 qown qor; have hown' := Lib.hid qown; have hor := Lib.hid qor; clear qown qor; refine Hid.out ?_)
          refine Lib.hid ?_
          have HB2 := Lib.hid (sbelow_or (.cells #[.string D] 9) HB.out HO.out hor.out)
          have HO2 := Lib.hid (SFresh.snoc (b := (l.drop f).take (i - f)) (by have h := hown'.out; rw [HD.out] at h; exact h))
          clear hown' hor hac
          go_wp2
          go_roundg 0
          case measure => omega
          case rel => exact ⟨i + 1, i + 1, acc ++ [(l.drop f).take (i - f)], by omega, by first | rfl | simp, by first | rfl | simp, HO2, HB2, Lib.hid ⟨Nat.le_refl _, by rw [List.length_append]; have := HA.out; simp only [List.length_singleton]; omega, fun h => by omega, fun _ => HE.out⟩⟩
        · have HE := Lib.hid (show Ln.words l = acc by rw [HQ.out]; show acc ++ _ = _; rw [Ln.wend_none (by omega), List.append_nil])
          have f1 : ¬ (f : Int) < (i : Int) := by omega
          go_wp2
          go_roundg 0
          case measure => omega
          case rel => exact ⟨i + 1, i + 1, acc, by omega, by first | rfl | simp, by first | rfl | simp, HO, HB, Lib.hid ⟨Nat.le_refl _, by have := HA.out; omega, fun h => by omega, fun _ => HE.out⟩⟩
    · have l1 : ¬ (i : Int) ≤ (n : Int) := by omega
      have HE := Lib.hid (HA.out.2.2.2 (by omega))
      go_wp2
      go_ret
      rw [HE.out]
      exact ⟨_, rfl, HO.out, HB.out⟩
set_option maxHeartbeats 4000000 in
theorem sameTexts_any {W : World} {u v : Value} {ws : List (List UInt8)} (hu : RdC W u ws.length (scells ws)) (hv : RdC W v ws.length (scells ws)) (hl : ws.length ≤ 2000000) :
    Calls Tryd.prog 6 #[u, v] W fun e w' => e = .returned (.bool true) ∧ Below W.heap.size W w' := by
  obtain ⟨a, c, rfl, hac, ha⟩ := hu
  obtain ⟨b, d, rfl, hbd, hb⟩ := hv
  obtain ⟨N, hN⟩ : ∃ N, N = ws.length := ⟨_, rfl⟩
  have HN := Lib.hid hN
  have HA := Lib.hid ha
  have HB := Lib.hid hb
  rw [← hN] at hl hac hbd ⊢
  clear hN ha hb
  have k0 : ((0 : Nat) : Int) = 0 := rfl
  go_enter Tryd.func6, Tryd.ntmps6
  go_wp2
  go_loopg [5] N (fun g i wx => ∃ k : Nat, k + g = N ∧ i = .int .i64 (k : Int) ∧ ∃ n, wx = W.drewN n)
  case atStart => exact ⟨0, by omega, rfl, 0, rfl⟩
  case round =>
    clear k0
    obtain ⟨k, hkg, rfl, nd, rfl⟩ := hrel
    by_cases hlk : k < N
    · have h0 : 0 < ws.length := by have := HN.out; omega
      obtain ⟨ba, oa, rfl, hba, hca⟩ := HA.out h0
      obtain ⟨bb, ob, rfl, hbb, hcb⟩ := HB.out h0
      have hk2 : k < ws.length := by have := HN.out; omega
      obtain ⟨D, hD⟩ : ∃ D, Value.string D = scell (ws[k]) := ⟨_, rfl⟩
      have hsc : (scells ws)[k]? = some (.string D) := by unfold scells; rw [List.getElem?_map, List.getElem?_eq_getElem hk2, hD]; rfl
      have a0 := hca k _ hsc
      have b0 := hcb k _ hsc
      have w0 : IntKind.i64.wrap ((k : Int) + 1) = ((k + 1 : Nat) : Int) := IntWalk.i64_in _ (by omega)
      clear hca hcb h0 hk2 hD hsc
      have q0 : (0 : Int) ≤ (k : Int) := by omega
      have q1 : (k : Int) < (N : Int) := by omega
      go_wp2
      go_quiet (fail)
      go_wp2
      go_roundg (N - (k + 1))
      case measure => omega
      case rel => exact ⟨k + 1, by omega, by first | rfl | simp, nd + nq, by first | rfl | exact World.drewN_drewN _ _ _⟩
    · go_wp2
      go_ret
      exact ⟨rfl, below_drewN (Below.refl _ _) nd⟩
end Go.Proofs.YthpbcfoaabacgaaDoor
