/- Sums: the document's sum of bytes. -/
import Derived.Test.YtjlmhpokamdkhaaDoorShRc
namespace Go.Proofs.YtjlmhpokamdkhaaDoor
open Go Go.Proofs Go.RowKit Go.Shelf

attribute [local go_sem] Oper.semAt_some
set_option maxRecDepth 100000
theorem Row.heapcell {W : World} {g b o j : Nat} {x : Value} (hne : g ≠ b) (v : Value) (h : W.cell? ⟨g, j, none⟩ = some x) : (W.setCell ⟨b, o, none⟩ v).cell? ⟨g, j, none⟩ = some x := by
  unfold World.cell? at h ⊢
  rw [Below.heap_setCell W ⟨b, o, none⟩ v g hne]
  exact h
theorem frozen_other {W : World} {g b o j : Nat} (hne : g ≠ b) (v : Value) (h : W.frozen? ⟨g, j, none⟩ = false) : (W.setCell ⟨b, o, none⟩ v).frozen? ⟨g, j, none⟩ = false := by
  unfold World.frozen? at h ⊢
  rw [Below.heap_setCell W ⟨b, o, none⟩ v g hne]
  exact h
set_option maxHeartbeats 8000000 in
theorem rof_any (l : List UInt8) (v : Value) (w : World) (hl : l.length ≤ 900000) (hR : RdB w v l) :
    Calls Tryd.prog 10 #[v] w fun e w' => e = .returned (.agg ((Sh.sha l).map bv).toArray) ∧ Below w.heap.size w w' := by
  obtain ⟨a, cap, rfl, hcap⟩ := hR.form
  obtain ⟨n1, hn1⟩ : ∃ n, n = l.length := ⟨_, rfl⟩
  obtain ⟨u, hu⟩ : ∃ u, u = w.alloc (.cells #[.int .u8 0, .int .u8 0, .int .u8 0, .int .u8 0, .int .u8 0, .int .u8 0, .int .u8 0, .int .u8 0, .int .u8 0, .int .u8 0, .int .u8 0, .int .u8 0, .int .u8 0, .int .u8 0, .int .u8 0, .int .u8 0, .int .u8 0, .int .u8 0, .int .u8 0, .int .u8 0, .int .u8 0, .int .u8 0, .int .u8 0, .int .u8 0, .int .u8 0, .int .u8 0, .int .u8 0, .int .u8 0, .int .u8 0, .int .u8 0, .int .u8 0, .int .u8 0] 24) := ⟨_, rfl⟩
  have hus : u.heap.size = w.heap.size + 1 := by rw [hu]; simp
  have HU0 := Lib.hid (show Row u w.heap.size 24 (List.replicate 32 (bv 0)) ∧ w.heap.size < u.heap.size ∧ Below w.heap.size w u from ⟨by rw [hu]; exact Row.new w _ (List.replicate 32 (bv 0)), by omega, by rw [hu]; exact (Below.refl _ _).alloc (Nat.le_refl _) _⟩)
  have hRu : RdB u (.slice a n1 cap) l := by rw [hn1]; exact hR.below HU0.out.2.2
  obtain ⟨v1, W1, hap1, ho1, hgr1⟩ := append_run (W := u) (base := u.heap.size) (v := .slice none 0 0) (l := []) (OwnB'.nil u _) hRu (Nat.le_refl _) (by simp; omega)
  rw [List.nil_append] at ho1
  have hb1 : Below u.heap.size u W1 := OwnB'.bel (Below.refl _ _) (OwnB'.nil u _) hgr1
  obtain ⟨g2, c2, W2, hap2, ho2, hb2, -, -⟩ := app_b (w := u) (W := W1) (V := W1.alloc (.cells #[.int .u8 128] 5)) 128 hb1 ho1 (by omega) rfl rfl rfl rfl
  rw [← hn1] at hap2 ho2
  obtain ⟨n2, hn2⟩ : ∃ n, n = n1 + 1 := ⟨_, rfl⟩
  rw [← hn2] at hap2 ho2
  rw [hu] at hap1
  have HAP1 := Lib.hid hap1
  have HAP2 := Lib.hid hap2
  have HO2 := Lib.hid (show OwnB' W2 u.heap.size (.slice (some ⟨g2, 0, none⟩) n2 c2) (l ++ 128 :: List.replicate 0 0) from ho2)
  have HB2 := Lib.hid hb2
  have HN := Lib.hid (show n1 = l.length ∧ n2 = n1 + 1 ∧ n1 ≤ 900000 from ⟨hn1, hn2, by omega⟩)
  rw [← hn1]
  have HF := Lib.hid (Sh.sha_comps l (Sh.zs n1) (Sh.zs_lt _) (by rw [← hn1]; exact Sh.zs_eq _))
  have c1 : IntKind.u64.wrap (n1 : Int) = (n1 : Int) := by rw [IntKind.wrap_u64]; omega
  obtain ⟨nb, hnb⟩ : ∃ n, n = 8 * n1 := ⟨_, rfl⟩
  have c3 : IntKind.u64.wrap (8 * (n1 : Int)) = (nb : Int) := by rw [IntKind.wrap_u64]; omega
  have HNB := Lib.hid (show nb = 8 * n1 from hnb)
  have HZ := Lib.hid (show ∀ z, z < Sh.zs n1 → (n1 + 1 + z) % 64 ≠ 56 from Sh.zs_ne n1)
  have HZE := Lib.hid (show (n1 + 1 + Sh.zs n1) % 64 = 56 ∧ Sh.zs n1 < 64 from ⟨Sh.zs_eq n1, Sh.zs_lt n1⟩)
  obtain ⟨Z, hZ⟩ : ∃ Z, Z = Sh.zs n1 := ⟨_, rfl⟩
  rw [← hZ] at HZ HZE HF
  have HU := Lib.hid hu
  have HUS := Lib.hid hus
  clear hu hus hRu hR hap1 hap2 ho1 ho2 hb1 hb2 hgr1 hcap hl hn1 hn2 hnb hZ
  go_enter Tryd.func10, Tryd.ntmps10
  go_wp2_with (first
    | (at_builtin; refine Lib.wpList_append_run _ rfl _ _ _ _ rfl _ _ rfl rfl _ _ HAP2.out ?_)
    | (at_builtin; refine Lib.wpList_append_run _ rfl _ _ _ _ rfl _ _ rfl rfl _ _ HAP1.out ?_))
  go_loopg [3] Z (fun g v wr => ∃ (z m gv cv : Nat), z + g = Z ∧ v = .slice (some ⟨gv, 0, none⟩) m cv ∧ Hid (m = n2 + z) ∧ Hid (OwnB' wr u.heap.size (.slice (some ⟨gv, 0, none⟩) m cv) (l ++ 128 :: List.replicate z 0)) ∧ Hid (Below u.heap.size u wr))
  case atStart => exact ⟨0, n2, g2, c2, by omega, rfl, Lib.hid rfl, HO2, HB2⟩
  case round =>
    clear HO2 HB2 HAP1 HAP2
    obtain ⟨z, m, gv, cv, hz, rfl, HM, HO, HW⟩ := hrel
    by_cases hlt : z < Z
    · obtain ⟨r, hr⟩ : ∃ r, r = m % 64 := ⟨_, rfl⟩
      have q1 : (m : Int) % 64 = (r : Int) := by rw [hr]; simp
      have q2 : Int.tmod (m : Int) 64 = (r : Int) := by rw [Int.tmod_eq_emod_of_nonneg (by omega)]; exact q1
      have q3 : ¬ ((r : Int) = 56) := by have := HZ.out z hlt; have := HM.out; have := HN.out; omega
      have hlen : (l ++ 128 :: List.replicate z (0 : UInt8)).length = m := by have := HM.out; have := HN.out; simp; omega
      obtain ⟨g3, c3', W3, hap, ho, hb, -, -⟩ := app_b (w := u) (W := wr) (V := wr.alloc (.cells #[.int .u8 0] 5)) 0 HW.out HO.out (by have := HM.out; have := HN.out; have := HZE.out; omega) rfl rfl rfl rfl
      rw [hlen] at hap ho
      have hap := Lib.hid hap
      have ho := Lib.hid ho
      have hb := Lib.hid hb
      clear hr hlen
      go_wp2_with (at_builtin; refine Lib.wpList_append_run _ rfl _ _ _ _ rfl _ _ rfl rfl _ _ hap.out ?_)
      go_roundg (Z - (z + 1))
      case measure => omega
      case rel =>
        refine ⟨z + 1, m + 1, g3, c3', by omega, rfl, Lib.hid (by have := HM.out; omega), Lib.hid ?_, hb⟩
        have h := ho.out
        rw [List.append_assoc] at h
        rw [List.replicate_succ']
        exact h
    · obtain rfl : z = Z := by omega
      have q1 : (m : Int) % 64 = 56 := by have := HZE.out; have := HM.out; have := HN.out; omega
      have q2 : Int.tmod (m : Int) 64 = 56 := by rw [Int.tmod_eq_emod_of_nonneg (by omega)]; exact q1
      have hmm : m % 64 = 56 := by omega
      obtain ⟨A, hA⟩ : ∃ A, A = l ++ 128 :: List.replicate z (0 : UInt8) := ⟨_, rfl⟩
      have HA := Lib.hid (show A.length = m by rw [hA]; have := HM.out; have := HN.out; simp; omega)
      have HF := Lib.hid (show Sh.sha l = Sh.outB (Sh.comps ((m + 8) / 64) Sh.H (A ++ Sh.lenB nb)) by
        rw [HF.out, ← hA, ← HN.out.1, HNB.out, show n1 + 1 + z = m by have := HM.out; have := HN.out; omega])
      rw [← hA] at HO
      have HMB := Lib.hid (show m ≤ 900100 ∧ m % 64 = 56 by have := HM.out; have := HN.out; have := HZE.out; omega)
      clear hA hlt hz HZ HZE HM hmm
      have k0 : ((0 : Nat) : Int) = 0 := rfl
      go_wp2
      clear q1 q2
      go_loopg [3, 5] 8 (fun g v x wr => ∃ (i q gv cv : Nat), i + g = 8 ∧ v = .slice (some ⟨gv, 0, none⟩) q cv ∧ x = .int .i64 (i : Int) ∧ Hid (q = m + i) ∧ Hid (OwnB' wr u.heap.size (.slice (some ⟨gv, 0, none⟩) q cv) (A ++ (Sh.lenB nb).take i)) ∧ Hid (Below u.heap.size u wr))
      case atStart => exact ⟨0, m, gv, cv, rfl, rfl, rfl, Lib.hid rfl, by rw [List.take_zero, List.append_nil]; exact HO, HW⟩
      case round =>
        clear HO HW
        obtain ⟨i, q, gv, cv, hi, rfl, rfl, HQ, HO, HW⟩ := hrel
        have hlen : i ≤ 8 → (A ++ (Sh.lenB nb).take i).length = q := fun h => by have := HQ.out; have := HA.out; rw [List.length_append, List.length_take, Sh.length_lenB]; omega
        have KA := Lib.hid (show ∀ (hi : i < 8), ∃ g cc W', (Builtin.append_ #[22, 22] 22 #[.slice (some ⟨gv, 0, none⟩) q cv, .slice (some ⟨wr.heap.size, 0, none⟩) 1 1]).run Tryd.prog (wr.alloc (.cells #[.int .u8 (ib (UInt8.ofNat (nb / 2 ^ (56 - 8 * i))))] 5)) = .ok (.slice (some ⟨g, 0, none⟩) (q + 1) cc) W' ∧ OwnB' W' u.heap.size (.slice (some ⟨g, 0, none⟩) (q + 1) cc) (A ++ (Sh.lenB nb).take (i + 1)) ∧ Below u.heap.size u W' from fun hi => by
          obtain ⟨g, cc, W', hap, ho, hb, -, -⟩ := app_b (w := u) (W := wr) (V := wr.alloc (.cells #[.int .u8 (ib (UInt8.ofNat (nb / 2 ^ (56 - 8 * i))))] 5)) (UInt8.ofNat (nb / 2 ^ (56 - 8 * i))) HW.out HO.out (by rw [hlen (by omega)]; have := HQ.out; have := HMB.out; omega) rfl rfl rfl rfl
          rw [hlen (by omega)] at hap ho
          rw [List.append_assoc, ← Sh.lenB_take nb i hi] at ho
          exact ⟨g, cc, W', hap, ho, hb⟩)
        clear hlen
        obtain rfl | rfl | rfl | rfl | rfl | rfl | rfl | rfl | rfl : i = 0 ∨ i = 1 ∨ i = 2 ∨ i = 3 ∨ i = 4 ∨ i = 5 ∨ i = 6 ∨ i = 7 ∨ i = 8 := by omega
        · obtain ⟨g3, c3', W3, hap, ho, hb⟩ := KA.out (by decide)
          obtain ⟨cc, hcc⟩ : ∃ c, c = ib (UInt8.ofNat (nb / 2 ^ 56)) := ⟨_, rfl⟩
          have hap := Lib.hid (show (Builtin.append_ #[22, 22] 22 #[.slice (some ⟨gv, 0, none⟩) q cv, .slice (some ⟨wr.heap.size, 0, none⟩) 1 1]).run Tryd.prog (wr.alloc (.cells #[.int .u8 cc] 5)) = .ok (.slice (some ⟨g3, 0, none⟩) (q + 1) c3') W3 by rw [hcc]; exact hap)
          have ho := Lib.hid ho
          have hb := Lib.hid hb
          have kc : ((0 : Nat) : Int) = 0 := rfl
          have ku : IntKind.u8.wrap ((nb : Int) / (72057594037927936 : Int)) = cc := by rw [hcc, ← u8_of, Int.natCast_ediv]; first | rfl | (congr 1; simp)
          clear hcc
          go_wp2_with (at_builtin; refine Lib.wpList_append_run _ rfl _ _ _ _ rfl _ _ rfl rfl _ _ hap.out ?_)
          go_roundg 7
          case measure => omega
          case rel => exact ⟨1, q + 1, g3, c3', by omega, rfl, rfl, Lib.hid (by have := HQ.out; omega), ho, hb⟩
        · obtain ⟨g3, c3', W3, hap, ho, hb⟩ := KA.out (by decide)
          obtain ⟨cc, hcc⟩ : ∃ c, c = ib (UInt8.ofNat (nb / 2 ^ 48)) := ⟨_, rfl⟩
          have hap := Lib.hid (show (Builtin.append_ #[22, 22] 22 #[.slice (some ⟨gv, 0, none⟩) q cv, .slice (some ⟨wr.heap.size, 0, none⟩) 1 1]).run Tryd.prog (wr.alloc (.cells #[.int .u8 cc] 5)) = .ok (.slice (some ⟨g3, 0, none⟩) (q + 1) c3') W3 by rw [hcc]; exact hap)
          have ho := Lib.hid ho
          have hb := Lib.hid hb
          have kc : ((1 : Nat) : Int) = 1 := rfl
          have ku : IntKind.u8.wrap ((nb : Int) / (281474976710656 : Int)) = cc := by rw [hcc, ← u8_of, Int.natCast_ediv]; first | rfl | (congr 1; simp)
          clear hcc
          go_wp2_with (at_builtin; refine Lib.wpList_append_run _ rfl _ _ _ _ rfl _ _ rfl rfl _ _ hap.out ?_)
          go_roundg 6
          case measure => omega
          case rel => exact ⟨2, q + 1, g3, c3', by omega, rfl, rfl, Lib.hid (by have := HQ.out; omega), ho, hb⟩
        · obtain ⟨g3, c3', W3, hap, ho, hb⟩ := KA.out (by decide)
          obtain ⟨cc, hcc⟩ : ∃ c, c = ib (UInt8.ofNat (nb / 2 ^ 40)) := ⟨_, rfl⟩
          have hap := Lib.hid (show (Builtin.append_ #[22, 22] 22 #[.slice (some ⟨gv, 0, none⟩) q cv, .slice (some ⟨wr.heap.size, 0, none⟩) 1 1]).run Tryd.prog (wr.alloc (.cells #[.int .u8 cc] 5)) = .ok (.slice (some ⟨g3, 0, none⟩) (q + 1) c3') W3 by rw [hcc]; exact hap)
          have ho := Lib.hid ho
          have hb := Lib.hid hb
          have kc : ((2 : Nat) : Int) = 2 := rfl
          have ku : IntKind.u8.wrap ((nb : Int) / (1099511627776 : Int)) = cc := by rw [hcc, ← u8_of, Int.natCast_ediv]; first | rfl | (congr 1; simp)
          clear hcc
          go_wp2_with (at_builtin; refine Lib.wpList_append_run _ rfl _ _ _ _ rfl _ _ rfl rfl _ _ hap.out ?_)
          go_roundg 5
          case measure => omega
          case rel => exact ⟨3, q + 1, g3, c3', by omega, rfl, rfl, Lib.hid (by have := HQ.out; omega), ho, hb⟩
        · obtain ⟨g3, c3', W3, hap, ho, hb⟩ := KA.out (by decide)
          obtain ⟨cc, hcc⟩ : ∃ c, c = ib (UInt8.ofNat (nb / 2 ^ 32)) := ⟨_, rfl⟩
          have hap := Lib.hid (show (Builtin.append_ #[22, 22] 22 #[.slice (some ⟨gv, 0, none⟩) q cv, .slice (some ⟨wr.heap.size, 0, none⟩) 1 1]).run Tryd.prog (wr.alloc (.cells #[.int .u8 cc] 5)) = .ok (.slice (some ⟨g3, 0, none⟩) (q + 1) c3') W3 by rw [hcc]; exact hap)
          have ho := Lib.hid ho
          have hb := Lib.hid hb
          have kc : ((3 : Nat) : Int) = 3 := rfl
          have ku : IntKind.u8.wrap ((nb : Int) / (4294967296 : Int)) = cc := by rw [hcc, ← u8_of, Int.natCast_ediv]; first | rfl | (congr 1; simp)
          clear hcc
          go_wp2_with (at_builtin; refine Lib.wpList_append_run _ rfl _ _ _ _ rfl _ _ rfl rfl _ _ hap.out ?_)
          go_roundg 4
          case measure => omega
          case rel => exact ⟨4, q + 1, g3, c3', by omega, rfl, rfl, Lib.hid (by have := HQ.out; omega), ho, hb⟩
        · obtain ⟨g3, c3', W3, hap, ho, hb⟩ := KA.out (by decide)
          obtain ⟨cc, hcc⟩ : ∃ c, c = ib (UInt8.ofNat (nb / 2 ^ 24)) := ⟨_, rfl⟩
          have hap := Lib.hid (show (Builtin.append_ #[22, 22] 22 #[.slice (some ⟨gv, 0, none⟩) q cv, .slice (some ⟨wr.heap.size, 0, none⟩) 1 1]).run Tryd.prog (wr.alloc (.cells #[.int .u8 cc] 5)) = .ok (.slice (some ⟨g3, 0, none⟩) (q + 1) c3') W3 by rw [hcc]; exact hap)
          have ho := Lib.hid ho
          have hb := Lib.hid hb
          have kc : ((4 : Nat) : Int) = 4 := rfl
          have ku : IntKind.u8.wrap ((nb : Int) / (16777216 : Int)) = cc := by rw [hcc, ← u8_of, Int.natCast_ediv]; first | rfl | (congr 1; simp)
          clear hcc
          go_wp2_with (at_builtin; refine Lib.wpList_append_run _ rfl _ _ _ _ rfl _ _ rfl rfl _ _ hap.out ?_)
          go_roundg 3
          case measure => omega
          case rel => exact ⟨5, q + 1, g3, c3', by omega, rfl, rfl, Lib.hid (by have := HQ.out; omega), ho, hb⟩
        · obtain ⟨g3, c3', W3, hap, ho, hb⟩ := KA.out (by decide)
          obtain ⟨cc, hcc⟩ : ∃ c, c = ib (UInt8.ofNat (nb / 2 ^ 16)) := ⟨_, rfl⟩
          have hap := Lib.hid (show (Builtin.append_ #[22, 22] 22 #[.slice (some ⟨gv, 0, none⟩) q cv, .slice (some ⟨wr.heap.size, 0, none⟩) 1 1]).run Tryd.prog (wr.alloc (.cells #[.int .u8 cc] 5)) = .ok (.slice (some ⟨g3, 0, none⟩) (q + 1) c3') W3 by rw [hcc]; exact hap)
          have ho := Lib.hid ho
          have hb := Lib.hid hb
          have kc : ((5 : Nat) : Int) = 5 := rfl
          have ku : IntKind.u8.wrap ((nb : Int) / (65536 : Int)) = cc := by rw [hcc, ← u8_of, Int.natCast_ediv]; first | rfl | (congr 1; simp)
          clear hcc
          go_wp2_with (at_builtin; refine Lib.wpList_append_run _ rfl _ _ _ _ rfl _ _ rfl rfl _ _ hap.out ?_)
          go_roundg 2
          case measure => omega
          case rel => exact ⟨6, q + 1, g3, c3', by omega, rfl, rfl, Lib.hid (by have := HQ.out; omega), ho, hb⟩
        · obtain ⟨g3, c3', W3, hap, ho, hb⟩ := KA.out (by decide)
          obtain ⟨cc, hcc⟩ : ∃ c, c = ib (UInt8.ofNat (nb / 2 ^ 8)) := ⟨_, rfl⟩
          have hap := Lib.hid (show (Builtin.append_ #[22, 22] 22 #[.slice (some ⟨gv, 0, none⟩) q cv, .slice (some ⟨wr.heap.size, 0, none⟩) 1 1]).run Tryd.prog (wr.alloc (.cells #[.int .u8 cc] 5)) = .ok (.slice (some ⟨g3, 0, none⟩) (q + 1) c3') W3 by rw [hcc]; exact hap)
          have ho := Lib.hid ho
          have hb := Lib.hid hb
          have kc : ((6 : Nat) : Int) = 6 := rfl
          have ku : IntKind.u8.wrap ((nb : Int) / (256 : Int)) = cc := by rw [hcc, ← u8_of, Int.natCast_ediv]; first | rfl | (congr 1; simp)
          clear hcc
          go_wp2_with (at_builtin; refine Lib.wpList_append_run _ rfl _ _ _ _ rfl _ _ rfl rfl _ _ hap.out ?_)
          go_roundg 1
          case measure => omega
          case rel => exact ⟨7, q + 1, g3, c3', by omega, rfl, rfl, Lib.hid (by have := HQ.out; omega), ho, hb⟩
        · obtain ⟨g3, c3', W3, hap, ho, hb⟩ := KA.out (by decide)
          obtain ⟨cc, hcc⟩ : ∃ c, c = ib (UInt8.ofNat (nb / 2 ^ 0)) := ⟨_, rfl⟩
          have hap := Lib.hid (show (Builtin.append_ #[22, 22] 22 #[.slice (some ⟨gv, 0, none⟩) q cv, .slice (some ⟨wr.heap.size, 0, none⟩) 1 1]).run Tryd.prog (wr.alloc (.cells #[.int .u8 cc] 5)) = .ok (.slice (some ⟨g3, 0, none⟩) (q + 1) c3') W3 by rw [hcc]; exact hap)
          have ho := Lib.hid ho
          have hb := Lib.hid hb
          have kc : ((7 : Nat) : Int) = 7 := rfl
          have ku : IntKind.u8.wrap ((nb : Int)) = cc := by rw [hcc, ← u8_of, Int.natCast_ediv]; first | rfl | (congr 1; simp)
          clear hcc
          go_wp2_with (at_builtin; refine Lib.wpList_append_run _ rfl _ _ _ _ rfl _ _ rfl rfl _ _ hap.out ?_)
          go_roundg 0
          case measure => omega
          case rel => exact ⟨8, q + 1, g3, c3', by omega, rfl, rfl, Lib.hid (by have := HQ.out; omega), ho, hb⟩
        · have kc : ((8 : Nat) : Int) = 8 := rfl
          clear KA hi c1 c3
          obtain ⟨full, hfull⟩ : ∃ f, f = A ++ Sh.lenB nb := ⟨_, rfl⟩
          rw [List.take_of_length_le (by rw [Sh.length_lenB]; omega), ← hfull] at HO
          rw [← hfull] at HF
          have HFL := Lib.hid (show full.length = q by rw [hfull]; have := HQ.out; have := HA.out; rw [List.length_append, Sh.length_lenB]; omega)
          obtain ⟨nq, hnq⟩ : ∃ n, n = (m + 8) / 64 := ⟨_, rfl⟩
          rw [← hnq] at HF
          have HQ := Lib.hid (show q = 64 * nq ∧ q ≤ 900200 by have := HQ.out; have := HMB.out; omega)
          clear hfull hnq HA HMB
          go_wp2
          clear kc
          have k0 : ((0 : Nat) : Int) = 0 := rfl
          obtain ⟨gh0, hgh0⟩ : ∃ g, g = wr.heap.size := ⟨_, rfl⟩
          rw [← hgh0]
          have HL := Lib.hid (show LU (wr.alloc (.cells #[.int .u32 1779033703, .int .u32 3144134277, .int .u32 1013904242, .int .u32 2773480762, .int .u32 1359893119, .int .u32 2600822924, .int .u32 528734635, .int .u32 1541459225] 40)) u.heap.size gh0 (Sh.list Sh.H) by rw [hgh0]; exact LU.row (show Row _ wr.heap.size 40 ((Sh.list Sh.H).map uv) from Row.new wr 40 ((Sh.list Sh.H).map uv)) HW.out.size)
          have HO := Lib.hid (show RdB (wr.alloc (.cells #[.int .u32 1779033703, .int .u32 3144134277, .int .u32 1013904242, .int .u32 2773480762, .int .u32 1359893119, .int .u32 2600822924, .int .u32 528734635, .int .u32 1541459225] 40)) (.slice (some ⟨gv, 0, none⟩) q cv) full from (OwnB'.rdb HO.out).below ((Below.refl _ _).alloc (Nat.le_refl _) _))
          have HW := Lib.hid (HW.out.alloc HW.out.size (.cells #[.int .u32 1779033703, .int .u32 3144134277, .int .u32 1013904242, .int .u32 2773480762, .int .u32 1359893119, .int .u32 2600822924, .int .u32 528734635, .int .u32 1541459225] 40))
          have hqc : q ≤ cv := by
            obtain ⟨a', cap', e, hc, _⟩ := HO.out
            simp only [Value.slice.injEq] at e
            have := HFL.out
            omega
          clear hgh0
          go_loopg [6, 7] nq (fun g hv x wr => ∃ (k j gh ch : Nat) (S : St), k + g = nq ∧ hv = .slice (some ⟨gh, 0, none⟩) 8 ch ∧ x = .int .i64 (j : Int) ∧ Hid (j = 64 * k) ∧ Hid (LU wr u.heap.size gh (Sh.list S)) ∧ Hid (RdB wr (.slice (some ⟨gv, 0, none⟩) q cv) full) ∧ Hid (Sh.sha l = Sh.outB (Sh.comps (nq - k) S (full.drop (64 * k)))) ∧ Hid (Below u.heap.size u wr))
          case atStart => exact ⟨0, 0, gh0, 8, Sh.H, by omega, rfl, rfl, Lib.hid rfl, HL, HO, HF, HW⟩
          case round =>
            clear HL HO HF HW k0
            obtain ⟨k, j, gh, ch, S, hk, rfl, rfl, HJ, HL, HO, HF, HW⟩ := hrel
            by_cases hlt : k < nq
            · obtain ⟨j2, hj2⟩ : ∃ j2, j2 = j + 64 := ⟨_, rfl⟩
              have w1 : IntKind.i64.wrap ((j : Int) + 64) = (j2 : Int) := by rw [hj2]; exact i64n (j + 64) (by have := HQ.out; have := HJ.out; omega)
              have n0 : (0 : Int) ≤ (j : Int) := by omega
              have l0 : (j : Int) < (q : Int) := by have := HQ.out; have := HJ.out; omega
              have n1' : (j : Int) ≤ (j2 : Int) := by omega
              have n2' : (j2 : Int) ≤ (cv : Int) := by have := HQ.out; have := HJ.out; omega
              have n3' : (0 : Int) ≤ (j2 : Int) := by omega
              have n4' : (j2 : Int) ≤ (q : Int) := by have := HQ.out; have := HJ.out; omega
              have HJ2 := Lib.hid (show j2 = j + 64 ∧ j2 ≤ q ∧ q ≤ cv by have := HQ.out; have := HJ.out; omega)
              clear hj2
              have KB := Lib.hid (show ∀ (vb : Value), RdB wr vb ((full.drop j).take 64) → Calls Tryd.prog 25 #[.slice (some ⟨gh, 0, none⟩) 8 ch, vb] wr fun e w' => ∃ g c, e = .returned (.slice (some ⟨g, 0, none⟩) 8 c) ∧ LU w' wr.heap.size g (Sh.list (Sh.comp S ((full.drop j).take 64))) ∧ Below wr.heap.size wr w' from fun vb hvb => rblock_any S _ (by have := HFL.out; have := HJ2.out; rw [List.length_take, List.length_drop]; omega) vb gh ch wr hvb (fun i hi => (HL.out.2.2 i (by simpa [Sh.list] using hi)).1) HL.out.2.1)
              go_wp2_with fail
              go_at_call 25
              refine (KB.out _ ?_).mono ?_
              · have hd := HJ2.out
                have h := rdb_sub (j := j) (c := cv - j) HO.out HFL.out (by omega) (by omega)
                rw [Nat.zero_add] at h
                rw [show j2 - j = 64 by omega]
                exact h
              rintro e w3 ⟨g3, c3', rfl, hL3, hb3⟩
              have hL3 := Lib.hid hL3
              have hb3 := Lib.hid hb3
              go_wp2
              go_roundg (nq - (k + 1))
              case measure => omega
              case rel =>
                refine ⟨k + 1, j2, g3, c3', _, by omega, rfl, rfl, Lib.hid (by have := HJ.out; have := HJ2.out; omega), Lib.hid ⟨Nat.le_trans HW.out.size hL3.out.1, hL3.out.2⟩, Lib.hid (HO.out.below hb3.out), Lib.hid ?_, Lib.hid (HW.out.trans (hb3.out.mono HW.out.size))⟩
                rw [HF.out, show nq - k = (nq - (k + 1)) + 1 by omega, Sh.comps_drop, HJ.out]
            · obtain rfl : k = nq := by omega
              have l0 : ¬ (j : Int) < (q : Int) := by have := HQ.out; have := HJ.out; omega
              have HF := Lib.hid (show Sh.sha l = Sh.outB S by rw [HF.out, Nat.sub_self]; rfl)
              clear HO HJ HQ HFL hlt hk hqc
              go_wp2
              clear l0
              obtain ⟨s0, s1, s2, s3, s4, s5, s6, s7⟩ := S
              obtain ⟨S, hS⟩ : ∃ S : St, S = ⟨s0, s1, s2, s3, s4, s5, s6, s7⟩ := ⟨_, rfl⟩
              rw [← hS] at HL HF
              have HS := Lib.hid hS
              clear hS
              obtain ⟨B1, hB1⟩ : ∃ B, B = w.heap.size := ⟨_, rfl⟩
              obtain ⟨B3, hB3⟩ : ∃ B, B = wr.heap.size := ⟨_, rfl⟩
              rw [← hB3]
              have k0 : ((0 : Nat) : Int) = 0 := rfl
              have hB13 : B1 ≠ B3 := by have := HU0.out; have := HW.out.size; omega
              have hB3h : gh ≠ B3 := by have := HL.out.2.1; omega
              have HB := Lib.hid (show w.heap.size = B1 ∧ w.heap.size < B3 ∧ u.heap.size ≤ B3 from ⟨hB1.symm, by have := HU0.out; have := HW.out.size; omega, by have := HW.out.size; omega⟩)
              go_loopg [9] 32 (fun g i wr => ∃ k : Nat, k + g = 32 ∧ i = .int .i64 (k : Int) ∧ Hid (Row wr B3 24 (((List.range k).map (Sh.outAt S) ++ List.replicate (32 - k) 0).map bv) ∧ Row wr B1 24 (List.replicate 32 (bv 0)) ∧ LU wr u.heap.size gh (Sh.list S) ∧ Below w.heap.size w wr))
              case atStart =>
                subst hB1 hB3
                exact ⟨0, rfl, rfl, Lib.hid ⟨Row.new wr _ (List.replicate 32 (bv 0)), ((HU0.out.1.below HW.out HU0.out.2.1)).alloc _, HL.out.below ((Below.refl _ _).alloc (Nat.le_refl _) _), (HU0.out.2.2.trans (HW.out.mono HU0.out.2.2.size)).alloc (Nat.le_trans HU0.out.2.2.size HW.out.size) _⟩⟩
              case round =>
                clear hB1 hB3 HL HW k0
                obtain ⟨k, hk, rfl, HX⟩ := hrel
                by_cases hlt : k < 32
                · have cz := HX.out.1.cell k (.int .u8 (ib 0)) (by
                    rw [List.getElem?_map, List.getElem?_append_right (by simp), List.length_map, List.length_range, Nat.sub_self, List.getElem?_replicate, if_pos (by omega)]; rfl)
                  have fr := HX.out.1.frozen k
                  suffices H : ∀ v : Int, v = ib (Sh.outAt S k) → Row (wr.setCell ⟨B3, k, none⟩ (.int .u8 v)) B3 24 (((List.range (k + 1)).map (Sh.outAt S) ++ List.replicate (32 - (k + 1)) 0).map bv) ∧ Row (wr.setCell ⟨B3, k, none⟩ (.int .u8 v)) B1 24 (List.replicate 32 (bv 0)) ∧ LU (wr.setCell ⟨B3, k, none⟩ (.int .u8 v)) u.heap.size gh (Sh.list S) ∧ Below w.heap.size w (wr.setCell ⟨B3, k, none⟩ (.int .u8 v)) by
                    have H := Lib.hid H
                    have HC := Lib.hid (show ∀ j, j < 8 → wr.cell? ⟨gh, j, none⟩ = some (.int .u32 (iu ([s0, s1, s2, s3, s4, s5, s6, s7].getD j 0))) from fun j hj => by
                      have := (HX.out.2.2.1.2.2 j (by simpa [Sh.list] using hj)).1
                      rw [HS.out] at this
                      exact this)
                    clear HX
                    obtain rfl | rfl | rfl | rfl | rfl | rfl | rfl | rfl | rfl | rfl | rfl | rfl | rfl | rfl | rfl | rfl | rfl | rfl | rfl | rfl | rfl | rfl | rfl | rfl | rfl | rfl | rfl | rfl | rfl | rfl | rfl | rfl : k = 0 ∨ k = 1 ∨ k = 2 ∨ k = 3 ∨ k = 4 ∨ k = 5 ∨ k = 6 ∨ k = 7 ∨ k = 8 ∨ k = 9 ∨ k = 10 ∨ k = 11 ∨ k = 12 ∨ k = 13 ∨ k = 14 ∨ k = 15 ∨ k = 16 ∨ k = 17 ∨ k = 18 ∨ k = 19 ∨ k = 20 ∨ k = 21 ∨ k = 22 ∨ k = 23 ∨ k = 24 ∨ k = 25 ∨ k = 26 ∨ k = 27 ∨ k = 28 ∨ k = 29 ∨ k = 30 ∨ k = 31 := by omega
                    · have kc : ((0 : Nat) : Int) = 0 := rfl
                      have c : wr.cell? ⟨gh, 0, none⟩ = some (.int .u32 (iu s0)) := HC.out 0 (by decide)
                      have kv : IntKind.u8.wrap (iu s0 / (16777216 : Int)) = ib (Sh.outAt S 0) := by rw [HS.out]; exact byteN s0 24 (by decide)
                      go_wp2
                      go_roundg 31
                      case measure => omega
                      case rel => exact ⟨1, rfl, rfl, Lib.hid (H.out _ rfl)⟩
                    · have kc : ((1 : Nat) : Int) = 1 := rfl
                      have c : wr.cell? ⟨gh, 0, none⟩ = some (.int .u32 (iu s0)) := HC.out 0 (by decide)
                      have kv : IntKind.u8.wrap (iu s0 / (65536 : Int)) = ib (Sh.outAt S 1) := by rw [HS.out]; exact byteN s0 16 (by decide)
                      go_wp2
                      go_roundg 30
                      case measure => omega
                      case rel => exact ⟨2, rfl, rfl, Lib.hid (H.out _ rfl)⟩
                    · have kc : ((2 : Nat) : Int) = 2 := rfl
                      have c : wr.cell? ⟨gh, 0, none⟩ = some (.int .u32 (iu s0)) := HC.out 0 (by decide)
                      have kv : IntKind.u8.wrap (iu s0 / (256 : Int)) = ib (Sh.outAt S 2) := by rw [HS.out]; exact byteN s0 8 (by decide)
                      go_wp2
                      go_roundg 29
                      case measure => omega
                      case rel => exact ⟨3, rfl, rfl, Lib.hid (H.out _ rfl)⟩
                    · have kc : ((3 : Nat) : Int) = 3 := rfl
                      have c : wr.cell? ⟨gh, 0, none⟩ = some (.int .u32 (iu s0)) := HC.out 0 (by decide)
                      have kv : IntKind.u8.wrap (iu s0) = ib (Sh.outAt S 3) := by rw [HS.out]; exact byte0 s0
                      go_wp2
                      go_roundg 28
                      case measure => omega
                      case rel => exact ⟨4, rfl, rfl, Lib.hid (H.out _ rfl)⟩
                    · have kc : ((4 : Nat) : Int) = 4 := rfl
                      have c : wr.cell? ⟨gh, 1, none⟩ = some (.int .u32 (iu s1)) := HC.out 1 (by decide)
                      have kv : IntKind.u8.wrap (iu s1 / (16777216 : Int)) = ib (Sh.outAt S 4) := by rw [HS.out]; exact byteN s1 24 (by decide)
                      go_wp2
                      go_roundg 27
                      case measure => omega
                      case rel => exact ⟨5, rfl, rfl, Lib.hid (H.out _ rfl)⟩
                    · have kc : ((5 : Nat) : Int) = 5 := rfl
                      have c : wr.cell? ⟨gh, 1, none⟩ = some (.int .u32 (iu s1)) := HC.out 1 (by decide)
                      have kv : IntKind.u8.wrap (iu s1 / (65536 : Int)) = ib (Sh.outAt S 5) := by rw [HS.out]; exact byteN s1 16 (by decide)
                      go_wp2
                      go_roundg 26
                      case measure => omega
                      case rel => exact ⟨6, rfl, rfl, Lib.hid (H.out _ rfl)⟩
                    · have kc : ((6 : Nat) : Int) = 6 := rfl
                      have c : wr.cell? ⟨gh, 1, none⟩ = some (.int .u32 (iu s1)) := HC.out 1 (by decide)
                      have kv : IntKind.u8.wrap (iu s1 / (256 : Int)) = ib (Sh.outAt S 6) := by rw [HS.out]; exact byteN s1 8 (by decide)
                      go_wp2
                      go_roundg 25
                      case measure => omega
                      case rel => exact ⟨7, rfl, rfl, Lib.hid (H.out _ rfl)⟩
                    · have kc : ((7 : Nat) : Int) = 7 := rfl
                      have c : wr.cell? ⟨gh, 1, none⟩ = some (.int .u32 (iu s1)) := HC.out 1 (by decide)
                      have kv : IntKind.u8.wrap (iu s1) = ib (Sh.outAt S 7) := by rw [HS.out]; exact byte0 s1
                      go_wp2
                      go_roundg 24
                      case measure => omega
                      case rel => exact ⟨8, rfl, rfl, Lib.hid (H.out _ rfl)⟩
                    · have kc : ((8 : Nat) : Int) = 8 := rfl
                      have c : wr.cell? ⟨gh, 2, none⟩ = some (.int .u32 (iu s2)) := HC.out 2 (by decide)
                      have kv : IntKind.u8.wrap (iu s2 / (16777216 : Int)) = ib (Sh.outAt S 8) := by rw [HS.out]; exact byteN s2 24 (by decide)
                      go_wp2
                      go_roundg 23
                      case measure => omega
                      case rel => exact ⟨9, rfl, rfl, Lib.hid (H.out _ rfl)⟩
                    · have kc : ((9 : Nat) : Int) = 9 := rfl
                      have c : wr.cell? ⟨gh, 2, none⟩ = some (.int .u32 (iu s2)) := HC.out 2 (by decide)
                      have kv : IntKind.u8.wrap (iu s2 / (65536 : Int)) = ib (Sh.outAt S 9) := by rw [HS.out]; exact byteN s2 16 (by decide)
                      go_wp2
                      go_roundg 22
                      case measure => omega
                      case rel => exact ⟨10, rfl, rfl, Lib.hid (H.out _ rfl)⟩
                    · have kc : ((10 : Nat) : Int) = 10 := rfl
                      have c : wr.cell? ⟨gh, 2, none⟩ = some (.int .u32 (iu s2)) := HC.out 2 (by decide)
                      have kv : IntKind.u8.wrap (iu s2 / (256 : Int)) = ib (Sh.outAt S 10) := by rw [HS.out]; exact byteN s2 8 (by decide)
                      go_wp2
                      go_roundg 21
                      case measure => omega
                      case rel => exact ⟨11, rfl, rfl, Lib.hid (H.out _ rfl)⟩
                    · have kc : ((11 : Nat) : Int) = 11 := rfl
                      have c : wr.cell? ⟨gh, 2, none⟩ = some (.int .u32 (iu s2)) := HC.out 2 (by decide)
                      have kv : IntKind.u8.wrap (iu s2) = ib (Sh.outAt S 11) := by rw [HS.out]; exact byte0 s2
                      go_wp2
                      go_roundg 20
                      case measure => omega
                      case rel => exact ⟨12, rfl, rfl, Lib.hid (H.out _ rfl)⟩
                    · have kc : ((12 : Nat) : Int) = 12 := rfl
                      have c : wr.cell? ⟨gh, 3, none⟩ = some (.int .u32 (iu s3)) := HC.out 3 (by decide)
                      have kv : IntKind.u8.wrap (iu s3 / (16777216 : Int)) = ib (Sh.outAt S 12) := by rw [HS.out]; exact byteN s3 24 (by decide)
                      go_wp2
                      go_roundg 19
                      case measure => omega
                      case rel => exact ⟨13, rfl, rfl, Lib.hid (H.out _ rfl)⟩
                    · have kc : ((13 : Nat) : Int) = 13 := rfl
                      have c : wr.cell? ⟨gh, 3, none⟩ = some (.int .u32 (iu s3)) := HC.out 3 (by decide)
                      have kv : IntKind.u8.wrap (iu s3 / (65536 : Int)) = ib (Sh.outAt S 13) := by rw [HS.out]; exact byteN s3 16 (by decide)
                      go_wp2
                      go_roundg 18
                      case measure => omega
                      case rel => exact ⟨14, rfl, rfl, Lib.hid (H.out _ rfl)⟩
                    · have kc : ((14 : Nat) : Int) = 14 := rfl
                      have c : wr.cell? ⟨gh, 3, none⟩ = some (.int .u32 (iu s3)) := HC.out 3 (by decide)
                      have kv : IntKind.u8.wrap (iu s3 / (256 : Int)) = ib (Sh.outAt S 14) := by rw [HS.out]; exact byteN s3 8 (by decide)
                      go_wp2
                      go_roundg 17
                      case measure => omega
                      case rel => exact ⟨15, rfl, rfl, Lib.hid (H.out _ rfl)⟩
                    · have kc : ((15 : Nat) : Int) = 15 := rfl
                      have c : wr.cell? ⟨gh, 3, none⟩ = some (.int .u32 (iu s3)) := HC.out 3 (by decide)
                      have kv : IntKind.u8.wrap (iu s3) = ib (Sh.outAt S 15) := by rw [HS.out]; exact byte0 s3
                      go_wp2
                      go_roundg 16
                      case measure => omega
                      case rel => exact ⟨16, rfl, rfl, Lib.hid (H.out _ rfl)⟩
                    · have kc : ((16 : Nat) : Int) = 16 := rfl
                      have c : wr.cell? ⟨gh, 4, none⟩ = some (.int .u32 (iu s4)) := HC.out 4 (by decide)
                      have kv : IntKind.u8.wrap (iu s4 / (16777216 : Int)) = ib (Sh.outAt S 16) := by rw [HS.out]; exact byteN s4 24 (by decide)
                      go_wp2
                      go_roundg 15
                      case measure => omega
                      case rel => exact ⟨17, rfl, rfl, Lib.hid (H.out _ rfl)⟩
                    · have kc : ((17 : Nat) : Int) = 17 := rfl
                      have c : wr.cell? ⟨gh, 4, none⟩ = some (.int .u32 (iu s4)) := HC.out 4 (by decide)
                      have kv : IntKind.u8.wrap (iu s4 / (65536 : Int)) = ib (Sh.outAt S 17) := by rw [HS.out]; exact byteN s4 16 (by decide)
                      go_wp2
                      go_roundg 14
                      case measure => omega
                      case rel => exact ⟨18, rfl, rfl, Lib.hid (H.out _ rfl)⟩
                    · have kc : ((18 : Nat) : Int) = 18 := rfl
                      have c : wr.cell? ⟨gh, 4, none⟩ = some (.int .u32 (iu s4)) := HC.out 4 (by decide)
                      have kv : IntKind.u8.wrap (iu s4 / (256 : Int)) = ib (Sh.outAt S 18) := by rw [HS.out]; exact byteN s4 8 (by decide)
                      go_wp2
                      go_roundg 13
                      case measure => omega
                      case rel => exact ⟨19, rfl, rfl, Lib.hid (H.out _ rfl)⟩
                    · have kc : ((19 : Nat) : Int) = 19 := rfl
                      have c : wr.cell? ⟨gh, 4, none⟩ = some (.int .u32 (iu s4)) := HC.out 4 (by decide)
                      have kv : IntKind.u8.wrap (iu s4) = ib (Sh.outAt S 19) := by rw [HS.out]; exact byte0 s4
                      go_wp2
                      go_roundg 12
                      case measure => omega
                      case rel => exact ⟨20, rfl, rfl, Lib.hid (H.out _ rfl)⟩
                    · have kc : ((20 : Nat) : Int) = 20 := rfl
                      have c : wr.cell? ⟨gh, 5, none⟩ = some (.int .u32 (iu s5)) := HC.out 5 (by decide)
                      have kv : IntKind.u8.wrap (iu s5 / (16777216 : Int)) = ib (Sh.outAt S 20) := by rw [HS.out]; exact byteN s5 24 (by decide)
                      go_wp2
                      go_roundg 11
                      case measure => omega
                      case rel => exact ⟨21, rfl, rfl, Lib.hid (H.out _ rfl)⟩
                    · have kc : ((21 : Nat) : Int) = 21 := rfl
                      have c : wr.cell? ⟨gh, 5, none⟩ = some (.int .u32 (iu s5)) := HC.out 5 (by decide)
                      have kv : IntKind.u8.wrap (iu s5 / (65536 : Int)) = ib (Sh.outAt S 21) := by rw [HS.out]; exact byteN s5 16 (by decide)
                      go_wp2
                      go_roundg 10
                      case measure => omega
                      case rel => exact ⟨22, rfl, rfl, Lib.hid (H.out _ rfl)⟩
                    · have kc : ((22 : Nat) : Int) = 22 := rfl
                      have c : wr.cell? ⟨gh, 5, none⟩ = some (.int .u32 (iu s5)) := HC.out 5 (by decide)
                      have kv : IntKind.u8.wrap (iu s5 / (256 : Int)) = ib (Sh.outAt S 22) := by rw [HS.out]; exact byteN s5 8 (by decide)
                      go_wp2
                      go_roundg 9
                      case measure => omega
                      case rel => exact ⟨23, rfl, rfl, Lib.hid (H.out _ rfl)⟩
                    · have kc : ((23 : Nat) : Int) = 23 := rfl
                      have c : wr.cell? ⟨gh, 5, none⟩ = some (.int .u32 (iu s5)) := HC.out 5 (by decide)
                      have kv : IntKind.u8.wrap (iu s5) = ib (Sh.outAt S 23) := by rw [HS.out]; exact byte0 s5
                      go_wp2
                      go_roundg 8
                      case measure => omega
                      case rel => exact ⟨24, rfl, rfl, Lib.hid (H.out _ rfl)⟩
                    · have kc : ((24 : Nat) : Int) = 24 := rfl
                      have c : wr.cell? ⟨gh, 6, none⟩ = some (.int .u32 (iu s6)) := HC.out 6 (by decide)
                      have kv : IntKind.u8.wrap (iu s6 / (16777216 : Int)) = ib (Sh.outAt S 24) := by rw [HS.out]; exact byteN s6 24 (by decide)
                      go_wp2
                      go_roundg 7
                      case measure => omega
                      case rel => exact ⟨25, rfl, rfl, Lib.hid (H.out _ rfl)⟩
                    · have kc : ((25 : Nat) : Int) = 25 := rfl
                      have c : wr.cell? ⟨gh, 6, none⟩ = some (.int .u32 (iu s6)) := HC.out 6 (by decide)
                      have kv : IntKind.u8.wrap (iu s6 / (65536 : Int)) = ib (Sh.outAt S 25) := by rw [HS.out]; exact byteN s6 16 (by decide)
                      go_wp2
                      go_roundg 6
                      case measure => omega
                      case rel => exact ⟨26, rfl, rfl, Lib.hid (H.out _ rfl)⟩
                    · have kc : ((26 : Nat) : Int) = 26 := rfl
                      have c : wr.cell? ⟨gh, 6, none⟩ = some (.int .u32 (iu s6)) := HC.out 6 (by decide)
                      have kv : IntKind.u8.wrap (iu s6 / (256 : Int)) = ib (Sh.outAt S 26) := by rw [HS.out]; exact byteN s6 8 (by decide)
                      go_wp2
                      go_roundg 5
                      case measure => omega
                      case rel => exact ⟨27, rfl, rfl, Lib.hid (H.out _ rfl)⟩
                    · have kc : ((27 : Nat) : Int) = 27 := rfl
                      have c : wr.cell? ⟨gh, 6, none⟩ = some (.int .u32 (iu s6)) := HC.out 6 (by decide)
                      have kv : IntKind.u8.wrap (iu s6) = ib (Sh.outAt S 27) := by rw [HS.out]; exact byte0 s6
                      go_wp2
                      go_roundg 4
                      case measure => omega
                      case rel => exact ⟨28, rfl, rfl, Lib.hid (H.out _ rfl)⟩
                    · have kc : ((28 : Nat) : Int) = 28 := rfl
                      have c : wr.cell? ⟨gh, 7, none⟩ = some (.int .u32 (iu s7)) := HC.out 7 (by decide)
                      have kv : IntKind.u8.wrap (iu s7 / (16777216 : Int)) = ib (Sh.outAt S 28) := by rw [HS.out]; exact byteN s7 24 (by decide)
                      go_wp2
                      go_roundg 3
                      case measure => omega
                      case rel => exact ⟨29, rfl, rfl, Lib.hid (H.out _ rfl)⟩
                    · have kc : ((29 : Nat) : Int) = 29 := rfl
                      have c : wr.cell? ⟨gh, 7, none⟩ = some (.int .u32 (iu s7)) := HC.out 7 (by decide)
                      have kv : IntKind.u8.wrap (iu s7 / (65536 : Int)) = ib (Sh.outAt S 29) := by rw [HS.out]; exact byteN s7 16 (by decide)
                      go_wp2
                      go_roundg 2
                      case measure => omega
                      case rel => exact ⟨30, rfl, rfl, Lib.hid (H.out _ rfl)⟩
                    · have kc : ((30 : Nat) : Int) = 30 := rfl
                      have c : wr.cell? ⟨gh, 7, none⟩ = some (.int .u32 (iu s7)) := HC.out 7 (by decide)
                      have kv : IntKind.u8.wrap (iu s7 / (256 : Int)) = ib (Sh.outAt S 30) := by rw [HS.out]; exact byteN s7 8 (by decide)
                      go_wp2
                      go_roundg 1
                      case measure => omega
                      case rel => exact ⟨31, rfl, rfl, Lib.hid (H.out _ rfl)⟩
                    · have kc : ((31 : Nat) : Int) = 31 := rfl
                      have c : wr.cell? ⟨gh, 7, none⟩ = some (.int .u32 (iu s7)) := HC.out 7 (by decide)
                      have kv : IntKind.u8.wrap (iu s7) = ib (Sh.outAt S 31) := by rw [HS.out]; exact byte0 s7
                      go_wp2
                      go_roundg 0
                      case measure => omega
                      case rel => exact ⟨32, rfl, rfl, Lib.hid (H.out _ rfl)⟩
                  rintro v rfl
                  refine ⟨?_, HX.out.2.1.other hB13 _, ?_, HX.out.2.2.2.setCell (p := ⟨B3, k, none⟩) (show w.heap.size ≤ B3 by have := HB.out; omega) _⟩
                  · have e := HX.out.1.set k (.int .u8 (ib (Sh.outAt S k)))
                    rw [row_set, toldSet S k hlt] at e
                    exact e
                  · exact ⟨HX.out.2.2.1.1, by simpa using HX.out.2.2.1.2.1, fun i hi => ⟨(Row.heapcell hB3h _ (HX.out.2.2.1.2.2 i hi).1), frozen_other hB3h _ (HX.out.2.2.1.2.2 i hi).2⟩⟩
                · obtain rfl : k = 32 := by omega
                  have kc : ((32 : Nat) : Int) = 32 := rfl
                  have R3 := Lib.hid (show Row wr B3 24 ((Sh.outB S).map bv) by
                    have := HX.out.1
                    rw [show 32 - 32 = 0 from rfl, List.replicate_zero, List.append_nil] at this
                    exact this)
                  obtain ⟨M, hM⟩ : ∃ M, M = ((Sh.outB S).map bv).toArray := ⟨_, rfl⟩
                  have HM := Lib.hid hM
                  have hMs := Lib.hid (show M.size = 32 by rw [hM]; simp [Sh.length_outB])
                  have hMo := Lib.hid (show M.all (·.oneCell') = true by rw [hM]; exact one_bv _)
                  have m1 := Lib.hid (show wr.heap[B3]? = some (.cells M 24 (0, 0)) by rw [hM]; exact R3.out)
                  have m4 := Lib.hid (show wr.heap[B1]? = some (.cells (List.replicate 32 (bv 0)).toArray 24 (0, 0)) from HX.out.2.1)
                  have m5 := Lib.hid (show (wr.setRow B1 M).heap[B1]? = some (.cells M 24 (0, 0)) by rw [hM]; exact (show Row wr B1 24 (List.replicate 32 (bv 0)) from HX.out.2.1).setRow _)
                  have hw2 := Lib.hid (below_setRow HX.out.2.2.2 (show w.heap.size ≤ B1 by have := HB.out; omega) M)
                  have HBe := HB.out.1
                  rw [HBe]
                  clear hM HX HBe
                  go_wp2_with (first
                    | (refine wpList_load_row rfl 24 _ rfl B3 rfl 24 M (0, 0) _ m1.out Tryd.underlying24 rfl (by rw [hMs.out]; exact info_s) ?_)
                    | (refine wpList_store_row rfl 24 _ _ rfl B1 M rfl rfl 24 _ m4.out (by rw [hMs.out]; exact info_s) (by rw [hMs.out]; rfl) hMo.out ?_))
                  (try simp only [Exit.inBlock, Exit.then])
                  refine bodyPost_ret (results_cell_row rfl _ _ B1 24 M (0, 0) _ rfl m5.out Tryd.underlying24 rfl (by rw [hMs.out]; exact info_s)) rfl ?_
                  exact ⟨by rw [HM.out, HF.out], hw2.out⟩
end Go.Proofs.YtjlmhpokamdkhaaDoor
