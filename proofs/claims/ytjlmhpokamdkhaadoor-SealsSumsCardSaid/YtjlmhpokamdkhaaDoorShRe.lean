/- Sums: the document's sum of bytes with a key. -/
import Derived.Test.YtjlmhpokamdkhaaDoorShRd
namespace Go.Proofs.YtjlmhpokamdkhaaDoor
open Go Go.Proofs Go.RowKit Go.Shelf

attribute [local go_sem] Oper.semAt_some
set_option maxRecDepth 100000
/-- the key, up to 64 bytes, byte by byte against one -/
def keyB (k : List UInt8) (m : UInt8) (n : Nat) : List UInt8 := (List.range n).map fun i => (k.getD i 0) ^^^ m
theorem keyB_succ (k : List UInt8) (m : UInt8) (n : Nat) : keyB k m (n + 1) = keyB k m n ++ [k.getD n 0 ^^^ m] := by simp [keyB, List.range_succ]
theorem keyB_length (k : List UInt8) (m : UInt8) (n : Nat) : (keyB k m n).length = n := by simp [keyB]
theorem keyB_all (k : List UInt8) (m : UInt8) (h : k.length ≤ 64) : keyB k m 64 = Sh.masked (k ++ List.replicate (64 - k.length) 0) m := by
  unfold keyB Sh.masked
  apply List.ext_getElem?
  intro i
  by_cases hi : i < 64
  · rw [List.getElem?_map, List.getElem?_range hi, List.getElem?_map]
    simp only [Option.map_some, List.getD_eq_getElem?_getD]
    by_cases hk : i < k.length
    · rw [List.getElem?_append_left hk, List.getElem?_eq_getElem hk]; rfl
    · rw [List.getElem?_append_right (by omega), List.getElem?_eq_none (by omega), List.getElem?_replicate, if_pos (by omega)]; rfl
  · rw [List.getElem?_eq_none (by simp; omega), List.getElem?_eq_none (by simp; omega)]
theorem rkey_low (key b : List UInt8) (hk : key.length ≤ 64) : Sh.keyed key b = Sh.sha (keyB key 92 64 ++ Sh.sha (keyB key 54 64 ++ b)) := by
  rw [Sh.keyed_inner key b hk, keyB_all key 92 hk, keyB_all key 54 hk]
/-- where the row lies once one byte was put behind it -/
theorem app_where {w W V W' : World} {v : Value} {l : List UInt8} {g cap : Nat} (x : UInt8) (_hb : Below w.heap.size w W) (hO : OwnB' W w.heap.size v l) (hl : l.length ≤ 1000000) (hV : V.heap = (W.alloc (.cells #[.int .u8 (ib x)] 5)).heap) (ho : V.os = W.os) (ht : V.tape = W.tape) (hp : V.output = W.output)
    (hr : (Builtin.append_ #[22, 22] 22 #[v, .slice (some ⟨W.heap.size, 0, none⟩) 1 1]).run Tryd.prog V = .ok (.slice (some ⟨g, 0, none⟩) (l.length + 1) cap) W') : v.ownBlock = some g ∨ W.heap.size ≤ g := by
  obtain ⟨i0, hi0, hz0, hz1, hz2⟩ := info_parts info_u8'
  have hgV : W.grownBy V none := ⟨ho, ht, hp, by rw [hV]; simp, fun k hk _ => by rw [hV]; exact Below.heap_alloc W _ k hk⟩
  rcases hO.2 with ⟨e, h0⟩ | ⟨gv, capv, cur, e, hbg, hgc, hnc, hcm, hcs, hct⟩
  · subst e
    have hl0 : l = [] := List.eq_nil_of_length_eq_zero h0
    subst hl0
    obtain ⟨g2, c2, W2, hr2, hO2, _⟩ := app_b (w := W) (W := W) (V := V) x (Below.refl _ _) (OwnB'.nil W _) (by simp) hV ho ht hp
    rw [hr] at hr2
    injection hr2 with e1 _
    simp only [Value.slice.injEq, Option.some.injEq, Addr.mk.injEq] at e1
    obtain ⟨g3, c3, e3, h3, _⟩ := hO2.form (by simp)
    simp only [Value.slice.injEq, Option.some.injEq, Addr.mk.injEq] at e3
    right; omega
  · subst e
    have hOV : OwnB' V w.heap.size (.slice (some ⟨gv, 0, none⟩) l.length capv) l := hO.grown hgV (by right; simp [Value.ownBlock])
    have hgcV : V.heap[gv]? = some (.cells cur 5 (0, 0)) := (hgV.block gv (Array.getElem?_eq_some_iff.1 hgc).1 (by simp)).trans hgc
    have hnews : ∀ j u, ([x].map bv)[j]? = some u → V.cell? ((⟨W.heap.size, 0, none⟩ : Addr).add j) = some u := by
      intro j u hu
      have hr : Row V W.heap.size 5 ([x].map bv) := by
        unfold Row; rw [hV]; exact Row.new W 5 ([x].map bv)
      rw [Addr.add_lit]
      exact hr.cell' j u hu
    by_cases hroom : l.length + 1 ≤ capv
    · have hr2 := run_append_room (P := Tryd.prog) V 22 22 5 i0 Tryd.underlying22 hi0 gv l.length capv cur hgcV ⟨W.heap.size, 0, none⟩ 1 1 ([x].map bv) (by rw [hz1]; simp) hnews (one_bv' _) hroom (by rw [hz1]; simp; omega)
      rw [hr2] at hr
      injection hr with e1 _
      simp only [Value.slice.injEq, Option.some.injEq, Addr.mk.injEq] at e1
      left; simp [Value.ownBlock]; omega
    · have hr2 := run_append_grow (P := Tryd.prog) V 22 22 5 i0 (.int .u8 0) Tryd.underlying22 hi0 hz0 ⟨gv, 0, none⟩ l.length capv (l.map bv) (by rw [hz1]; simp) (World.ownsRow.cells hOV (g := gv) rfl) ⟨W.heap.size, 0, none⟩ 1 1 ([x].map bv) (by rw [hz1]; simp) hnews (by omega) (by omega) (by rw [hz2]; exact growslice_fits (by omega) (by omega))
      rw [hr2] at hr
      injection hr with e1 _
      simp only [Value.slice.injEq, Option.some.injEq, Addr.mk.injEq] at e1
      have := hgV.size
      right; omega
/-- a byte behind the one row, the other one stays -/
theorem app_two {u W V : World} {v v2 : Value} {l l2 : List UInt8} (x : UInt8) (hb : Below u.heap.size u W) (hO : OwnB' W u.heap.size v l) (hO2 : OwnB' W u.heap.size v2 l2) (hne : v2 = .slice none 0 0 ∨ v2.ownBlock ≠ v.ownBlock) (hl : l.length ≤ 1000000) (hV : V.heap = (W.alloc (.cells #[.int .u8 (ib x)] 5)).heap) (ho : V.os = W.os) (ht : V.tape = W.tape) (hp : V.output = W.output) :
    ∃ v' W', (Builtin.append_ #[22, 22] 22 #[v, .slice (some ⟨W.heap.size, 0, none⟩) 1 1]).run Tryd.prog V = .ok v' W' ∧ OwnB' W' u.heap.size v' (l ++ [x]) ∧ OwnB' W' u.heap.size v2 l2 ∧ (v2 = .slice none 0 0 ∨ v2.ownBlock ≠ v'.ownBlock) ∧ Below u.heap.size u W' ∧ Below W.heap.size W (W.alloc (.cells #[.int .u8 (ib x)] 5)) := by
  obtain ⟨g, c, W', hr, hO', hB', hgr, _⟩ := app_b (w := u) (W := W) (V := V) x hb hO hl hV ho ht hp
  refine ⟨_, W', hr, hO', hO2.grown hgr hne, ?_, hB', (Below.refl _ _).alloc (Nat.le_refl _) _⟩
  rcases hne with h | h
  · exact .inl h
  · right
    intro e
    rcases app_where x hb hO hl hV ho ht hp hr with hw | hw
    · exact h (by rw [e, hw]; rfl)
    · have := ((World.ownsRow.lt hO2) g (by rw [e]; rfl)).2
      omega
/-- a round: a byte behind each of the two -/
theorem app_round {u W : World} {vi vo : Value} {l1 l2 : List UInt8} (c : UInt8) (hb : Below u.heap.size u W) (hI : OwnB' W u.heap.size vi l1) (hO : OwnB' W u.heap.size vo l2) (hne : vo = .slice none 0 0 ∨ vo.ownBlock ≠ vi.ownBlock) (h1 : l1.length ≤ 1000000) (h2 : l2.length ≤ 1000000) :
    ∃ va Wa vb Wb, (Builtin.append_ #[22, 22] 22 #[vi, .slice (some ⟨W.heap.size, 0, none⟩) 1 1]).run Tryd.prog (W.alloc (.cells #[.int .u8 (ib (c ^^^ 54))] 5)) = .ok va Wa ∧ (Builtin.append_ #[22, 22] 22 #[vo, .slice (some ⟨Wa.heap.size, 0, none⟩) 1 1]).run Tryd.prog (Wa.alloc (.cells #[.int .u8 (ib (c ^^^ 92))] 5)) = .ok vb Wb ∧ OwnB' Wb u.heap.size va (l1 ++ [c ^^^ 54]) ∧ OwnB' Wb u.heap.size vb (l2 ++ [c ^^^ 92]) ∧ (vb = .slice none 0 0 ∨ vb.ownBlock ≠ va.ownBlock) ∧ Below u.heap.size u Wb := by
  have turn : ∀ {W : World} {p q : Value} {lp lq : List UInt8}, OwnB' W u.heap.size p lp → 0 < lp.length → (q = .slice none 0 0 ∨ q.ownBlock ≠ p.ownBlock) → p = .slice none 0 0 ∨ p.ownBlock ≠ q.ownBlock := by
    intro W p q lp lq hp h0 h
    right
    rcases h with h | h
    · obtain ⟨g, cc, e, _⟩ := hp.form h0
      rw [h, e]
      simp [Value.ownBlock]
    · exact fun e => h e.symm
  obtain ⟨va, Wa, ra, oa, oo, da, ba, _⟩ := app_two (V := W.alloc (.cells #[.int .u8 (ib (c ^^^ 54))] 5)) (c ^^^ 54) hb hI hO hne h1 rfl rfl rfl rfl
  obtain ⟨vb, Wb, rb, ob, oa', db, bb, _⟩ := app_two (V := Wa.alloc (.cells #[.int .u8 (ib (c ^^^ 92))] 5)) (c ^^^ 92) ba oo oa (turn (lq := l2) oa (by simp) da) h2 rfl rfl rfl rfl
  exact ⟨va, Wa, vb, Wb, ra, rb, oa', ob, turn (lq := l1) ob (by simp) db, bb⟩
set_option maxHeartbeats 8000000 in
theorem rkeyed_short (l m : List UInt8) (v v' : Value) (w : World) (hl : l.length ≤ 800000) (hm : m.length ≤ 800000) (h64 : l.length ≤ 64) (hR : RdB w v l) (hM : RdB w v' m) :
    Calls Tryd.prog 11 #[v, v'] w fun e w' => e = .returned (.agg ((Sh.sha (keyB l 92 64 ++ Sh.sha (keyB l 54 64 ++ m))).map bv).toArray) ∧ Below w.heap.size w w' := by
  obtain ⟨a, cap, rfl, hcap⟩ := hR.form
  obtain ⟨a', cap', rfl, hcap'⟩ := hM.form
  obtain ⟨n1, hn1⟩ : ∃ n, n = l.length := ⟨_, rfl⟩
  obtain ⟨n2, hn2⟩ : ∃ n, n = m.length := ⟨_, rfl⟩
  obtain ⟨u, hu⟩ : ∃ u, u = w.alloc (.cells #[.int .u8 0, .int .u8 0, .int .u8 0, .int .u8 0, .int .u8 0, .int .u8 0, .int .u8 0, .int .u8 0, .int .u8 0, .int .u8 0, .int .u8 0, .int .u8 0, .int .u8 0, .int .u8 0, .int .u8 0, .int .u8 0, .int .u8 0, .int .u8 0, .int .u8 0, .int .u8 0, .int .u8 0, .int .u8 0, .int .u8 0, .int .u8 0, .int .u8 0, .int .u8 0, .int .u8 0, .int .u8 0, .int .u8 0, .int .u8 0, .int .u8 0, .int .u8 0] 24) := ⟨_, rfl⟩
  have hus : u.heap.size = w.heap.size + 1 := by rw [hu]; simp
  have HU0 := Lib.hid (show Row u w.heap.size 24 (List.replicate 32 (bv 0)) ∧ w.heap.size < u.heap.size ∧ Below w.heap.size w u from ⟨by rw [hu]; exact Row.new w _ (List.replicate 32 (bv 0)), by omega, by rw [hu]; exact (Below.refl _ _).alloc (Nat.le_refl _) _⟩)
  have HR := Lib.hid (show RdB u (.slice a n1 cap) l by rw [hn1]; exact hR.below HU0.out.2.2)
  have HM := Lib.hid (show RdB u (.slice a' n2 cap') m by rw [hn2]; exact hM.below HU0.out.2.2)
  have HN := Lib.hid (show n1 = l.length ∧ n2 = m.length ∧ l.length ≤ 800000 ∧ m.length ≤ 800000 from ⟨hn1, hn2, hl, hm⟩)
  have KO := Lib.hid (fun (x : List UInt8) (hx : x.length ≤ 900000) (W : World) (vx : Value) (h : RdB W vx x) => rof_any x vx W hx h)
  have i1 : ¬ (64 : Int) < (n1 : Int) := by omega
  have k54 : ∀ x : UInt8, bits .xor .u8 (ib x) 54 = ib (x ^^^ 54) := fun x => ib_xor x 54
  have k92 : ∀ x : UInt8, bits .xor .u8 (ib x) 92 = ib (x ^^^ 92) := fun x => ib_xor x 92
  have k0 : ((0 : Nat) : Int) = 0 := rfl
  rw [← hn1, ← hn2]
  obtain ⟨u0, hu0⟩ : ∃ x : World, x = u := ⟨_, rfl⟩
  have HK := Lib.hid (show RdB u0 (.slice a n1 cap) l ∧ Below u.heap.size u u0 ∧ l.length = n1 ∧ n1 ≤ 64 from ⟨by rw [hu0]; exact HR.out, by rw [hu0]; exact Below.refl _ _, hn1.symm, by omega⟩)
  clear hR hM hcap hcap' hl hm hn1 hn2 h64 hus
  go_enter Tryd.func11, Tryd.ntmps11
  go_wp2
  rw [← hu, ← hu0]
  clear hu hu0 HR i1
  have HB0 := Lib.hid (show Row u0 w.heap.size 24 (List.replicate 32 (bv 0)) ∧ w.heap.size < u0.heap.size ∧ Below w.heap.size w u0 from ⟨HU0.out.1.below HK.out.2.1 HU0.out.2.1, Nat.lt_of_lt_of_le HU0.out.2.1 HK.out.2.1.size, HU0.out.2.2.trans (HK.out.2.1.mono HU0.out.2.2.size)⟩)
  have HM := Lib.hid (HM.out.below HK.out.2.1)
  clear HU0
  go_loopg [6, 7, 8] 64 (fun g vi vo x wr => ∃ (i : Nat), i + g = 64 ∧ x = .int .i64 (i : Int) ∧ Hid (OwnB' wr u0.heap.size vi (keyB l 54 i)) ∧ Hid (OwnB' wr u0.heap.size vo (keyB l 92 i)) ∧ Hid (vo = .slice none 0 0 ∨ vo.ownBlock ≠ vi.ownBlock) ∧ Hid (Below u0.heap.size u0 wr))
  case atStart => exact ⟨0, rfl, rfl, Lib.hid (OwnB'.nil _ _), Lib.hid (OwnB'.nil _ _), Lib.hid (.inl rfl), Lib.hid (Below.refl _ _)⟩
  case round =>
    clear k0
    obtain ⟨i, hi, rfl, HI, HO, HD, HW⟩ := hrel
    by_cases hlt : i < 64
    · have n0 : (0 : Int) ≤ (i : Int) := by omega
      have l0 : (i : Int) < 64 := by omega
      have w0 : IntKind.i64.wrap ((i : Int) + 1) = ((i + 1 : Nat) : Int) := i64n (i + 1) (by omega)
      obtain ⟨c, hc⟩ : ∃ c, c = (l).getD i 0 := ⟨_, rfl⟩
      have KR := Lib.hid (app_round c HW.out HI.out HO.out HD.out (by rw [keyB_length]; omega) (by rw [keyB_length]; omega))
      have hc1 : keyB l 54 (i + 1) = keyB l 54 i ++ [c ^^^ 54] := by rw [keyB_succ, hc]
      have hc2 : keyB l 92 (i + 1) = keyB l 92 i ++ [c ^^^ 92] := by rw [keyB_succ, hc]
      have HC := Lib.hid (And.intro hc1 hc2)
      have HCC := Lib.hid hc
      clear hc1 hc2 hc
      by_cases hk : i < n1
      · have l1 : (i : Int) < (n1 : Int) := by omega
        obtain ⟨va, Wa, vb, Wb, ra, rb, oa, ob, dd, bb⟩ := KR.out
        obtain ⟨a9, c9, e9, _, h9⟩ := (HK.out.1.below HW.out)
        obtain ⟨b, off, e8, _, hcell⟩ := h9 (by have := HK.out.2.2.1; omega)
        simp only [Value.slice.injEq] at e9
        have ea := e9.1.trans e8
        subst ea
        have cz : wr.cell? ⟨b, off + i, none⟩ = some (.int .u8 (ib c)) := by
          have := hcell i (by have := HK.out.2.2.1; omega)
          rw [HCC.out]
          exact this
        have ra := Lib.hid ra
        have rb := Lib.hid rb
        clear e8 e9 h9 hcell HCC KR hk
        go_wp2_with (first
          | (at_builtin; refine Lib.wpList_append_run _ rfl _ _ _ _ rfl _ _ rfl rfl _ _ rb.out ?_)
          | (at_builtin; refine Lib.wpList_append_run _ rfl _ _ _ _ rfl _ _ rfl rfl _ _ ra.out ?_))
        go_roundg (64 - (i + 1))
        case measure => omega
        case rel => exact ⟨i + 1, by omega, rfl, Lib.hid (by rw [HC.out.1]; exact oa), Lib.hid (by rw [HC.out.2]; exact ob), Lib.hid dd, Lib.hid bb⟩
      · have l1 : ¬ (i : Int) < (n1 : Int) := by omega
        have hc0 : c = 0 := by rw [HCC.out, List.getD_eq_getElem?_getD, List.getElem?_eq_none (by have := HK.out.2.2.1; omega)]; rfl
        subst hc0
        obtain ⟨va, Wa, vb, Wb, ra, rb, oa, ob, dd, bb⟩ := KR.out
        have z1 : bits .xor .u8 0 54 = ib ((0 : UInt8) ^^^ 54) := rfl
        have z2 : bits .xor .u8 0 92 = ib ((0 : UInt8) ^^^ 92) := rfl
        have ra := Lib.hid ra
        have rb := Lib.hid rb
        clear HCC KR hk
        go_wp2_with (first
          | (at_builtin; refine Lib.wpList_append_run _ rfl _ _ _ _ rfl _ _ rfl rfl _ _ rb.out ?_)
          | (at_builtin; refine Lib.wpList_append_run _ rfl _ _ _ _ rfl _ _ rfl rfl _ _ ra.out ?_))
        go_roundg (64 - (i + 1))
        case measure => omega
        case rel => exact ⟨i + 1, by omega, rfl, Lib.hid (by rw [HC.out.1]; exact oa), Lib.hid (by rw [HC.out.2]; exact ob), Lib.hid dd, Lib.hid bb⟩
    · obtain rfl : i = 64 := by omega
      have k64 : ((64 : Nat) : Int) = 64 := rfl
      obtain ⟨v3, W3, hap3, ho3, hg3⟩ := append_run HI.out (HM.out.below HW.out) HW.out.size (by rw [keyB_length]; have := HN.out; omega)
      have b3 := OwnB'.bel HW.out HI.out hg3
      have oo3 := HO.out.grown hg3 HD.out
      obtain ⟨S2, hS2⟩ : ∃ S, S = Sh.sha (keyB l 54 64 ++ m) := ⟨_, rfl⟩
      have hS2l : S2.length = 32 := by rw [hS2, Sh.length_sha]
      obtain ⟨S3, hS3⟩ : ∃ S, S = Sh.sha (keyB l 92 64 ++ S2) := ⟨_, rfl⟩
      have hS3l : S3.length = 32 := by rw [hS3, Sh.length_sha]
      obtain ⟨A2, hA2⟩ : ∃ X, X = (S2.map bv).toArray := ⟨_, rfl⟩
      obtain ⟨A3, hA3⟩ : ∃ X, X = (S3.map bv).toArray := ⟨_, rfl⟩
      have HA2 := Lib.hid (show A2 = (S2.map bv).toArray ∧ S2.length = 32 ∧ A2.size = 32 ∧ A2.all (·.oneCell') = true from ⟨hA2, hS2l, by rw [hA2]; simpa using hS2l, by rw [hA2]; exact one_bv _⟩)
      have HA3 := Lib.hid (show A3 = (S3.map bv).toArray ∧ S3.length = 32 ∧ A3.size = 32 ∧ A3.all (·.oneCell') = true from ⟨hA3, hS3l, by rw [hA3]; simpa using hS3l, by rw [hA3]; exact one_bv _⟩)
      have KO2 := Lib.hid (show Calls Tryd.prog 10 #[v3] W3 fun e w' => e = .returned (.agg A2) ∧ Below W3.heap.size W3 w' by rw [hA2, hS2]; exact KO.out _ (by rw [List.length_append, keyB_length]; have := HN.out; omega) W3 v3 (own_rdb ho3))
      have KO3 := Lib.hid (show ∀ W v, RdB W v (keyB l 92 64 ++ S2) → Calls Tryd.prog 10 #[v] W fun e w' => e = .returned (.agg A3) ∧ Below W.heap.size W w' by intro W v h; rw [hA3, hS3]; exact KO.out _ (by rw [List.length_append, keyB_length, hS2l]; decide) W v h)
      have HE := Lib.hid (show S3 = Sh.sha (keyB l 92 64 ++ Sh.sha (keyB l 54 64 ++ m)) by rw [hS3, hS2])
      have hap3 := Lib.hid hap3
      have b3 := Lib.hid b3
      have oo3 := Lib.hid oo3
      clear hS2 hS3 hA2 hA3 hS2l hS3l ho3 hg3 HI HO HD HW hlt hi
      go_wp2_with (first
        | (at_builtin; refine Lib.wpList_append_run _ rfl _ _ _ _ rfl _ _ rfl rfl _ _ hap3.out ?_)
        | (go_at_call 10; (with_reducible refine KO2.out.mono ?_); rintro e w4 ⟨rfl, hx⟩; have hb4 := Lib.hid hx; clear hx)
        | (refine wpList_store_row rfl 24 _ _ rfl w4.heap.size A2 rfl rfl 24 #[.int .u8 0, .int .u8 0, .int .u8 0, .int .u8 0, .int .u8 0, .int .u8 0, .int .u8 0, .int .u8 0, .int .u8 0, .int .u8 0, .int .u8 0, .int .u8 0, .int .u8 0, .int .u8 0, .int .u8 0, .int .u8 0, .int .u8 0, .int .u8 0, .int .u8 0, .int .u8 0, .int .u8 0, .int .u8 0, .int .u8 0, .int .u8 0, .int .u8 0, .int .u8 0, .int .u8 0, .int .u8 0, .int .u8 0, .int .u8 0, .int .u8 0, .int .u8 0] (heap_n0 w4 _ _) (by rw [HA2.out.2.2.1]; exact info_s) (by rw [HA2.out.2.2.1]; rfl) HA2.out.2.2.2 ?_; rw [World.setRow_alloc_new]; refine Hid.out ?_))
      refine Lib.hid ?_
      have hb5 := Lib.hid (show Below u0.heap.size u0 (w4.alloc (.cells A2 24)) from (b3.out.trans (hb4.out.mono b3.out.size)).alloc (Nat.le_trans b3.out.size hb4.out.size) _)
      have ho5 : OwnB' (w4.alloc (.cells A2 24)) u0.heap.size u7 (keyB l 92 64) := (oo3.out.below hb4.out).below ((Below.refl _ _).alloc (Nat.le_refl _) _)
      have hr5 : RdB (w4.alloc (.cells A2 24)) (.slice (some ⟨w4.heap.size, 0, none⟩) 32 32) S2 := by rw [HA2.out.1]; exact Row.rdb (Row.new w4 24 (S2.map bv)) HA2.out.2.1
      obtain ⟨v6, W6, hap6, ho6, hg6⟩ := append_run ho5 hr5 hb5.out.size (by rw [keyB_length]; have := HA2.out.2.1; omega)
      have b6 := Lib.hid (OwnB'.bel hb5.out ho5 hg6)
      have hap6 := Lib.hid hap6
      have hr6 := Lib.hid (own_rdb ho6)
      clear ho5 hr5 ho6 hg6 hb5 hb4 b3 oo3
      go_wp2_with (first
        | (at_builtin; refine Lib.wpList_append_run _ rfl _ _ _ _ rfl _ _ rfl rfl _ _ hap6.out ?_)
        | (go_at_call 10; (with_reducible refine (KO3.out _ _ hr6.out).mono ?_); rintro e w7 ⟨rfl, hx⟩; have hb7 := Lib.hid hx; clear hx; refine Hid.out ?_))
      refine Lib.hid ?_
      have b7 := Lib.hid (b6.out.trans (hb7.out.mono b6.out.size))
      obtain ⟨B1, hB1⟩ : ∃ B, B = w.heap.size := ⟨_, rfl⟩
      have R7 := Lib.hid (show Row w7 B1 24 (List.replicate 32 (bv 0)) by rw [hB1]; exact HB0.out.1.below b7.out HB0.out.2.1)
      have m4 := Lib.hid (show w7.heap[B1]? = some (.cells (List.replicate 32 (bv 0)).toArray 24 (0, 0)) from R7.out)
      have m5 := Lib.hid (show (w7.setRow B1 A3).heap[B1]? = some (.cells A3 24 (0, 0)) by rw [HA3.out.1]; exact R7.out.setRow _)
      have hw2 := Lib.hid (below_setRow (HB0.out.2.2.trans (b7.out.mono HB0.out.2.2.size)) (show w.heap.size ≤ B1 by omega) A3)
      rw [← hB1]
      clear hB1 R7
      go_wp2_with (refine wpList_store_row rfl 24 _ _ rfl B1 A3 rfl rfl 24 _ m4.out (by rw [HA3.out.2.2.1]; exact info_s) (by rw [HA3.out.2.2.1]; rfl) HA3.out.2.2.2 ?_)
      (try simp only [Exit.inBlock, Exit.then])
      refine bodyPost_ret (results_cell_row rfl _ _ B1 24 A3 (0, 0) _ rfl m5.out Tryd.underlying24 rfl (by rw [HA3.out.2.2.1]; exact info_s)) rfl ?_
      exact ⟨by rw [HA3.out.1, HE.out], hw2.out⟩
set_option maxHeartbeats 8000000 in
theorem rkeyed_long (l m : List UInt8) (v v' : Value) (w : World) (hl : l.length ≤ 800000) (hm : m.length ≤ 800000) (h64 : 64 < l.length) (hR : RdB w v l) (hM : RdB w v' m) :
    Calls Tryd.prog 11 #[v, v'] w fun e w' => e = .returned (.agg ((Sh.sha (keyB (Sh.sha l) 92 64 ++ Sh.sha (keyB (Sh.sha l) 54 64 ++ m))).map bv).toArray) ∧ Below w.heap.size w w' := by
  obtain ⟨a, cap, rfl, hcap⟩ := hR.form
  obtain ⟨a', cap', rfl, hcap'⟩ := hM.form
  obtain ⟨n1, hn1⟩ : ∃ n, n = l.length := ⟨_, rfl⟩
  obtain ⟨n2, hn2⟩ : ∃ n, n = m.length := ⟨_, rfl⟩
  obtain ⟨u, hu⟩ : ∃ u, u = w.alloc (.cells #[.int .u8 0, .int .u8 0, .int .u8 0, .int .u8 0, .int .u8 0, .int .u8 0, .int .u8 0, .int .u8 0, .int .u8 0, .int .u8 0, .int .u8 0, .int .u8 0, .int .u8 0, .int .u8 0, .int .u8 0, .int .u8 0, .int .u8 0, .int .u8 0, .int .u8 0, .int .u8 0, .int .u8 0, .int .u8 0, .int .u8 0, .int .u8 0, .int .u8 0, .int .u8 0, .int .u8 0, .int .u8 0, .int .u8 0, .int .u8 0, .int .u8 0, .int .u8 0] 24) := ⟨_, rfl⟩
  have hus : u.heap.size = w.heap.size + 1 := by rw [hu]; simp
  have HU0 := Lib.hid (show Row u w.heap.size 24 (List.replicate 32 (bv 0)) ∧ w.heap.size < u.heap.size ∧ Below w.heap.size w u from ⟨by rw [hu]; exact Row.new w _ (List.replicate 32 (bv 0)), by omega, by rw [hu]; exact (Below.refl _ _).alloc (Nat.le_refl _) _⟩)
  have HR := Lib.hid (show RdB u (.slice a n1 cap) l by rw [hn1]; exact hR.below HU0.out.2.2)
  have HM := Lib.hid (show RdB u (.slice a' n2 cap') m by rw [hn2]; exact hM.below HU0.out.2.2)
  have HN := Lib.hid (show n1 = l.length ∧ n2 = m.length ∧ l.length ≤ 800000 ∧ m.length ≤ 800000 from ⟨hn1, hn2, hl, hm⟩)
  have KO := Lib.hid (fun (x : List UInt8) (hx : x.length ≤ 900000) (W : World) (vx : Value) (h : RdB W vx x) => rof_any x vx W hx h)
  have i1 : (64 : Int) < (n1 : Int) := by omega
  have k54 : ∀ x : UInt8, bits .xor .u8 (ib x) 54 = ib (x ^^^ 54) := fun x => ib_xor x 54
  have k92 : ∀ x : UInt8, bits .xor .u8 (ib x) 92 = ib (x ^^^ 92) := fun x => ib_xor x 92
  have k0 : ((0 : Nat) : Int) = 0 := rfl
  rw [← hn1, ← hn2]
  obtain ⟨S1, hS1⟩ : ∃ S, S = Sh.sha l := ⟨_, rfl⟩
  have hS1l : S1.length = 32 := by rw [hS1, Sh.length_sha]
  obtain ⟨A1, hA1⟩ : ∃ X, X = (S1.map bv).toArray := ⟨_, rfl⟩
  have HA1 := Lib.hid (show A1 = (S1.map bv).toArray ∧ S1.length = 32 ∧ A1.size = 32 ∧ A1.all (·.oneCell') = true from ⟨hA1, hS1l, by rw [hA1]; simpa using hS1l, by rw [hA1]; exact one_bv _⟩)
  have KO1 := Lib.hid (show Calls Tryd.prog 10 #[.slice a n1 cap] u fun e w' => e = .returned (.agg A1) ∧ Below u.heap.size u w' by rw [hA1, hS1]; exact KO.out l (by omega) u _ HR.out)
  have HS1 := Lib.hid hS1
  rw [← hS1]
  rw [hu] at KO1
  clear hR hM hcap hcap' hl hm hn1 hn2 h64 hus hS1 hS1l hA1
  go_enter Tryd.func11, Tryd.ntmps11
  go_wp2_with (first
    | (go_at_call 10; (with_reducible refine KO1.out.mono ?_); rintro e w8 ⟨rfl, hx⟩; have hb8 := Lib.hid hx; clear hx)
    | (refine wpList_store_row rfl 24 _ _ rfl w8.heap.size A1 rfl rfl 24 #[.int .u8 0, .int .u8 0, .int .u8 0, .int .u8 0, .int .u8 0, .int .u8 0, .int .u8 0, .int .u8 0, .int .u8 0, .int .u8 0, .int .u8 0, .int .u8 0, .int .u8 0, .int .u8 0, .int .u8 0, .int .u8 0, .int .u8 0, .int .u8 0, .int .u8 0, .int .u8 0, .int .u8 0, .int .u8 0, .int .u8 0, .int .u8 0, .int .u8 0, .int .u8 0, .int .u8 0, .int .u8 0, .int .u8 0, .int .u8 0, .int .u8 0, .int .u8 0] (heap_n0 w8 _ _) (by rw [HA1.out.2.2.1]; exact info_s) (by rw [HA1.out.2.2.1]; rfl) HA1.out.2.2.2 ?_; rw [World.setRow_alloc_new]))
  rw [← hu] at hb8
  obtain ⟨u0, hu0⟩ : ∃ x : World, x = w8.alloc (.cells A1 24) := ⟨_, rfl⟩
  obtain ⟨g8, hg8⟩ : ∃ x : Nat, x = w8.heap.size := ⟨_, rfl⟩
  rw [← hu0, ← hg8]
  have HK := Lib.hid (show RdB u0 (.slice (some ⟨g8, 0, none⟩) 32 32) S1 ∧ Below u.heap.size u u0 ∧ S1.length = 32 ∧ 32 ≤ 64 from ⟨by rw [hu0, hg8, HA1.out.1]; exact Row.rdb (Row.new w8 24 (S1.map bv)) HA1.out.2.1, by rw [hu0]; exact hb8.out.alloc hb8.out.size _, HA1.out.2.1, by decide⟩)
  clear hu hu0 hg8 HR i1 HA1 KO1 hb8
  have HB0 := Lib.hid (show Row u0 w.heap.size 24 (List.replicate 32 (bv 0)) ∧ w.heap.size < u0.heap.size ∧ Below w.heap.size w u0 from ⟨HU0.out.1.below HK.out.2.1 HU0.out.2.1, Nat.lt_of_lt_of_le HU0.out.2.1 HK.out.2.1.size, HU0.out.2.2.trans (HK.out.2.1.mono HU0.out.2.2.size)⟩)
  have HM := Lib.hid (HM.out.below HK.out.2.1)
  clear HU0
  go_loopg [6, 7, 8] 64 (fun g vi vo x wr => ∃ (i : Nat), i + g = 64 ∧ x = .int .i64 (i : Int) ∧ Hid (OwnB' wr u0.heap.size vi (keyB S1 54 i)) ∧ Hid (OwnB' wr u0.heap.size vo (keyB S1 92 i)) ∧ Hid (vo = .slice none 0 0 ∨ vo.ownBlock ≠ vi.ownBlock) ∧ Hid (Below u0.heap.size u0 wr))
  case atStart => exact ⟨0, rfl, rfl, Lib.hid (OwnB'.nil _ _), Lib.hid (OwnB'.nil _ _), Lib.hid (.inl rfl), Lib.hid (Below.refl _ _)⟩
  case round =>
    clear k0
    obtain ⟨i, hi, rfl, HI, HO, HD, HW⟩ := hrel
    by_cases hlt : i < 64
    · have n0 : (0 : Int) ≤ (i : Int) := by omega
      have l0 : (i : Int) < 64 := by omega
      have w0 : IntKind.i64.wrap ((i : Int) + 1) = ((i + 1 : Nat) : Int) := i64n (i + 1) (by omega)
      obtain ⟨c, hc⟩ : ∃ c, c = (S1).getD i 0 := ⟨_, rfl⟩
      have KR := Lib.hid (app_round c HW.out HI.out HO.out HD.out (by rw [keyB_length]; omega) (by rw [keyB_length]; omega))
      have hc1 : keyB S1 54 (i + 1) = keyB S1 54 i ++ [c ^^^ 54] := by rw [keyB_succ, hc]
      have hc2 : keyB S1 92 (i + 1) = keyB S1 92 i ++ [c ^^^ 92] := by rw [keyB_succ, hc]
      have HC := Lib.hid (And.intro hc1 hc2)
      have HCC := Lib.hid hc
      clear hc1 hc2 hc
      by_cases hk : i < 32
      · have l1 : (i : Int) < (32 : Int) := by omega
        obtain ⟨va, Wa, vb, Wb, ra, rb, oa, ob, dd, bb⟩ := KR.out
        obtain ⟨a9, c9, e9, _, h9⟩ := (HK.out.1.below HW.out)
        obtain ⟨b, off, e8, _, hcell⟩ := h9 (by have := HK.out.2.2.1; omega)
        simp only [Value.slice.injEq] at e9
        have ea := e9.1.trans e8
        simp only [Option.some.injEq, Addr.mk.injEq, and_true] at ea
        obtain ⟨rfl, rfl⟩ := ea
        have cz : wr.cell? ⟨g8, i, none⟩ = some (.int .u8 (ib c)) := by
          have := hcell i (by have := HK.out.2.2.1; omega)
          rw [HCC.out]
          rw [Nat.zero_add] at this; exact this
        have ra := Lib.hid ra
        have rb := Lib.hid rb
        clear e8 e9 h9 hcell HCC KR hk
        go_wp2_with (first
          | (at_builtin; refine Lib.wpList_append_run _ rfl _ _ _ _ rfl _ _ rfl rfl _ _ rb.out ?_)
          | (at_builtin; refine Lib.wpList_append_run _ rfl _ _ _ _ rfl _ _ rfl rfl _ _ ra.out ?_))
        go_roundg (64 - (i + 1))
        case measure => omega
        case rel => exact ⟨i + 1, by omega, rfl, Lib.hid (by rw [HC.out.1]; exact oa), Lib.hid (by rw [HC.out.2]; exact ob), Lib.hid dd, Lib.hid bb⟩
      · have l1 : ¬ (i : Int) < (32 : Int) := by omega
        have hc0 : c = 0 := by rw [HCC.out, List.getD_eq_getElem?_getD, List.getElem?_eq_none (by have := HK.out.2.2.1; omega)]; rfl
        subst hc0
        obtain ⟨va, Wa, vb, Wb, ra, rb, oa, ob, dd, bb⟩ := KR.out
        have z1 : bits .xor .u8 0 54 = ib ((0 : UInt8) ^^^ 54) := rfl
        have z2 : bits .xor .u8 0 92 = ib ((0 : UInt8) ^^^ 92) := rfl
        have ra := Lib.hid ra
        have rb := Lib.hid rb
        clear HCC KR hk
        go_wp2_with (first
          | (at_builtin; refine Lib.wpList_append_run _ rfl _ _ _ _ rfl _ _ rfl rfl _ _ rb.out ?_)
          | (at_builtin; refine Lib.wpList_append_run _ rfl _ _ _ _ rfl _ _ rfl rfl _ _ ra.out ?_))
        go_roundg (64 - (i + 1))
        case measure => omega
        case rel => exact ⟨i + 1, by omega, rfl, Lib.hid (by rw [HC.out.1]; exact oa), Lib.hid (by rw [HC.out.2]; exact ob), Lib.hid dd, Lib.hid bb⟩
    · obtain rfl : i = 64 := by omega
      have k64 : ((64 : Nat) : Int) = 64 := rfl
      obtain ⟨v3, W3, hap3, ho3, hg3⟩ := append_run HI.out (HM.out.below HW.out) HW.out.size (by rw [keyB_length]; have := HN.out; omega)
      have b3 := OwnB'.bel HW.out HI.out hg3
      have oo3 := HO.out.grown hg3 HD.out
      obtain ⟨S2, hS2⟩ : ∃ S, S = Sh.sha (keyB S1 54 64 ++ m) := ⟨_, rfl⟩
      have hS2l : S2.length = 32 := by rw [hS2, Sh.length_sha]
      obtain ⟨S3, hS3⟩ : ∃ S, S = Sh.sha (keyB S1 92 64 ++ S2) := ⟨_, rfl⟩
      have hS3l : S3.length = 32 := by rw [hS3, Sh.length_sha]
      obtain ⟨A2, hA2⟩ : ∃ X, X = (S2.map bv).toArray := ⟨_, rfl⟩
      obtain ⟨A3, hA3⟩ : ∃ X, X = (S3.map bv).toArray := ⟨_, rfl⟩
      have HA2 := Lib.hid (show A2 = (S2.map bv).toArray ∧ S2.length = 32 ∧ A2.size = 32 ∧ A2.all (·.oneCell') = true from ⟨hA2, hS2l, by rw [hA2]; simpa using hS2l, by rw [hA2]; exact one_bv _⟩)
      have HA3 := Lib.hid (show A3 = (S3.map bv).toArray ∧ S3.length = 32 ∧ A3.size = 32 ∧ A3.all (·.oneCell') = true from ⟨hA3, hS3l, by rw [hA3]; simpa using hS3l, by rw [hA3]; exact one_bv _⟩)
      have KO2 := Lib.hid (show Calls Tryd.prog 10 #[v3] W3 fun e w' => e = .returned (.agg A2) ∧ Below W3.heap.size W3 w' by rw [hA2, hS2]; exact KO.out _ (by rw [List.length_append, keyB_length]; have := HN.out; omega) W3 v3 (own_rdb ho3))
      have KO3 := Lib.hid (show ∀ W v, RdB W v (keyB S1 92 64 ++ S2) → Calls Tryd.prog 10 #[v] W fun e w' => e = .returned (.agg A3) ∧ Below W.heap.size W w' by intro W v h; rw [hA3, hS3]; exact KO.out _ (by rw [List.length_append, keyB_length, hS2l]; decide) W v h)
      have HE := Lib.hid (show S3 = Sh.sha (keyB S1 92 64 ++ Sh.sha (keyB S1 54 64 ++ m)) by rw [hS3, hS2])
      have hap3 := Lib.hid hap3
      have b3 := Lib.hid b3
      have oo3 := Lib.hid oo3
      clear hS2 hS3 hA2 hA3 hS2l hS3l ho3 hg3 HI HO HD HW hlt hi
      go_wp2_with (first
        | (at_builtin; refine Lib.wpList_append_run _ rfl _ _ _ _ rfl _ _ rfl rfl _ _ hap3.out ?_)
        | (go_at_call 10; (with_reducible refine KO2.out.mono ?_); rintro e w4 ⟨rfl, hx⟩; have hb4 := Lib.hid hx; clear hx)
        | (refine wpList_store_row rfl 24 _ _ rfl w4.heap.size A2 rfl rfl 24 #[.int .u8 0, .int .u8 0, .int .u8 0, .int .u8 0, .int .u8 0, .int .u8 0, .int .u8 0, .int .u8 0, .int .u8 0, .int .u8 0, .int .u8 0, .int .u8 0, .int .u8 0, .int .u8 0, .int .u8 0, .int .u8 0, .int .u8 0, .int .u8 0, .int .u8 0, .int .u8 0, .int .u8 0, .int .u8 0, .int .u8 0, .int .u8 0, .int .u8 0, .int .u8 0, .int .u8 0, .int .u8 0, .int .u8 0, .int .u8 0, .int .u8 0, .int .u8 0] (heap_n0 w4 _ _) (by rw [HA2.out.2.2.1]; exact info_s) (by rw [HA2.out.2.2.1]; rfl) HA2.out.2.2.2 ?_; rw [World.setRow_alloc_new]; refine Hid.out ?_))
      refine Lib.hid ?_
      have hb5 := Lib.hid (show Below u0.heap.size u0 (w4.alloc (.cells A2 24)) from (b3.out.trans (hb4.out.mono b3.out.size)).alloc (Nat.le_trans b3.out.size hb4.out.size) _)
      have ho5 : OwnB' (w4.alloc (.cells A2 24)) u0.heap.size u7 (keyB S1 92 64) := (oo3.out.below hb4.out).below ((Below.refl _ _).alloc (Nat.le_refl _) _)
      have hr5 : RdB (w4.alloc (.cells A2 24)) (.slice (some ⟨w4.heap.size, 0, none⟩) 32 32) S2 := by rw [HA2.out.1]; exact Row.rdb (Row.new w4 24 (S2.map bv)) HA2.out.2.1
      obtain ⟨v6, W6, hap6, ho6, hg6⟩ := append_run ho5 hr5 hb5.out.size (by rw [keyB_length]; have := HA2.out.2.1; omega)
      have b6 := Lib.hid (OwnB'.bel hb5.out ho5 hg6)
      have hap6 := Lib.hid hap6
      have hr6 := Lib.hid (own_rdb ho6)
      clear ho5 hr5 ho6 hg6 hb5 hb4 b3 oo3
      go_wp2_with (first
        | (at_builtin; refine Lib.wpList_append_run _ rfl _ _ _ _ rfl _ _ rfl rfl _ _ hap6.out ?_)
        | (go_at_call 10; (with_reducible refine (KO3.out _ _ hr6.out).mono ?_); rintro e w7 ⟨rfl, hx⟩; have hb7 := Lib.hid hx; clear hx; refine Hid.out ?_))
      refine Lib.hid ?_
      have b7 := Lib.hid (b6.out.trans (hb7.out.mono b6.out.size))
      obtain ⟨B1, hB1⟩ : ∃ B, B = w.heap.size := ⟨_, rfl⟩
      have R7 := Lib.hid (show Row w7 B1 24 (List.replicate 32 (bv 0)) by rw [hB1]; exact HB0.out.1.below b7.out HB0.out.2.1)
      have m4 := Lib.hid (show w7.heap[B1]? = some (.cells (List.replicate 32 (bv 0)).toArray 24 (0, 0)) from R7.out)
      have m5 := Lib.hid (show (w7.setRow B1 A3).heap[B1]? = some (.cells A3 24 (0, 0)) by rw [HA3.out.1]; exact R7.out.setRow _)
      have hw2 := Lib.hid (below_setRow (HB0.out.2.2.trans (b7.out.mono HB0.out.2.2.size)) (show w.heap.size ≤ B1 by omega) A3)
      rw [← hB1]
      clear hB1 R7
      go_wp2_with (refine wpList_store_row rfl 24 _ _ rfl B1 A3 rfl rfl 24 _ m4.out (by rw [HA3.out.2.2.1]; exact info_s) (by rw [HA3.out.2.2.1]; rfl) HA3.out.2.2.2 ?_)
      (try simp only [Exit.inBlock, Exit.then])
      refine bodyPost_ret (results_cell_row rfl _ _ B1 24 A3 (0, 0) _ rfl m5.out Tryd.underlying24 rfl (by rw [HA3.out.2.2.1]; exact info_s)) rfl ?_
      exact ⟨by rw [HA3.out.1, HE.out], hw2.out⟩
theorem rkeyed_any (l m : List UInt8) (v v' : Value) (w : World) (hl : l.length ≤ 800000) (hm : m.length ≤ 800000) (hR : RdB w v l) (hM : RdB w v' m) :
    Calls Tryd.prog 11 #[v, v'] w fun e w' => e = .returned (.agg ((Sh.keyed l m).map bv).toArray) ∧ Below w.heap.size w w' := by
  by_cases h : 64 < l.length
  · have := rkeyed_long l m v v' w hl hm h hR hM
    rw [← rkey_low _ _ (by rw [Sh.length_sha]; decide), Sh.keyed_sum _ _ h] at this
    exact this
  · have := rkeyed_short l m v v' w hl hm (by omega) hR hM
    rw [← rkey_low _ _ (by omega)] at this
    exact this
end Go.Proofs.YtjlmhpokamdkhaaDoor
