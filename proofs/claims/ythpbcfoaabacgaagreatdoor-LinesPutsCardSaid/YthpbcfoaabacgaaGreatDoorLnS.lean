/- Lines: the document's Put, of any bytes. -/
import Derived.Test.YthpbcfoaabacgaaGreatDoorLnR
namespace Go.Proofs.YthpbcfoaabacgaaGreatDoor
open Go Go.Proofs Go.RowKit Go.Shelf

attribute [local go_sem] Oper.semAt_some
set_option maxRecDepth 100000
theorem info_u8B : (Tryz.prog.info? 5).map (fun i => (i.zero, i.size, i.bytes)) = some (some (.int .u8 0), 1, 1) := by kernel_rfl
theorem info_boolB : (Tryz.prog.info? 4).map (fun i => (i.zero, i.size, i.bytes)) = some (some (.bool false), 1, 1) := by kernel_rfl
/-- bytes as a text -/
theorem conv_of {W : World} {v : Value} {l : List UInt8} (h : RdC W v l.length (bcells l)) : (convert 42 9 v).run Tryz.prog W = .ok (.string ⟨l.toArray⟩) W := by
  obtain ⟨a, c, rfl, hc, h⟩ := h
  cases l with
  | nil =>
    cases a with
    | none => exact run_convert_bytes_nil W 42 5 (by kernel_rfl) (by kernel_rfl) 0 c 9 (by kernel_rfl)
    | some a => exact run_convert_bytes_back (P := Tryz.prog) W 42 9 5 a c [] (by kernel_rfl) (by kernel_rfl) (by kernel_rfl) (fun j hj => absurd hj (Nat.not_lt_zero j))
  | cons x t =>
    obtain ⟨b, off, rfl, hb, hc⟩ := h (by simp)
    refine run_convert_bytes_back (P := Tryz.prog) W 42 9 5 ⟨b, off, none⟩ c (x :: t) (by kernel_rfl) (by kernel_rfl) (by kernel_rfl) fun j hj => ?_
    rw [Go.WideShapes.add_plain]
    exact hc j (bcell (x :: t)[j]) (bcells_get (List.getElem?_eq_getElem hj))
theorem form_row {W : World} {base e size n : Nat} {v : Value} {xs : List Value} (h : W.ownsRow base e size v n xs) : ∃ a c, v = .slice a n c := by
  obtain ⟨a, c, e, _, _⟩ := own_rdc h
  exact ⟨a, c, e⟩
/-- without its last byte -/
theorem rdc_cut {W : World} {a : Option Addr} {c : Nat} {l : List UInt8} (h : RdC W (.slice a l.length c) l.length (bcells l)) (m : Nat) (hm : m ≤ l.length) : RdC W (.slice a m c) (l.take m).length (bcells (l.take m)) := by
  obtain ⟨a', c', e, hc, h⟩ := h
  cases e
  have hl : (l.take m).length = m := by rw [List.length_take]; omega
  refine ⟨a, c, by rw [hl], by rw [hl]; omega, fun h0 => ?_⟩
  rw [hl] at h0
  obtain ⟨b, off, rfl, hb, hg⟩ := h (by omega)
  refine ⟨b, off, rfl, hb, fun o u ho => hg o u ?_⟩
  unfold bcells at *
  rw [List.getElem?_map, List.getElem?_take] at ho
  rw [List.getElem?_map]
  by_cases h1 : o < m
  · rwa [if_pos h1] at ho
  · rw [if_neg h1] at ho; cases ho
theorem wrap_small {z : Int} (h1 : 0 ≤ z) (h2 : z < 9223372036854775808) : IntKind.i64.wrap z = z := IntWalk.i64_in z (by omega)
namespace Ln
theorem cut_not {l : List UInt8} (h : l.getLast? ≠ some 13) : cut l = l := by unfold cut; rw [if_neg h]
end Ln

/-- what the document's Put has told so far -/
def Told (cur0 l : List UInt8) (i : Nat) (cur : List UInt8) (D : List (List UInt8 × Bool)) : Prop :=
  D.length ≤ i ∧ cur.length ≤ cur0.length + i ∧ Ln.lgo cur0 l = (D ++ (Ln.lgo cur (l.drop i)).1, (Ln.lgo cur (l.drop i)).2)
theorem Told.start (cur0 l : List UInt8) : Told cur0 l 0 cur0 [] := ⟨Nat.le_refl _, Nat.le_refl _, by simp⟩
theorem Told.byte {cur0 l cur : List UInt8} {i : Nat} {c : UInt8} {D : List (List UInt8 × Bool)} (h : Told cur0 l i cur D) (hc : l[i]? = some c) (h10 : (c == 10) = false) : Told cur0 l (i + 1) (cur ++ [c]) D := by
  obtain ⟨h1, h2, h3⟩ := h
  refine ⟨by omega, by rw [List.length_append, List.length_singleton]; omega, ?_⟩
  rw [h3, Ln.lgo_next hc h10]
theorem Told.line {cur0 l cur : List UInt8} {i : Nat} {c : UInt8} {D : List (List UInt8 × Bool)} (h : Told cur0 l i cur D) (hc : l[i]? = some c) (h10 : (c == 10) = true) : Told cur0 l (i + 1) [] (D ++ [Ln.line cur]) := by
  obtain ⟨h1, h2, h3⟩ := h
  refine ⟨by rw [List.length_append, List.length_singleton]; omega, by simp, ?_⟩
  rw [h3, Ln.lgo_line hc h10]
  simp
theorem Told.done {cur0 l cur : List UInt8} {i : Nat} {D : List (List UInt8 × Bool)} (h : Told cur0 l i cur D) (hi : i = l.length) : Ln.lgo cur0 l = (D, cur) := by
  obtain ⟨h1, h2, h3⟩ := h
  rw [h3, hi, List.drop_length]
  simp [Ln.lgo]
set_option maxHeartbeats 8000000 in
theorem rput_any {w : World} {P base : Nat} {rb0 v : Value} {cur0 l : List UInt8} (h : DR w P base rb0 cur0) (hp : base ≤ P)
    (hv : ∀ W, Kp w W (fun b => b = P ∨ rb0.ownBlock = some b) → RdC W v l.length (bcells l)) (hl : l.length ≤ 1000000) (hc : cur0.length ≤ 1000000) :
    Calls Tryz.prog 9 #[.pointer (some ⟨P, 0, none⟩), v] w fun e w' => ∃ vl vb rb, e = .returned (.tuple #[vl, vb, .int .i64 0]) ∧ PS w P base rb0 w' rb (Ln.lgo cur0 l).2 vl ((Ln.lgo cur0 l).1.map (·.1)) vb ((Ln.lgo cur0 l).1.map (·.2)) := by
  obtain ⟨a, ca, rfl⟩ : ∃ a c, v = .slice a l.length c := by obtain ⟨a, c, e, _⟩ := hv w Kp.refl; exact ⟨a, c, e⟩
  obtain ⟨i1, hi1, hz1, hy1, hx1⟩ := q_info info_str
  obtain ⟨i2, hi2, hz2, hy2, hx2⟩ := q_info info_u8B
  obtain ⟨i3, hi3, hz3, hy3, hx3⟩ := q_info info_boolB
  obtain ⟨n, hn⟩ : ∃ n, n = l.length := ⟨_, rfl⟩
  rw [← hn] at hl
  have HN := Lib.hid (show n = l.length ∧ n ≤ 1000000 ∧ cur0.length ≤ 1000000 from ⟨hn, hl, hc⟩)
  rw [← hn] at hv ⊢
  have H0 := Lib.hid (PS.start h hp)
  have HV := Lib.hid hv
  have HI1 := Lib.hid hi1; have HZ1 := Lib.hid hz1; have HY1 := Lib.hid hy1; have HX1 := Lib.hid hx1
  have HI2 := Lib.hid hi2; have HZ2 := Lib.hid hz2; have HY2 := Lib.hid hy2; have HX2 := Lib.hid hx2
  have HI3 := Lib.hid hi3; have HZ3 := Lib.hid hz3; have HY3 := Lib.hid hy3; have HX3 := Lib.hid hx3
  clear h hp hv hl hc hn hi1 hz1 hy1 hx1 hi2 hz2 hy2 hx2 hi3 hz3 hy3 hx3
  have k0 : ((0 : Nat) : Int) = 0 := rfl
  go_enter Tryz.func9, Tryz.ntmps9
  go_wp2
  go_loopg [7, 8, 9] n (fun g vl vb z wr => ∃ (i : Nat) (cur : List UInt8) (rb : Value) (D : List (List UInt8 × Bool)), i + g = n ∧ z = .int .i64 (i : Int) ∧ Hid (PS w P base rb0 wr rb cur vl (D.map (·.1)) vb (D.map (·.2))) ∧ Hid (Told cur0 l i cur D))
  case atStart => exact ⟨0, cur0, rb0, [], by omega, rfl, H0, Lib.hid (Told.start _ _)⟩
  case round =>
    clear k0 H0
    obtain ⟨i, cur, rb, D, hig, rfl, HS, HT⟩ := hrel
    by_cases hlt : i < n
    · have w0 : IntKind.i64.wrap ((i : Int) + 1) = ((i + 1 : Nat) : Int) := IntWalk.i64_in _ (by have := HN.out; omega)
      have l0 : (i : Int) < (n : Int) := by omega
      have n0 : (0 : Int) ≤ (i : Int) := by omega
      obtain ⟨c, hc⟩ : ∃ c, l[i]? = some c := ⟨_, List.getElem?_eq_getElem (by have := HN.out; omega)⟩
      obtain ⟨a', c', e, hac, hca⟩ := HV.out wr HS.out.kp
      cases e
      obtain ⟨b, off, rfl, hb, hcell⟩ := hca (by omega)
      have x0 := hcell i _ (bcells_get hc)
      have HC := Lib.hid hc
      obtain ⟨X, hX⟩ : ∃ X : Int, X = (c.toNat : Int) := ⟨_, rfl⟩
      unfold bcell at x0
      rw [← hX] at x0
      have HX := Lib.hid hX
      clear hca hcell hc hX
      obtain ⟨ra, rc, rfl⟩ := form_row HS.out.rd.row
      have c0 := HS.out.c0
      have cf := HS.out.fr
      have hPw : P < wr.heap.size := by have h2 := HS.out.pw; have h3 := HS.out.size; omega
      have hbd := Lib.hid (show D.length ≤ i ∧ cur.length ≤ 1000000 + i ∧ i ≤ 1000000 by have h1 := HT.out.1; have h2 := HT.out.2.1; have := HN.out; omega)
      by_cases h10 : X = 10
      · subst h10
        have HK := Lib.hid (show (c == 10) = true by
          have : c = 10 := UInt8.toNat_inj.1 (by show c.toNat = 10; have := HX.out; omega)
          rw [this]; rfl)
        have HT2 := Lib.hid (HT.out.line HC.out HK.out)
        obtain ⟨S2, R2⟩ := HS.out.reset
        have HS2 := Lib.hid S2
        have HR2 := Lib.hid R2
        clear S2 R2
        obtain ⟨m, hm⟩ : ∃ m, m = cur.length := ⟨_, rfl⟩
        rw [← hm] at c0 HR2
        have HM := Lib.hid hm
        clear hm
        by_cases hm0 : m = 0
        · subst hm0
          have p1 : ¬ (0 : Int) < ((0 : Nat) : Int) := by simp
          have p2 : decide ((0 : Int) < ((0 : Nat) : Int)) = false := decide_eq_false p1
          have HCU := Lib.hid (show Ln.cut cur = cur from by
              have h0 : cur = [] := List.eq_nil_of_length_eq_zero (HM.out).symm
              rw [h0]; rfl)
          have HKR := Lib.hid (show RdC (wr.setCell ⟨P, 0, none⟩ (.slice none 0 0)) (.slice ra 0 rc) (cur).length (bcells (cur)) from by
              have h := HR2.out
              rw [← HM.out]
              exact h)
          have HKL := Lib.hid (show (cur).length ≤ 10000000 by have := hbd.out; have := HM.out; omega)
          obtain ⟨B, hB⟩ : ∃ B, B = Ln.may (cur) := ⟨_, rfl⟩
          have HB := Lib.hid hB
          clear hB
          go_wp2_with fail
          refine (may_any HKR.out HKL.out).mono ?_
          rintro e w4 ⟨rfl, hw⟩
          rw [← HB.out]
          have hcv := conv_of HKR.out
          obtain ⟨W2, hW2⟩ : ∃ W2, W2 = (wr.setCell ⟨P, 0, none⟩ (.slice none 0 0)) := ⟨_, rfl⟩
          rw [← hW2] at hw hcv HS2
          subst w4
          clear hW2 HKR HR2
          obtain ⟨S, hS⟩ : ∃ S : ByteArray, S = ⟨(cur).toArray⟩ := ⟨_, rfl⟩
          rw [← hS] at hcv
          have HSS := Lib.hid (show Value.string S = scell (cur) by rw [hS]; rfl)
          clear hS
          cases B with
          | true =>
            have HLN := Lib.hid (show Ln.line cur = (cur, false) by unfold Ln.line; rw [HCU.out, ← HB.out]; rfl)
            go_wp2_with (at_builtin; go_loud (refine qwpList_append_or _ rfl _ _ 44 rfl w.heap.size 9 i1 (.string ⟨#[]⟩) 1 16 Tryz.underlying44 HI1.out HZ1.out HY1.out HX1.out rfl (by decide) _ _ _ rfl (World.ownsRow.alloc HS2.out.tl _) ⟨W2.heap.size, 0, none⟩ 1 1 [.string S] rfl rfl (World.news_of_block (cs := #[.string S]) (t := 9) (fr := (0, 0)) (q_new W2 _)) (by simp [Value.oneCell']) (by unfold maxLen; have := hbd.out; have := HN.out; simp only [List.length_map]; omega) (by have := hbd.out; have := HN.out; simp only [List.length_map]; omega) (by have := HS2.out.size; simp; omega) ?_); intro v1 w3 qown qor; have hown := Lib.hid qown; have hor := Lib.hid qor; clear qown qor; refine Hid.out ?_)
            refine Lib.hid ?_
            have hown2 := Lib.hid (show w3.ownsRow w.heap.size 9 1 v1 ((D.map (·.1)).length + 1) (scells (D.map (·.1)) ++ [scell (cur)]) by have h := hown.out; rw [HSS.out] at h; exact h)
            have HS3 := Lib.hid (HS2.out.text _ hown2.out hor.out)
            clear hown hor hown2
            go_wp2_with (at_builtin; go_loud (refine qwpList_append_or _ rfl _ _ 45 rfl w.heap.size 4 i3 (.bool false) 1 1 Tryz.underlying45 HI3.out HZ3.out HY3.out HX3.out rfl (by decide) _ _ _ rfl (World.ownsRow.alloc HS3.out.tb _) ⟨w3.heap.size, 0, none⟩ 1 1 [.bool false] rfl rfl (World.news_of_block (cs := #[.bool false]) (t := 4) (fr := (0, 0)) (q_new w3 _)) (by simp [Value.oneCell']) (by unfold maxLen; have := hbd.out; have := HN.out; simp only [List.length_map]; omega) (by have := hbd.out; have := HN.out; simp only [List.length_map]; omega) (by have := HS3.out.size; simp; omega) ?_); intro v2 w5 qown qor; have hown := Lib.hid qown; have hor := Lib.hid qor; clear qown qor; refine Hid.out ?_)
            refine Lib.hid ?_
            have HS4 := Lib.hid (HS3.out.truth _ hown.out hor.out)
            clear hown hor
            have HS5 := Lib.hid (show PS w P base rb0 w5 (.slice none 0 0) [] v1 ((D ++ [Ln.line cur]).map (·.1)) v2 ((D ++ [Ln.line cur]).map (·.2)) by rw [HLN.out, List.map_append, List.map_append]; exact HS4.out)
            go_wp2
            go_roundg (n - (i + 1))
            case measure => omega
            case rel => exact ⟨i + 1, [], _, D ++ [Ln.line cur], by omega, by first | rfl | simp, HS5, HT2⟩
          | false =>
            have HLN := Lib.hid (show Ln.line cur = ([], true) by unfold Ln.line; rw [HCU.out, ← HB.out]; rfl)
            go_wp2_with (at_builtin; go_loud (refine qwpList_append_or _ rfl _ _ 44 rfl w.heap.size 9 i1 (.string ⟨#[]⟩) 1 16 Tryz.underlying44 HI1.out HZ1.out HY1.out HX1.out rfl (by decide) _ _ _ rfl (World.ownsRow.alloc HS2.out.tl _) ⟨W2.heap.size, 0, none⟩ 1 1 [.string ⟨#[]⟩] rfl rfl (World.news_of_block (cs := #[.string ⟨#[]⟩]) (t := 9) (fr := (0, 0)) (q_new W2 _)) (by simp [Value.oneCell']) (by unfold maxLen; have := hbd.out; have := HN.out; simp only [List.length_map]; omega) (by have := hbd.out; have := HN.out; simp only [List.length_map]; omega) (by have := HS2.out.size; simp; omega) ?_); intro v1 w3 qown qor; have hown := Lib.hid qown; have hor := Lib.hid qor; clear qown qor; refine Hid.out ?_)
            refine Lib.hid ?_
            have hown2 := Lib.hid (show w3.ownsRow w.heap.size 9 1 v1 ((D.map (·.1)).length + 1) (scells (D.map (·.1)) ++ [scell ([])]) by have h := hown.out; exact h)
            have HS3 := Lib.hid (HS2.out.text _ hown2.out hor.out)
            clear hown hor hown2
            go_wp2_with (at_builtin; go_loud (refine qwpList_append_or _ rfl _ _ 45 rfl w.heap.size 4 i3 (.bool false) 1 1 Tryz.underlying45 HI3.out HZ3.out HY3.out HX3.out rfl (by decide) _ _ _ rfl (World.ownsRow.alloc HS3.out.tb _) ⟨w3.heap.size, 0, none⟩ 1 1 [.bool true] rfl rfl (World.news_of_block (cs := #[.bool true]) (t := 4) (fr := (0, 0)) (q_new w3 _)) (by simp [Value.oneCell']) (by unfold maxLen; have := hbd.out; have := HN.out; simp only [List.length_map]; omega) (by have := hbd.out; have := HN.out; simp only [List.length_map]; omega) (by have := HS3.out.size; simp; omega) ?_); intro v2 w5 qown qor; have hown := Lib.hid qown; have hor := Lib.hid qor; clear qown qor; refine Hid.out ?_)
            refine Lib.hid ?_
            have HS4 := Lib.hid (HS3.out.truth _ hown.out hor.out)
            clear hown hor
            have HS5 := Lib.hid (show PS w P base rb0 w5 (.slice none 0 0) [] v1 ((D ++ [Ln.line cur]).map (·.1)) v2 ((D ++ [Ln.line cur]).map (·.2)) by rw [HLN.out, List.map_append, List.map_append]; exact HS4.out)
            go_wp2
            go_roundg (n - (i + 1))
            case measure => omega
            case rel => exact ⟨i + 1, [], _, D ++ [Ln.line cur], by omega, by first | rfl | simp, HS5, HT2⟩
        · obtain ⟨k, rfl⟩ : ∃ k, m = k + 1 := ⟨m - 1, by omega⟩
          obtain ⟨z, hz⟩ : ∃ z, cur[k]? = some z := ⟨_, List.getElem?_eq_getElem (by have := HM.out; omega)⟩
          have HLA := Lib.hid (show cur.getLast? = some z by rw [List.getLast?_eq_getElem?, ← HM.out, Nat.add_sub_cancel]; exact hz)
          obtain ⟨bg, e3, hac2⟩ : ∃ g, ra = some ⟨g, 0, none⟩ ∧ k + 1 ≤ rc := by
            rcases own_form HS.out.rd.row with ⟨_, h2, _⟩ | ⟨g, e, _, _, h4⟩
            · exact absurd (by rw [HM.out]; exact h2) hm0
            · exact ⟨g, e, by rw [HM.out]; exact h4⟩
          subst e3
          have hne : ¬ bg = P := fun e => HS.out.rd.ne (by rw [e]; rfl)
          have hne2 : ¬ P = bg := fun e => hne e.symm
          have z0 : wr.cell? ⟨bg, k, none⟩ = some (bcell z) := by
            obtain ⟨a2, c2, e2, _, hca2⟩ := own_rdc HS.out.rd.row
            cases e2
            obtain ⟨b2, o2, e4, _, hcg⟩ := hca2 (by have := HM.out; omega)
            cases e4
            have := hcg k _ (bcells_get hz)
            rwa [Nat.zero_add] at this
          obtain ⟨Z, hZ⟩ : ∃ Z : Int, Z = (z.toNat : Int) := ⟨_, rfl⟩
          unfold bcell at z0
          rw [← hZ] at z0
          have HZz := Lib.hid hZ
          have p1 : (0 : Int) < (k : Int) + 1 := by omega
          have p2 : decide ((0 : Int) < (k : Int) + 1) = true := decide_eq_true p1
          have p4 : (k : Int) < (k : Int) + 1 := by omega
          have p5 : (0 : Int) ≤ (k : Int) := by omega
          have p7 : (k : Int) ≤ (rc : Int) := by omega
          have HKk := Lib.hid (show k ≤ cur.length ∧ k = cur.length - 1 by have := HM.out; omega)
          clear hz hZ
          by_cases h13 : Z = 13
          · subst h13
            have HCU := Lib.hid (show Ln.cut cur = cur.take k from by
                have hz : z = 13 := UInt8.toNat_inj.1 (by show z.toNat = 13; have := HZz.out; omega)
                unfold Ln.cut
                rw [HLA.out, hz, if_pos rfl, List.dropLast_eq_take, ← HKk.out.2])
            have HKR := Lib.hid (show RdC (wr.setCell ⟨P, 0, none⟩ (.slice none 0 0)) (.slice (some ⟨bg, 0, none⟩) k rc) (cur.take k).length (bcells (cur.take k)) from by
                have h := HR2.out
                have hm := HM.out
                rw [hm] at h
                exact rdc_cut h k HKk.out.1)
            have HKL := Lib.hid (show (cur.take k).length ≤ 10000000 by have := hbd.out; have := HM.out; rw [List.length_take]; omega)
            obtain ⟨B, hB⟩ : ∃ B, B = Ln.may (cur.take k) := ⟨_, rfl⟩
            have HB := Lib.hid hB
            clear hB
            have hk0 : 0 ≤ (k : Int) ∧ (k : Int) < 9223372036854775808 := by have := hbd.out; have := HM.out; omega
            have p10 : IntKind.i64.wrap (k : Int) = (k : Int) := wrap_small hk0.1 hk0.2
            clear hk0
            go_wp2_with fail
            clear p10
            refine (may_any HKR.out HKL.out).mono ?_
            rintro e w4 ⟨rfl, hw⟩
            rw [← HB.out]
            have hcv := conv_of HKR.out
            obtain ⟨W2, hW2⟩ : ∃ W2, W2 = (wr.setCell ⟨P, 0, none⟩ (.slice none 0 0)) := ⟨_, rfl⟩
            rw [← hW2] at hw hcv HS2
            subst w4
            clear hW2 HKR HR2
            obtain ⟨S, hS⟩ : ∃ S : ByteArray, S = ⟨(cur.take k).toArray⟩ := ⟨_, rfl⟩
            rw [← hS] at hcv
            have HSS := Lib.hid (show Value.string S = scell (cur.take k) by rw [hS]; rfl)
            clear hS
            cases B with
            | true =>
              have HLN := Lib.hid (show Ln.line cur = (cur.take k, false) by unfold Ln.line; rw [HCU.out, ← HB.out]; rfl)
              go_wp2_with (at_builtin; go_loud (refine qwpList_append_or _ rfl _ _ 44 rfl w.heap.size 9 i1 (.string ⟨#[]⟩) 1 16 Tryz.underlying44 HI1.out HZ1.out HY1.out HX1.out rfl (by decide) _ _ _ rfl (World.ownsRow.alloc HS2.out.tl _) ⟨W2.heap.size, 0, none⟩ 1 1 [.string S] rfl rfl (World.news_of_block (cs := #[.string S]) (t := 9) (fr := (0, 0)) (q_new W2 _)) (by simp [Value.oneCell']) (by unfold maxLen; have := hbd.out; have := HN.out; simp only [List.length_map]; omega) (by have := hbd.out; have := HN.out; simp only [List.length_map]; omega) (by have := HS2.out.size; simp; omega) ?_); intro v1 w3 qown qor; have hown := Lib.hid qown; have hor := Lib.hid qor; clear qown qor; refine Hid.out ?_)
              refine Lib.hid ?_
              have hown2 := Lib.hid (show w3.ownsRow w.heap.size 9 1 v1 ((D.map (·.1)).length + 1) (scells (D.map (·.1)) ++ [scell (cur.take k)]) by have h := hown.out; rw [HSS.out] at h; exact h)
              have HS3 := Lib.hid (HS2.out.text _ hown2.out hor.out)
              clear hown hor hown2
              go_wp2_with (at_builtin; go_loud (refine qwpList_append_or _ rfl _ _ 45 rfl w.heap.size 4 i3 (.bool false) 1 1 Tryz.underlying45 HI3.out HZ3.out HY3.out HX3.out rfl (by decide) _ _ _ rfl (World.ownsRow.alloc HS3.out.tb _) ⟨w3.heap.size, 0, none⟩ 1 1 [.bool false] rfl rfl (World.news_of_block (cs := #[.bool false]) (t := 4) (fr := (0, 0)) (q_new w3 _)) (by simp [Value.oneCell']) (by unfold maxLen; have := hbd.out; have := HN.out; simp only [List.length_map]; omega) (by have := hbd.out; have := HN.out; simp only [List.length_map]; omega) (by have := HS3.out.size; simp; omega) ?_); intro v2 w5 qown qor; have hown := Lib.hid qown; have hor := Lib.hid qor; clear qown qor; refine Hid.out ?_)
              refine Lib.hid ?_
              have HS4 := Lib.hid (HS3.out.truth _ hown.out hor.out)
              clear hown hor
              have HS5 := Lib.hid (show PS w P base rb0 w5 (.slice none 0 0) [] v1 ((D ++ [Ln.line cur]).map (·.1)) v2 ((D ++ [Ln.line cur]).map (·.2)) by rw [HLN.out, List.map_append, List.map_append]; exact HS4.out)
              go_wp2
              go_roundg (n - (i + 1))
              case measure => omega
              case rel => exact ⟨i + 1, [], _, D ++ [Ln.line cur], by omega, by first | rfl | simp, HS5, HT2⟩
            | false =>
              have HLN := Lib.hid (show Ln.line cur = ([], true) by unfold Ln.line; rw [HCU.out, ← HB.out]; rfl)
              go_wp2_with (at_builtin; go_loud (refine qwpList_append_or _ rfl _ _ 44 rfl w.heap.size 9 i1 (.string ⟨#[]⟩) 1 16 Tryz.underlying44 HI1.out HZ1.out HY1.out HX1.out rfl (by decide) _ _ _ rfl (World.ownsRow.alloc HS2.out.tl _) ⟨W2.heap.size, 0, none⟩ 1 1 [.string ⟨#[]⟩] rfl rfl (World.news_of_block (cs := #[.string ⟨#[]⟩]) (t := 9) (fr := (0, 0)) (q_new W2 _)) (by simp [Value.oneCell']) (by unfold maxLen; have := hbd.out; have := HN.out; simp only [List.length_map]; omega) (by have := hbd.out; have := HN.out; simp only [List.length_map]; omega) (by have := HS2.out.size; simp; omega) ?_); intro v1 w3 qown qor; have hown := Lib.hid qown; have hor := Lib.hid qor; clear qown qor; refine Hid.out ?_)
              refine Lib.hid ?_
              have hown2 := Lib.hid (show w3.ownsRow w.heap.size 9 1 v1 ((D.map (·.1)).length + 1) (scells (D.map (·.1)) ++ [scell ([])]) by have h := hown.out; exact h)
              have HS3 := Lib.hid (HS2.out.text _ hown2.out hor.out)
              clear hown hor hown2
              go_wp2_with (at_builtin; go_loud (refine qwpList_append_or _ rfl _ _ 45 rfl w.heap.size 4 i3 (.bool false) 1 1 Tryz.underlying45 HI3.out HZ3.out HY3.out HX3.out rfl (by decide) _ _ _ rfl (World.ownsRow.alloc HS3.out.tb _) ⟨w3.heap.size, 0, none⟩ 1 1 [.bool true] rfl rfl (World.news_of_block (cs := #[.bool true]) (t := 4) (fr := (0, 0)) (q_new w3 _)) (by simp [Value.oneCell']) (by unfold maxLen; have := hbd.out; have := HN.out; simp only [List.length_map]; omega) (by have := hbd.out; have := HN.out; simp only [List.length_map]; omega) (by have := HS3.out.size; simp; omega) ?_); intro v2 w5 qown qor; have hown := Lib.hid qown; have hor := Lib.hid qor; clear qown qor; refine Hid.out ?_)
              refine Lib.hid ?_
              have HS4 := Lib.hid (HS3.out.truth _ hown.out hor.out)
              clear hown hor
              have HS5 := Lib.hid (show PS w P base rb0 w5 (.slice none 0 0) [] v1 ((D ++ [Ln.line cur]).map (·.1)) v2 ((D ++ [Ln.line cur]).map (·.2)) by rw [HLN.out, List.map_append, List.map_append]; exact HS4.out)
              go_wp2
              go_roundg (n - (i + 1))
              case measure => omega
              case rel => exact ⟨i + 1, [], _, D ++ [Ln.line cur], by omega, by first | rfl | simp, HS5, HT2⟩
          · have q1 : (Z == 13) = false := beq_eq_false_iff_ne.2 h13
            have HCU := Lib.hid (show Ln.cut cur = cur from Ln.cut_not (by
                rw [HLA.out]
                intro e
                exact h13 (by rw [HZz.out, Option.some.inj e]; rfl)))
            have HKR := Lib.hid (show RdC (wr.setCell ⟨P, 0, none⟩ (.slice none 0 0)) (.slice (some ⟨bg, 0, none⟩) (k + 1) rc) (cur).length (bcells (cur)) from by
                have h := HR2.out
                have hm := HM.out
                rw [hm] at h ⊢
                exact h)
            have HKL := Lib.hid (show (cur).length ≤ 10000000 by have := hbd.out; have := HM.out; omega)
            obtain ⟨B, hB⟩ : ∃ B, B = Ln.may (cur) := ⟨_, rfl⟩
            have HB := Lib.hid hB
            clear hB
            have hk0 : 0 ≤ (k : Int) ∧ (k : Int) < 9223372036854775808 := by have := hbd.out; have := HM.out; omega
            have p10 : IntKind.i64.wrap (k : Int) = (k : Int) := wrap_small hk0.1 hk0.2
            clear hk0
            go_wp2_with fail
            clear p10
            refine (may_any HKR.out HKL.out).mono ?_
            rintro e w4 ⟨rfl, hw⟩
            rw [← HB.out]
            have hcv := conv_of HKR.out
            obtain ⟨W2, hW2⟩ : ∃ W2, W2 = (wr.setCell ⟨P, 0, none⟩ (.slice none 0 0)) := ⟨_, rfl⟩
            rw [← hW2] at hw hcv HS2
            subst w4
            clear hW2 HKR HR2
            obtain ⟨S, hS⟩ : ∃ S : ByteArray, S = ⟨(cur).toArray⟩ := ⟨_, rfl⟩
            rw [← hS] at hcv
            have HSS := Lib.hid (show Value.string S = scell (cur) by rw [hS]; rfl)
            clear hS
            cases B with
            | true =>
              have HLN := Lib.hid (show Ln.line cur = (cur, false) by unfold Ln.line; rw [HCU.out, ← HB.out]; rfl)
              go_wp2_with (at_builtin; go_loud (refine qwpList_append_or _ rfl _ _ 44 rfl w.heap.size 9 i1 (.string ⟨#[]⟩) 1 16 Tryz.underlying44 HI1.out HZ1.out HY1.out HX1.out rfl (by decide) _ _ _ rfl (World.ownsRow.alloc HS2.out.tl _) ⟨W2.heap.size, 0, none⟩ 1 1 [.string S] rfl rfl (World.news_of_block (cs := #[.string S]) (t := 9) (fr := (0, 0)) (q_new W2 _)) (by simp [Value.oneCell']) (by unfold maxLen; have := hbd.out; have := HN.out; simp only [List.length_map]; omega) (by have := hbd.out; have := HN.out; simp only [List.length_map]; omega) (by have := HS2.out.size; simp; omega) ?_); intro v1 w3 qown qor; have hown := Lib.hid qown; have hor := Lib.hid qor; clear qown qor; refine Hid.out ?_)
              refine Lib.hid ?_
              have hown2 := Lib.hid (show w3.ownsRow w.heap.size 9 1 v1 ((D.map (·.1)).length + 1) (scells (D.map (·.1)) ++ [scell (cur)]) by have h := hown.out; rw [HSS.out] at h; exact h)
              have HS3 := Lib.hid (HS2.out.text _ hown2.out hor.out)
              clear hown hor hown2
              go_wp2_with (at_builtin; go_loud (refine qwpList_append_or _ rfl _ _ 45 rfl w.heap.size 4 i3 (.bool false) 1 1 Tryz.underlying45 HI3.out HZ3.out HY3.out HX3.out rfl (by decide) _ _ _ rfl (World.ownsRow.alloc HS3.out.tb _) ⟨w3.heap.size, 0, none⟩ 1 1 [.bool false] rfl rfl (World.news_of_block (cs := #[.bool false]) (t := 4) (fr := (0, 0)) (q_new w3 _)) (by simp [Value.oneCell']) (by unfold maxLen; have := hbd.out; have := HN.out; simp only [List.length_map]; omega) (by have := hbd.out; have := HN.out; simp only [List.length_map]; omega) (by have := HS3.out.size; simp; omega) ?_); intro v2 w5 qown qor; have hown := Lib.hid qown; have hor := Lib.hid qor; clear qown qor; refine Hid.out ?_)
              refine Lib.hid ?_
              have HS4 := Lib.hid (HS3.out.truth _ hown.out hor.out)
              clear hown hor
              have HS5 := Lib.hid (show PS w P base rb0 w5 (.slice none 0 0) [] v1 ((D ++ [Ln.line cur]).map (·.1)) v2 ((D ++ [Ln.line cur]).map (·.2)) by rw [HLN.out, List.map_append, List.map_append]; exact HS4.out)
              go_wp2
              go_roundg (n - (i + 1))
              case measure => omega
              case rel => exact ⟨i + 1, [], _, D ++ [Ln.line cur], by omega, by first | rfl | simp, HS5, HT2⟩
            | false =>
              have HLN := Lib.hid (show Ln.line cur = ([], true) by unfold Ln.line; rw [HCU.out, ← HB.out]; rfl)
              go_wp2_with (at_builtin; go_loud (refine qwpList_append_or _ rfl _ _ 44 rfl w.heap.size 9 i1 (.string ⟨#[]⟩) 1 16 Tryz.underlying44 HI1.out HZ1.out HY1.out HX1.out rfl (by decide) _ _ _ rfl (World.ownsRow.alloc HS2.out.tl _) ⟨W2.heap.size, 0, none⟩ 1 1 [.string ⟨#[]⟩] rfl rfl (World.news_of_block (cs := #[.string ⟨#[]⟩]) (t := 9) (fr := (0, 0)) (q_new W2 _)) (by simp [Value.oneCell']) (by unfold maxLen; have := hbd.out; have := HN.out; simp only [List.length_map]; omega) (by have := hbd.out; have := HN.out; simp only [List.length_map]; omega) (by have := HS2.out.size; simp; omega) ?_); intro v1 w3 qown qor; have hown := Lib.hid qown; have hor := Lib.hid qor; clear qown qor; refine Hid.out ?_)
              refine Lib.hid ?_
              have hown2 := Lib.hid (show w3.ownsRow w.heap.size 9 1 v1 ((D.map (·.1)).length + 1) (scells (D.map (·.1)) ++ [scell ([])]) by have h := hown.out; exact h)
              have HS3 := Lib.hid (HS2.out.text _ hown2.out hor.out)
              clear hown hor hown2
              go_wp2_with (at_builtin; go_loud (refine qwpList_append_or _ rfl _ _ 45 rfl w.heap.size 4 i3 (.bool false) 1 1 Tryz.underlying45 HI3.out HZ3.out HY3.out HX3.out rfl (by decide) _ _ _ rfl (World.ownsRow.alloc HS3.out.tb _) ⟨w3.heap.size, 0, none⟩ 1 1 [.bool true] rfl rfl (World.news_of_block (cs := #[.bool true]) (t := 4) (fr := (0, 0)) (q_new w3 _)) (by simp [Value.oneCell']) (by unfold maxLen; have := hbd.out; have := HN.out; simp only [List.length_map]; omega) (by have := hbd.out; have := HN.out; simp only [List.length_map]; omega) (by have := HS3.out.size; simp; omega) ?_); intro v2 w5 qown qor; have hown := Lib.hid qown; have hor := Lib.hid qor; clear qown qor; refine Hid.out ?_)
              refine Lib.hid ?_
              have HS4 := Lib.hid (HS3.out.truth _ hown.out hor.out)
              clear hown hor
              have HS5 := Lib.hid (show PS w P base rb0 w5 (.slice none 0 0) [] v1 ((D ++ [Ln.line cur]).map (·.1)) v2 ((D ++ [Ln.line cur]).map (·.2)) by rw [HLN.out, List.map_append, List.map_append]; exact HS4.out)
              go_wp2
              go_roundg (n - (i + 1))
              case measure => omega
              case rel => exact ⟨i + 1, [], _, D ++ [Ln.line cur], by omega, by first | rfl | simp, HS5, HT2⟩
      · have y1 : (X != 10) = true := bne_iff_ne.2 h10
        have y2 : (X == 10) = false := beq_eq_false_iff_ne.2 h10
        have HK := Lib.hid (show (c == 10) = false by rw [beq_eq_false_iff_ne]; intro e; exact h10 (by rw [HX.out, e]; rfl))
        have hbs : base ≤ wr.heap.size := by have h1 := HS.out.bp; have h2 := HS.out.pw; have h3 := HS.out.size; omega
        have hm1 : cur.length + 1 ≤ maxLen := by unfold maxLen; have := hbd.out; omega
        have hm2 : (cur.length + 1) * 1 ≤ 140737488355328 := by have := hbd.out; omega
        go_wp2
        go_region_law
          ((first
            | (refine step_append_lies _ (by rfl) _ _ _ (by rfl) base 5 i2 _ 1 1 Tryz.underlying42 HI2.out HZ2.out HY2.out HX2.out rfl (by omega) _ cur.length (bcells cur) (by rfl) (World.ownsRow.alloc (World.ownsRow.drew HS.out.rd.row) _)
                ⟨wr.heap.size, 0, none⟩ 1 1 [.int .u8 X] (by rfl) (by rfl) (World.news_of_block (cs := #[.int .u8 X]) (t := 5) (fr := (0, 0)) (heap_alloc_new _ _)) (by simp [Value.oneCell'])
                (by omega) hm1 hm2 (by simp; omega) (wr.heap.size + 1) (by simp) ?_; intro gg cap w6 hown1 hgrow hat hlt6; have hg6 := q_undrew hgrow; obtain ⟨S2, c1, f1⟩ := HS.out.byte (c := c) (.cells #[.int .u8 X] 5) (by have h := hown1; rw [HX.out] at h; exact h) hg6 (fun g e => by
                  obtain rfl : gg = g := by simpa [Value.ownBlock] using e
                  rcases hat with h | h
                  · exact .inl h
                  · exact .inr (by omega)); have HS2 := Lib.hid S2; clear S2 hown1 hgrow hat hg6)))
        all_goals
          have HT2 := Lib.hid (HT.out.byte HC.out HK.out)
          clear c1 f1 hlt6
          go_wp2
          go_roundg (n - (i + 1))
          case measure => omega
          case rel => exact ⟨i + 1, cur ++ [c], _, D, by omega, by first | rfl | simp, HS2, HT2⟩
    · obtain rfl : i = n := by omega
      have HE := Lib.hid (HT.out.done HN.out.1)
      have l1 : ¬ (i : Int) < (i : Int) := by omega
      go_wp2
      go_ret3
      rw [HE.out]
      first
        | exact ⟨_, _, rfl, _, HS.out⟩
        | exact ⟨_, _, _, rfl, HS.out⟩
end Go.Proofs.YthpbcfoaabacgaaGreatDoor
