/- Seals: what the row lists, what comes in, the law package's alive. -/
import Derived.Test.YtjlmhpokamdkhaaDoorSlC
import Derived.Test.YtjlmhpokamdkhaaDoorShV2
import Derived.Lib.SmallJoins
import Derived.Stop.LaidErr
namespace Go.Proofs.YtjlmhpokamdkhaaDoor
open Go Go.Proofs Go.RowKit Go.Shelf

attribute [local go_sem] Oper.semAt_some
theorem hasW_of_laid {W : World} (h : laidMetH Tryd.prog [("math/bits.deBruijn32tab", Rows.laid_math_bits_deBruijn32tab), ("math/bits.deBruijn64tab", Rows.laid_math_bits_deBruijn64tab), ("assayer/sums.squares", Rows.laid_assayer_sums_squares), ("assayer/sums.cubes", Rows.laid_assayer_sums_cubes), ("internal/strconv.uint64pow10", Rows.laid_internal_strconv_uint64pow10)] W) : HasW W := by
  have h2 := h
  rw [MakeChecks.laidMetH_plain _ _ _ (by kernel_rfl)] at h h2
  have t3 := laidMet.tail (laidMet.tail h)
  have t5 := laidMet.tail (laidMet.tail t3)
  have hV : HasV W := hasV_of_laid2 t3
  refine ⟨hV, ?_⟩
  exact Lib.tabIs_of_head (g := 2) (t := 72) (e := 29) (n := 20) (by kernel_rfl) (by kernel_rfl) Tryd.underlying72 Tryd.underlying29 (by kernel_rfl) (by kernel_rfl) t5
/-- what comes in: two texts, a number, a text -/
theorem open_asking {H : Type} {enc : TypeId × Value → H} {W : World} {base : Nat} {v : Value} {d : DataW H} {p : List MemPlace} (ho : Value.okWide Tryd.prog W .any base 31 v) (h : DataW.Trod enc Tryd.prog W 0 (fun _ => true) true 31 v d p) :
    ∃ (K N T : ByteArray) (u : Nat), u < 18446744073709551616 ∧ v = .agg #[.string K, .string N, .int .u64 (u : Int), .string T] := by
  obtain ⟨v0, v1, v2, v3, y0, y1, y2, y3, n, rfl, _, _, h0, h1, h2, h3⟩ := Go.Joins.open_agg4 Tryd.underlying31 (by kernel_rfl) (by kernel_rfl) ho h
  obtain ⟨K, e0, _, _⟩ := DataW.trod_string Tryd.underlying9 h0
  obtain ⟨N, e1, _, _⟩ := DataW.trod_string Tryd.underlying9 h1
  obtain ⟨u, e2, _, w2⟩ := DataW.trod_int Tryd.underlying29 h2
  obtain ⟨T, e3, _, _⟩ := DataW.trod_string Tryd.underlying9 h3
  simp only [List.cons.injEq, and_true] at e0 e1 e2 e3
  simp [Lit.wf, IntKind.min, IntKind.max, IntKind.signed, IntKind.bits] at w2
  refine ⟨K, N, T, u.toNat, by omega, ?_⟩
  rw [e0, e1, e2, e3, Int.toNat_of_nonneg w2.1]
theorem dec1 : Lib.decDigits 1 = [49] := Lib.decDigits_one (by decide)
theorem dec2 : Lib.decDigits 2 = [50] := Lib.decDigits_one (by decide)
theorem dec0 : Lib.decDigits 0 = [48] := Lib.decDigits_one (by decide)
theorem sealNe2 : (sealB [107, 101, 121] [97, 110, 110] 2 == sealB [107, 101, 121] [97, 110, 110] 1) = false := by unfold sealB; rw [dec1, dec2]; decide +kernel
theorem sealNeB : (sealB [107, 101, 121] [98, 111, 98] 1 == sealB [107, 101, 121] [97, 110, 110] 1) = false := by unfold sealB; rw [dec1]; decide +kernel
set_option maxRecDepth 100000
set_option maxHeartbeats 4000000 in
theorem sl_alive (w : World) (hW : HasW w) : Calls Tryd.prog 20 #[] w fun e w' => e = .returned (.bool true) ∧ Below w.heap.size w w' := by
  obtain ⟨S1, h1⟩ : ∃ X : ByteArray, X = ⟨(sealB [107, 101, 121] [97, 110, 110] 1).toArray⟩ := ⟨_, rfl⟩
  obtain ⟨S0, h0⟩ : ∃ X : ByteArray, X = ⟨(sealB [] [] 0).toArray⟩ := ⟨_, rfl⟩
  obtain ⟨A1, a1⟩ : ∃ X, X = ((Sh.keyed [107, 101, 121] [97, 110, 110, 0, 49]).map bv).toArray := ⟨_, rfl⟩
  obtain ⟨A0, a0⟩ : ∃ X, X = ((Sh.keyed [] [0, 48]).map bv).toArray := ⟨_, rfl⟩
  have hl : S1.size = 64 := by rw [← bts_length, h1, bts_mk, sealB_length]
  have KM1 := Lib.hid (show ∀ W, Below w.heap.size w W → Calls Tryd.prog 16 #[.string ⟨#[107, 101, 121]⟩, .string ⟨#[97, 110, 110]⟩, .int .u64 1] W fun e w' => e = .returned (.string S1) ∧ Below w.heap.size w w' by
    intro W hb; rw [h1]
    exact (make_any ⟨#[107, 101, 121]⟩ ⟨#[97, 110, 110]⟩ 1 (by decide) W (by decide) (by decide) (hW.below hb)).mono fun _ _ h => ⟨h.1, hb.trans (h.2.mono hb.size)⟩)
  have KM0 := Lib.hid (show ∀ W, Below w.heap.size w W → Calls Tryd.prog 16 #[.string ⟨#[]⟩, .string ⟨#[]⟩, .int .u64 0] W fun e w' => e = .returned (.string S0) ∧ Below w.heap.size w w' by
    intro W hb; rw [h0]
    exact (make_any ⟨#[]⟩ ⟨#[]⟩ 0 (by decide) W (by decide) (by decide) (hW.below hb)).mono fun _ _ h => ⟨h.1, hb.trans (h.2.mono hb.size)⟩)
  have KC1 := Lib.hid (show ∀ W, Below w.heap.size w W → Calls Tryd.prog 18 #[.string ⟨#[107, 101, 121]⟩, .string ⟨#[97, 110, 110]⟩, .int .u64 1, .string S1] W fun e w' => e = .returned (.bool true) ∧ Below w.heap.size w w' by
    intro W hb
    have e : (sealB [107, 101, 121] [97, 110, 110] 1 == bts S1) = true := by rw [h1, bts_mk]; exact beq_self_eq_true _
    exact (check_any ⟨#[107, 101, 121]⟩ ⟨#[97, 110, 110]⟩ S1 1 (by decide) W (by decide) (by decide) (by omega) (hW.below hb)).mono fun _ _ h => ⟨by rw [h.1]; exact congrArg (fun b => Ending.returned (.bool b)) e, hb.trans (h.2.mono hb.size)⟩)
  have KC2 := Lib.hid (show ∀ W, Below w.heap.size w W → Calls Tryd.prog 18 #[.string ⟨#[107, 101, 121]⟩, .string ⟨#[97, 110, 110]⟩, .int .u64 2, .string S1] W fun e w' => e = .returned (.bool false) ∧ Below w.heap.size w w' by
    intro W hb
    have e : (sealB [107, 101, 121] [97, 110, 110] 2 == bts S1) = false := by rw [h1, bts_mk]; exact sealNe2
    exact (check_any ⟨#[107, 101, 121]⟩ ⟨#[97, 110, 110]⟩ S1 2 (by decide) W (by decide) (by decide) (by omega) (hW.below hb)).mono fun _ _ h => ⟨by rw [h.1]; exact congrArg (fun b => Ending.returned (.bool b)) e, hb.trans (h.2.mono hb.size)⟩)
  have KC3 := Lib.hid (show ∀ W, Below w.heap.size w W → Calls Tryd.prog 18 #[.string ⟨#[107, 101, 121]⟩, .string ⟨#[98, 111, 98]⟩, .int .u64 1, .string S1] W fun e w' => e = .returned (.bool false) ∧ Below w.heap.size w w' by
    intro W hb
    have e : (sealB [107, 101, 121] [98, 111, 98] 1 == bts S1) = false := by rw [h1, bts_mk]; exact sealNeB
    exact (check_any ⟨#[107, 101, 121]⟩ ⟨#[98, 111, 98]⟩ S1 1 (by decide) W (by decide) (by decide) (by omega) (hW.below hb)).mono fun _ _ h => ⟨by rw [h.1]; exact congrArg (fun b => Ending.returned (.bool b)) e, hb.trans (h.2.mono hb.size)⟩)
  have KC4 := Lib.hid (show ∀ W, Below w.heap.size w W → Calls Tryd.prog 18 #[.string ⟨#[107, 101, 121]⟩, .string ⟨#[97, 110, 110]⟩, .int .u64 1, .string ⟨#[]⟩] W fun e w' => e = .returned (.bool false) ∧ Below w.heap.size w w' by
    intro W hb
    have e : (sealB [107, 101, 121] [97, 110, 110] 1 == bts ⟨#[]⟩) = false := by
      rw [beq_eq_false_iff_ne]; intro h
      have := congrArg List.length h
      rw [sealB_length] at this
      simp [bts] at this
    exact (check_any ⟨#[107, 101, 121]⟩ ⟨#[97, 110, 110]⟩ ⟨#[]⟩ 1 (by decide) W (by decide) (by decide) (by decide) (hW.below hb)).mono fun _ _ h => ⟨by rw [h.1]; exact congrArg (fun b => Ending.returned (.bool b)) e, hb.trans (h.2.mono hb.size)⟩)
  have KK1 := Lib.hid (show ∀ W, Below w.heap.size w W → Calls Tryd.prog 9 #[.slice (some ⟨W.heap.size, 0, none⟩) 3 3, .slice (some ⟨W.heap.size + 1, 0, none⟩) 5 5] ((W.alloc (.cells #[.int .u8 107, .int .u8 101, .int .u8 121] 5 (3, 4))).alloc (.cells #[.int .u8 97, .int .u8 110, .int .u8 110, .int .u8 0, .int .u8 49] 5 (5, 6))) fun e w' => e = .returned (.agg A1) ∧ Below w.heap.size w w' by
    intro W hb; rw [a1]
    have hb2 := hb.alloc hb.size (.cells (([107, 101, 121] : List UInt8).map bv).toArray 5 (3, 4))
    have hb3 := hb2.alloc hb2.size (.cells (([97, 110, 110, 0, 49] : List UInt8).map bv).toArray 5 (5, 6))
    have r1 := (rdb_mark W 5 [107, 101, 121] 3 (3, 4) rfl).below ((Below.refl _ _).alloc (Nat.le_refl _) (.cells (([97, 110, 110, 0, 49] : List UInt8).map bv).toArray 5 (5, 6)))
    have r2 := rdb_mark (W.alloc (.cells (([107, 101, 121] : List UInt8).map bv).toArray 5 (3, 4))) 5 [97, 110, 110, 0, 49] 5 (5, 6) rfl
    rw [World.size_alloc] at r2
    exact (keyed_any [107, 101, 121] [97, 110, 110, 0, 49] _ _ _ (by simp) (by simp) r1 r2 (hW.1.below hb3)).mono fun _ _ h => ⟨h.1, hb3.trans (h.2.mono hb3.size)⟩)
  have KK0 := Lib.hid (show ∀ W, Below w.heap.size w W → Calls Tryd.prog 9 #[.slice none 0 0, .slice (some ⟨W.heap.size, 0, none⟩) 2 2] (W.alloc (.cells #[.int .u8 0, .int .u8 48] 5 (2, 3))) fun e w' => e = .returned (.agg A0) ∧ Below w.heap.size w w' by
    intro W hb; rw [a0]
    have hb2 := hb.alloc hb.size (.cells (([0, 48] : List UInt8).map bv).toArray 5 (2, 3))
    exact (keyed_any [] [0, 48] _ _ _ (by simp) (by simp) (rdb_nil _) (rdb_mark W 5 [0, 48] 2 (2, 3) rfl) (hW.1.below hb2)).mono fun _ _ h => ⟨h.1, hb2.trans (h.2.mono hb2.size)⟩)
  have KT1 := Lib.hid (show ∀ W, Below w.heap.size w W → Calls Tryd.prog 12 #[.agg A1] W fun e w' => e = .returned (.string S1) ∧ Below w.heap.size w w' by
    intro W hb; rw [a1]
    have h := text_any (Sh.keyed [107, 101, 121] [97, 110, 110, 0, 49]) (Sh.length_keyed _ _) W
    have e : Sh.hex (Sh.keyed [107, 101, 121] [97, 110, 110, 0, 49]) = sealB [107, 101, 121] [97, 110, 110] 1 := by unfold sealB; rw [dec1]; rfl
    rw [e, ← h1] at h
    exact h.mono fun _ _ h => ⟨h.1, hb.trans (h.2.mono hb.size)⟩)
  have KT0 := Lib.hid (show ∀ W, Below w.heap.size w W → Calls Tryd.prog 12 #[.agg A0] W fun e w' => e = .returned (.string S0) ∧ Below w.heap.size w w' by
    intro W hb; rw [a0]
    have h := text_any (Sh.keyed [] [0, 48]) (Sh.length_keyed _ _) W
    have e : Sh.hex (Sh.keyed [] [0, 48]) = sealB [] [] 0 := by unfold sealB; rw [dec0]; rfl
    rw [e, ← h0] at h
    exact h.mono fun _ _ h => ⟨h.1, hb.trans (h.2.mono hb.size)⟩)
  have hb := Lib.hid (Below.refl w.heap.size w)
  have q1 : (S1.toList == S1.toList) = true := beq_self_eq_true _
  have q0 : (S0.toList == S0.toList) = true := beq_self_eq_true _
  clear h1 h0 a1 a0 hW hl
  have cv1 : ∀ W : World, (convert 22 22 (.slice (some ⟨W.heap.size, 0, none⟩) 3 3)).run Tryd.prog (W.alloc (.cells #[.int .u8 107, .int .u8 101, .int .u8 121] 5)) = .ok (.slice (some ⟨W.heap.size, 0, none⟩) 3 3) (W.alloc (.cells #[.int .u8 107, .int .u8 101, .int .u8 121] 5 (3, 4))) := fun W => conv_mark W _ 3 3 3 rfl
  have cv0 : ∀ W : World, (convert 22 22 (.slice (some ⟨W.heap.size, 0, none⟩) 2 2)).run Tryd.prog (W.alloc (.cells #[.int .u8 0, .int .u8 48] 5)) = .ok (.slice (some ⟨W.heap.size, 0, none⟩) 2 2) (W.alloc (.cells #[.int .u8 0, .int .u8 48] 5 (2, 3))) := fun W => conv_mark W _ 2 2 2 rfl
  have cv2 : ∀ W : World, (convert 22 22 (.slice (some ⟨W.heap.size + 1, 0, none⟩) 5 5)).run Tryd.prog ((W.alloc (.cells #[.int .u8 107, .int .u8 101, .int .u8 121] 5 (3, 4))).alloc (.cells #[.int .u8 97, .int .u8 110, .int .u8 110, .int .u8 0, .int .u8 49] 5)) = .ok (.slice (some ⟨W.heap.size + 1, 0, none⟩) 5 5) ((W.alloc (.cells #[.int .u8 107, .int .u8 101, .int .u8 121] 5 (3, 4))).alloc (.cells #[.int .u8 97, .int .u8 110, .int .u8 110, .int .u8 0, .int .u8 49] 5 (5, 6))) := fun W => by
    have := conv_mark (W.alloc (.cells #[.int .u8 107, .int .u8 101, .int .u8 121] 5 (3, 4))) #[.int .u8 97, .int .u8 110, .int .u8 110, .int .u8 0, .int .u8 49] 5 5 5 rfl
    rw [World.size_alloc] at this
    exact this
  go_enter Tryd.func20, Tryd.ntmps20
  go_wp2_with (first
    | (go_at_call 16; (with_reducible refine (KM1.out _ hb.out).mono ?_); clear hb; rintro e wx ⟨rfl, hx⟩; have hb := Lib.hid hx; clear hx)
    | (go_at_call 9; (with_reducible refine (KK1.out _ hb.out).mono ?_); clear hb; rintro e wx ⟨rfl, hx⟩; have hb := Lib.hid hx; clear hx)
    | (go_at_call 12; (with_reducible refine (KT1.out _ hb.out).mono ?_); clear hb; rintro e wx ⟨rfl, hx⟩; have hb := Lib.hid hx; clear hx)
    | (go_at_call 18; (with_reducible refine (KC1.out _ hb.out).mono ?_); clear hb; rintro e wx ⟨rfl, hx⟩; have hb := Lib.hid hx; clear hx)
    | (go_at_call 18; (with_reducible refine (KC2.out _ hb.out).mono ?_); clear hb; rintro e wx ⟨rfl, hx⟩; have hb := Lib.hid hx; clear hx)
    | (go_at_call 18; (with_reducible refine (KC3.out _ hb.out).mono ?_); clear hb; rintro e wx ⟨rfl, hx⟩; have hb := Lib.hid hx; clear hx)
    | (go_at_call 18; (with_reducible refine (KC4.out _ hb.out).mono ?_); clear hb; rintro e wx ⟨rfl, hx⟩; have hb := Lib.hid hx; clear hx)
    | (go_at_call 16; (with_reducible refine (KM0.out _ hb.out).mono ?_); clear hb; rintro e wx ⟨rfl, hx⟩; have hb := Lib.hid hx; clear hx)
    | (go_at_call 9; (with_reducible refine (KK0.out _ hb.out).mono ?_); clear hb; rintro e wx ⟨rfl, hx⟩; have hb := Lib.hid hx; clear hx)
    | (go_at_call 12; (with_reducible refine (KT0.out _ hb.out).mono ?_); clear hb; rintro e wx ⟨rfl, hx⟩; have hb := Lib.hid hx; clear hx)
    | fail)
  go_ret
  exact ⟨rfl, hb.out⟩
end Go.Proofs.YtjlmhpokamdkhaaDoor
