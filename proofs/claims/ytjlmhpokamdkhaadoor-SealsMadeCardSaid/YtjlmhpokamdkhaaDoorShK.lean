/- Sums: the sum with a key. -/
import Derived.Test.YtjlmhpokamdkhaaDoorShJ
namespace Go.Proofs.YtjlmhpokamdkhaaDoor
open Go Go.Proofs Go.RowKit Go.Shelf

attribute [local go_sem] Oper.semAt_some
theorem Row.of_range {W : World} {g : Nat} {l : List UInt8} {n : Nat} (h : W.rangeAt g 0 (l.map bv)) (hg : g < W.heap.size) (hn : l.length = n) : RdB W (.slice (some ⟨g, 0, none⟩) n n) l :=
  ⟨_, n, by rw [hn], by omega, fun _ => ⟨g, 0, rfl, hg, fun j hj => h j _ (getD_some hj)⟩⟩
theorem range_below {W W' : World} {B g : Nat} {l : List Value} (h : W.rangeAt g 0 l) (hg : g < B) (hb : Below B W W') : W'.rangeAt g 0 l := fun j v hv => (hb.cell (p := ⟨g, 0 + j, none⟩) hg).trans (h j v hv)
theorem setCells_size (g : Nat) : ∀ (vs : List Value) (o : Nat) (w : World), (w.setCells g o vs).heap.size = w.heap.size
  | [], _, _ => rfl
  | v :: r, o, w => by rw [World.setCells, setCells_size g r]; simp
theorem F12.put {W : World} {B1 B9 B2 g : Nat} {s : St} {cs : List Value} (h : F12 W B1 B9 B2 s cs) (h1 : B1 ≠ g) (h9 : B9 ≠ g) (vs : List Value) : F12 (W.setCells g 0 vs) B1 B9 B2 s cs := by
  have c : ∀ o, (W.setCells g 0 vs).cell? ⟨B1, o, none⟩ = W.cell? ⟨B1, o, none⟩ := fun o => World.cell?_setCells_out g vs 0 W _ (fun e => absurd e h1)
  obtain ⟨a0, a1, a2, a3, a4, a5, a6, a7, r, t⟩ := h
  exact ⟨(c _).trans a0, (c _).trans a1, (c _).trans a2, (c _).trans a3, (c _).trans a4, (c _).trans a5, (c _).trans a6, (c _).trans a7, World.rangeAt_setCells_apart r g 0 vs (.inl h9), World.there_setCells t g 0 vs⟩
/-- a row of 32 bytes of its own was made behind u -/
def Al (u W : World) (B : Nat) : Prop := Below u.heap.size u W ∧ u.heap.size ≤ B ∧ B < W.heap.size ∧ W.there B 0 32
theorem Al.new {u W : World} (h : Below u.heap.size u W) : Al u (W.alloc (.cells #[.int .u8 0, .int .u8 0, .int .u8 0, .int .u8 0, .int .u8 0, .int .u8 0, .int .u8 0, .int .u8 0, .int .u8 0, .int .u8 0, .int .u8 0, .int .u8 0, .int .u8 0, .int .u8 0, .int .u8 0, .int .u8 0, .int .u8 0, .int .u8 0, .int .u8 0, .int .u8 0, .int .u8 0, .int .u8 0, .int .u8 0, .int .u8 0, .int .u8 0, .int .u8 0, .int .u8 0, .int .u8 0, .int .u8 0, .int .u8 0, .int .u8 0, .int .u8 0] 24)) W.heap.size :=
  ⟨h.alloc h.size _, h.size, by simp, Row.there (Row.new W 24 (List.replicate 32 (bv 0))) (by simp)⟩
theorem Al.call {u W W' : World} {B : Nat} (h : Al u W B) (hb : Below W.heap.size W W') : Al u W' B :=
  ⟨h.1.trans (hb.mono h.1.size), h.2.1, Nat.lt_of_lt_of_le h.2.2.1 hb.size, fun j hj => by
    rw [hb.cell (p := ⟨B, 0 + j, none⟩) h.2.2.1, hb.frozen (p := ⟨B, 0 + j, none⟩) h.2.2.1]; exact h.2.2.2 j hj⟩
theorem Al.bel {u W : World} {B : Nat} (h : Al u W B) : Below u.heap.size u W := h.1
theorem Al.ne {u W : World} {B g : Nat} (h : Al u W B) (hg : g < u.heap.size) : g ≠ B := Nat.ne_of_lt (Nat.lt_of_lt_of_le hg h.2.1)
theorem Al.done {u W : World} {B : Nat} (h : Al u W B) (vs : List Value) (hv : vs.length = 32) : ∃ y B', y = W.setCells B 0 vs ∧ B' = B ∧ y.rangeAt B' 0 vs ∧ B' < y.heap.size ∧ Below u.heap.size u y :=
  ⟨_, _, rfl, rfl, World.rangeAt_setCells_same _ _ _ _ (by rw [hv]; exact h.2.2.2), by rw [setCells_size]; exact h.2.2.1, below_setCells h.2.1 vs 0 _ h.1⟩
set_option maxRecDepth 100000
set_option maxHeartbeats 4000000 in
theorem keyed_any (l m : List UInt8) (v v' : Value) (w : World) (hl : l.length ≤ 1000000) (hm : m.length ≤ 1000000) (hR : RdB w v l) (hM : RdB w v' m) (hV : HasV w) :
    Calls Tryd.prog 9 #[v, v'] w fun e w' => e = .returned (.agg ((Sh.keyed l m).map bv).toArray) ∧ Below w.heap.size w w' := by
  obtain ⟨a, cap, rfl, hcap⟩ := hR.form
  obtain ⟨a', cap', rfl, hcap'⟩ := hM.form
  obtain ⟨Hs, hHs⟩ : ∃ s, s = Sh.H := ⟨_, rfl⟩
  obtain ⟨WK, hWK⟩ : ∃ k, k = Sh.wide l := ⟨_, rfl⟩
  have hWl : WK.length = 64 := by rw [hWK, Sh.length_wide]
  obtain ⟨CS, hCS⟩ : ∃ C, C = WK.map bv := ⟨_, rfl⟩
  obtain ⟨M1, hM1⟩ : ∃ X, X = ((Sh.masked WK 54).map bv).toArray := ⟨_, rfl⟩
  obtain ⟨M2, hM2⟩ : ∃ X, X = ((Sh.masked WK 92).map bv).toArray := ⟨_, rfl⟩
  obtain ⟨T1, hT1⟩ : ∃ X, X = ((Sh.list (Sh.comp Hs (Sh.masked WK 54))).map uv).toArray := ⟨_, rfl⟩
  obtain ⟨T2, hT2⟩ : ∃ X, X = ((Sh.list (Sh.comp Hs (Sh.masked WK 92))).map uv).toArray := ⟨_, rfl⟩
  obtain ⟨IN, hIN⟩ : ∃ X, X = Sh.fin (8 * (64 + m.length)) (Sh.comp Hs (Sh.masked WK 54)) m := ⟨_, rfl⟩
  have hINl : IN.length = 32 := by rw [hIN, Sh.length_fin]
  obtain ⟨O1, hO1⟩ : ∃ X, X = IN.map bv := ⟨_, rfl⟩
  obtain ⟨O2, hO2⟩ : ∃ X, X = (Sh.fin 768 (Sh.comp Hs (Sh.masked WK 92)) IN).map bv := ⟨_, rfl⟩
  have HO := Lib.hid (show O2 = (Sh.keyed l m).map bv by rw [hO2, hIN, hHs, hWK]; rfl)
  obtain ⟨CA, hCA⟩ : ∃ C, C = CS.toArray := ⟨_, rfl⟩
  have HCA := Lib.hid hCA
  have hCAs := Lib.hid (show CA.size = 64 ∧ CA.all (·.oneCell') = true from ⟨by rw [hCA, hCS]; simp [hWl], by rw [hCA, hCS]; exact one_bv _⟩)
  have KW := Lib.hid (show ∀ W, Below w.heap.size w W → Calls Tryd.prog 22 #[.slice a l.length cap] W fun e w' => e = .returned (.agg CA) ∧ Below W.heap.size W w' by
    intro W hW; rw [hCA, hCS, hWK]; exact wide_any l _ W hl (hR.below hW) (hV.below hW))
  have K1 := Lib.hid (show ∀ W, Calls Tryd.prog 24 #[.agg CS.toArray, .int .u8 54] W fun e w' => e = .returned (.agg M1) ∧ Below W.heap.size W w' by
    intro W; rw [hCS, hM1]; exact masked54 WK hWl W)
  have K2 := Lib.hid (show ∀ W, Calls Tryd.prog 24 #[.agg CS.toArray, .int .u8 92] W fun e w' => e = .returned (.agg M2) ∧ Below W.heap.size W w' by
    intro W; rw [hCS, hM2]; exact masked92 WK hWl W)
  have J1 := Lib.hid (show ∀ W, HasC W → Calls Tryd.prog 23 #[.agg #[.int .u32 (iu Hs.a), .int .u32 (iu Hs.b), .int .u32 (iu Hs.c), .int .u32 (iu Hs.d), .int .u32 (iu Hs.e), .int .u32 (iu Hs.f), .int .u32 (iu Hs.g), .int .u32 (iu Hs.h)], .agg M1] W fun e w' => e = .returned (.agg T1) ∧ Below W.heap.size W w' by
    intro W hW; rw [hM1, hT1]; exact taken_any Hs _ (by rw [Sh.length_masked, hWl]) W hW)
  have J2 := Lib.hid (show ∀ W, HasC W → Calls Tryd.prog 23 #[.agg #[.int .u32 (iu Hs.a), .int .u32 (iu Hs.b), .int .u32 (iu Hs.c), .int .u32 (iu Hs.d), .int .u32 (iu Hs.e), .int .u32 (iu Hs.f), .int .u32 (iu Hs.g), .int .u32 (iu Hs.h)], .agg M2] W fun e w' => e = .returned (.agg T2) ∧ Below W.heap.size W w' by
    intro W hW; rw [hM2, hT2]; exact taken_any Hs _ (by rw [Sh.length_masked, hWl]) W hW)
  have E1 := Lib.hid (show ∀ W, Below w.heap.size w W → Calls Tryd.prog 21 #[.agg T1, .int .i64 64, .slice a' m.length cap'] W fun e w' => e = .returned (.agg O1.toArray) ∧ Below W.heap.size W w' by
    intro W hW; rw [hT1, hO1, hIN]; exact finish_any _ 64 m _ W (by omega) hm (hM.below hW) (hV.1.below hV.1.lt hW))
  have E2 := Lib.hid (show ∀ W B, Below w.heap.size w W → W.rangeAt B 0 O1 → B < W.heap.size → Calls Tryd.prog 21 #[.agg T2, .int .i64 64, .slice (some ⟨B, 0, none⟩) 32 32] W fun e w' => e = .returned (.agg O2.toArray) ∧ Below W.heap.size W w' by
    intro W B hW hr hB; rw [hT2, hO2]
    have := finish_any (Sh.comp Hs (Sh.masked WK 92)) 64 IN (.slice (some ⟨B, 0, none⟩) 32 32) W (by omega) (by omega) (Row.of_range (by rw [← hO1]; exact hr) hB hINl) (hV.1.below hV.1.lt hW)
    rw [hINl] at this
    exact this)
  have p1 := Tryd.underlying44
  have p2 : (Tryd.prog.info? 44).map (·.size) = some CS.length := by rw [hCS, List.length_map, hWl]; exact info_b
  have p3 : CS.length = 64 := by rw [hCS, List.length_map, hWl]
  have o1 : ∀ v ∈ O1, v.oneCell' = true := by rw [hO1]; exact one_bv' _
  have o2 : ∀ v ∈ O2, v.oneCell' = true := by rw [hO2]; exact one_bv' _
  have o3 : (Tryd.prog.info? 24).map (·.size) = some O1.length := by rw [hO1, List.length_map, hINl]; exact info_s
  have o4 : (Tryd.prog.info? 24).map (·.size) = some O2.length := by rw [hO2, List.length_map, Sh.length_fin]; exact info_s
  have o5 : O1.length = 32 := by rw [hO1, List.length_map, hINl]
  have o6 : O2.length = 32 := by rw [hO2, List.length_map, Sh.length_fin]
  have o7 := Tryd.underlying24
  have HH := Lib.hid hHs
  have hV := Lib.hid hV
  obtain ⟨n1, hn1⟩ : ∃ n, n = l.length := ⟨_, rfl⟩
  obtain ⟨n2, hn2⟩ : ∃ n, n = m.length := ⟨_, rfl⟩
  rw [← hn1] at KW ⊢
  rw [← hn2] at E1 ⊢
  clear hCA hHs hWK hWl hCS hM1 hM2 hT1 hT2 hIN hINl hO1 hO2 hR hM hcap hcap' hl hm hn1 hn2
  go_enter Tryd.func9, Tryd.ntmps9
  go_wp2_with (first
    | (refine wpList_store_row rfl 44 _ _ rfl w1.heap.size CA rfl rfl 44 #[.int .u8 0, .int .u8 0, .int .u8 0, .int .u8 0, .int .u8 0, .int .u8 0, .int .u8 0, .int .u8 0, .int .u8 0, .int .u8 0, .int .u8 0, .int .u8 0, .int .u8 0, .int .u8 0, .int .u8 0, .int .u8 0, .int .u8 0, .int .u8 0, .int .u8 0, .int .u8 0, .int .u8 0, .int .u8 0, .int .u8 0, .int .u8 0, .int .u8 0, .int .u8 0, .int .u8 0, .int .u8 0, .int .u8 0, .int .u8 0, .int .u8 0, .int .u8 0, .int .u8 0, .int .u8 0, .int .u8 0, .int .u8 0, .int .u8 0, .int .u8 0, .int .u8 0, .int .u8 0, .int .u8 0, .int .u8 0, .int .u8 0, .int .u8 0, .int .u8 0, .int .u8 0, .int .u8 0, .int .u8 0, .int .u8 0, .int .u8 0, .int .u8 0, .int .u8 0, .int .u8 0, .int .u8 0, .int .u8 0, .int .u8 0, .int .u8 0, .int .u8 0, .int .u8 0, .int .u8 0, .int .u8 0, .int .u8 0, .int .u8 0, .int .u8 0] (heap_n0 w1 _ _) (by rw [hCAs.out.1]; exact info_b) (by rw [hCAs.out.1]; rfl) hCAs.out.2 ?_; rw [World.setRow_alloc_new])
    | (go_at_call 22; refine (KW.out _ ((Below.refl _ _).alloc (Nat.le_refl _) _)).mono ?_; rintro e w1 ⟨rfl, hb1⟩; have hb1 := Lib.hid hb1))
  obtain ⟨B4, hB4⟩ : ∃ B, B = w.heap.size := ⟨_, rfl⟩
  obtain ⟨B5, hB5⟩ : ∃ B, B = w1.heap.size := ⟨_, rfl⟩
  obtain ⟨u, hu⟩ : ∃ u, u = w1.alloc (.cells CA 44) := ⟨_, rfl⟩
  have hw1 : w.heap.size + 1 ≤ w1.heap.size := by have := hb1.out.size; simpa using this
  have HU := Lib.hid (show Row u B4 24 (List.replicate 32 (bv 0)) ∧ Row u B5 44 CS ∧ HasV u ∧ Below w.heap.size w u by
    rw [hu, hB4, hB5, HCA.out]
    have h1 : Below w.heap.size w w1 := ((Below.refl _ _).alloc (Nat.le_refl _) _).trans (hb1.out.mono (by simp))
    have h2 := h1.alloc h1.size (.cells CS.toArray 44)
    exact ⟨((Row.new w _ (List.replicate 32 (bv 0))).below hb1.out (by simp)).alloc _, Row.new _ _ _, hV.out.below h2, h2⟩)
  have HB := Lib.hid (show w.heap.size = B4 ∧ B4 < B5 ∧ 0 < B4 from ⟨hB4.symm, by omega, by have := hV.out.lt; omega⟩)
  rw [← hu, ← hB5, ← hB4]
  clear hu hB5 hB4 hw1 hb1
  have HD := Lib.hid (show ∀ W : World, Below u.heap.size u W → F12 W 0 B5 B4 Hs CS from fun W hW => (F12.has HU.out.2.2.1.2 HH.out HU.out.2.1 HU.out.1 (by simp)).below HU.out.2.2.1.2.lt HU.out.2.1.lt HU.out.1.lt hW)
  have hb0 := Lib.hid (show Below u.heap.size u u.drew from (Below.refl _ _).drew)
  have wb0 : ∀ W, Below u.heap.size u W → Below w.heap.size w W := fun W hW => HU.out.2.2.2.trans (hW.mono HU.out.2.2.2.size)
  have K1 := Lib.hid (fun W (_ : Below u.heap.size u W) => K1.out W)
  have J1 := Lib.hid (fun W (h : Below u.heap.size u W) => J1.out W (HU.out.2.2.1.below h).1)
  have E1 := Lib.hid (fun W (h : Below u.heap.size u W) => E1.out W (wb0 W h))
  have wb0 := Lib.hid wb0
  have AF := Lib.hid (show Al u (u.alloc (.cells #[.int .u8 0, .int .u8 0, .int .u8 0, .int .u8 0, .int .u8 0, .int .u8 0, .int .u8 0, .int .u8 0, .int .u8 0, .int .u8 0, .int .u8 0, .int .u8 0, .int .u8 0, .int .u8 0, .int .u8 0, .int .u8 0, .int .u8 0, .int .u8 0, .int .u8 0, .int .u8 0, .int .u8 0, .int .u8 0, .int .u8 0, .int .u8 0, .int .u8 0, .int .u8 0, .int .u8 0, .int .u8 0, .int .u8 0, .int .u8 0, .int .u8 0, .int .u8 0] 24)).drew u.heap.size from ⟨(Al.new (Below.refl u.heap.size u)).1.drew, (Al.new (Below.refl u.heap.size u)).2.1, (Al.new (Below.refl u.heap.size u)).2.2.1, (Al.new (Below.refl u.heap.size u)).2.2.2⟩)
  go_region_held3 (fun W => W.cell? ⟨0, 0, none⟩ = some (.int .u32 (iu Hs.a)) ∧ W.cell? ⟨0, 1, none⟩ = some (.int .u32 (iu Hs.b)) ∧ W.cell? ⟨0, 2, none⟩ = some (.int .u32 (iu Hs.c)) ∧ W.cell? ⟨0, 3, none⟩ = some (.int .u32 (iu Hs.d)) ∧ W.cell? ⟨0, 4, none⟩ = some (.int .u32 (iu Hs.e)) ∧ W.cell? ⟨0, 5, none⟩ = some (.int .u32 (iu Hs.f)) ∧ W.cell? ⟨0, 6, none⟩ = some (.int .u32 (iu Hs.g)) ∧ W.cell? ⟨0, 7, none⟩ = some (.int .u32 (iu Hs.h)) ∧ W.rangeAt B5 0 CS ∧ W.there B4 0 32)
    (first
      | (with_reducible exact F12.un (HD.out _ al.out.bel))
      | (with_reducible exact F12.un (HD.out _ hb0.out))
      | (with_reducible exact F12.un (HD.out _ AF.out.bel))
      | (with_reducible exact F12.un (HD.out _ (Al.new hb0.out).bel))
      | (exact F12.un ((HD.out _ al.out.bel).put (al.out.ne HU.out.2.2.1.2.lt) (al.out.ne HU.out.2.1.lt) _))
      | (exact F12.un ((HD.out _ (Al.new hb0.out).bel).put ((Al.new hb0.out).ne HU.out.2.2.1.2.lt) ((Al.new hb0.out).ne HU.out.2.1.lt) _))
      | fail)
    (first
      | (go_at_call 24; (with_reducible refine (K1.out _ al.out.bel).mono ?_); rintro e wx ⟨rfl, hx⟩; have al := Lib.hid (al.out.call hx); clear hx)
      | (go_at_call 24; (with_reducible refine (K1.out _ AF.out.bel).mono ?_); rintro e wx ⟨rfl, hx⟩; have al := Lib.hid (AF.out.call hx); clear hx)
      | (go_at_call 24; (with_reducible refine (K1.out _ (Al.new hb0.out).bel).mono ?_); rintro e wx ⟨rfl, hx⟩; have al := Lib.hid ((Al.new hb0.out).call hx); clear hx)
      | (go_at_call 24; (with_reducible refine (K1.out _ hb0.out).mono ?_); rintro e wx ⟨rfl, hx⟩; have hb0 := Lib.hid (hb0.out.trans (hx.mono hb0.out.size)); clear hx)
      | (go_at_call 23; (with_reducible refine (J1.out _ al.out.bel).mono ?_); rintro e wx ⟨rfl, hx⟩; have al := Lib.hid (al.out.call hx); clear hx)
      | (go_at_call 23; (with_reducible refine (J1.out _ (Al.new hb0.out).bel).mono ?_); rintro e wx ⟨rfl, hx⟩; have al := Lib.hid ((Al.new hb0.out).call hx); clear hx)
      | (go_at_call 23; (with_reducible refine (J1.out _ hb0.out).mono ?_); rintro e wx ⟨rfl, hx⟩; have hb0 := Lib.hid (hb0.out.trans (hx.mono hb0.out.size)); clear hx)
      | (go_at_call 21; (with_reducible refine (E1.out _ al.out.bel).mono ?_); rintro e wx ⟨rfl, hx⟩; have al := Lib.hid (al.out.call hx); clear hx; have hth := al.out.2.2.2)
      | (go_at_call 21; (with_reducible refine (E1.out _ (Al.new hb0.out).bel).mono ?_); rintro e wx ⟨rfl, hx⟩; have al := Lib.hid ((Al.new hb0.out).call hx); clear hx; have hth := al.out.2.2.2)
      | (go_at_call 21; (with_reducible refine (E1.out _ hb0.out).mono ?_); rintro e wx ⟨rfl, hx⟩; have hb0 := Lib.hid (hb0.out.trans (hx.mono hb0.out.size)); clear hx; have hth := (Al.new hb0.out).2.2.2))
  all_goals
    go_wp2
    first
      | have AL := al
      | have AL := Lib.hid (Al.new hb0.out)
    obtain ⟨y, B6, hy, hB6, HY⟩ := AL.out.done O1 o5
    have HY := Lib.hid (show y.rangeAt B6 0 O1 ∧ B6 < y.heap.size ∧ Below w.heap.size w y ∧ u.heap.size ≤ y.heap.size ∧ Below u.heap.size u y from ⟨HY.1, HY.2.1, wb0.out y HY.2.2, HY.2.2.size, HY.2.2⟩)
    rw [← hy, ← hB6]
    clear hy hB6 AL hb0
    have HD2 := Lib.hid (show ∀ W : World, Below y.heap.size y W → F12 W 0 B5 B4 Hs CS from fun W hW => HD.out W (HY.out.2.2.2.2.trans (hW.mono HY.out.2.2.2.1)))
    have h54 : B5 ≠ B4 := by have := HB.out; omega
    have hg4 : 0 ≠ B4 := by have := HB.out; omega
    go_region_held3 (fun W => W.cell? ⟨0, 0, none⟩ = some (.int .u32 (iu Hs.a)) ∧ W.cell? ⟨0, 1, none⟩ = some (.int .u32 (iu Hs.b)) ∧ W.cell? ⟨0, 2, none⟩ = some (.int .u32 (iu Hs.c)) ∧ W.cell? ⟨0, 3, none⟩ = some (.int .u32 (iu Hs.d)) ∧ W.cell? ⟨0, 4, none⟩ = some (.int .u32 (iu Hs.e)) ∧ W.cell? ⟨0, 5, none⟩ = some (.int .u32 (iu Hs.f)) ∧ W.cell? ⟨0, 6, none⟩ = some (.int .u32 (iu Hs.g)) ∧ W.cell? ⟨0, 7, none⟩ = some (.int .u32 (iu Hs.h)) ∧ W.rangeAt B5 0 CS ∧ W.there B4 0 32)
      (first
        | (with_reducible exact F12.un (HD2.out _ hc.out))
        | (with_reducible exact F12.un (HD2.out _ hb.out))
        | (with_reducible exact F12.un (HD2.out _ ha.out))
        | (with_reducible exact F12.un ((HD2.out _ hc.out).set hg4 h54 _))
        | (exact F12.un (HD2.out y.drew (Below.refl _ _).drew))
        | fail)
      (first
        | (go_at_call 24; (with_reducible refine (K2.out _).mono ?_); rintro e wa ⟨rfl, ha⟩; have ha := Lib.hid (show Below y.heap.size y wa from below_of_drew ha))
        | (go_at_call 23; (refine (J2.out _ (hV.out.below (HY.out.2.2.1.trans (ha.out.mono HY.out.2.2.1.size))).1).mono ?_); rintro e wb ⟨rfl, hb⟩; have hb := Lib.hid (ha.out.trans (hb.mono ha.out.size)))
        | (go_at_call 21; (with_reducible refine (E2.out _ _ (HY.out.2.2.1.trans (hb.out.mono HY.out.2.2.1.size)) (range_below HY.out.1 HY.out.2.1 hb.out) (Nat.lt_of_lt_of_le HY.out.2.1 hb.out.size)).mono ?_); rintro e wc ⟨rfl, hc⟩; have hc := Lib.hid (hb.out.trans (hc.mono hb.out.size))))
    go_wp2
    (try simp only [Exit.inBlock, Exit.then])
    have hth : wc.there B4 0 O2.length := by rw [o6]; exact (HD2.out _ hc.out).2.2.2.2.2.2.2.2.2
    refine bodyPost_ret (results_cell_mid rfl _ _ B4 O2 _ rfl (World.rangeAt_setCells_same wc B4 0 O2 hth) o7 rfl o4) rfl ?_
    refine ⟨by rw [HO.out], ?_⟩
    exact below_setCells (show w.heap.size ≤ B4 by have := HB.out; omega) O2 0 wc (HY.out.2.2.1.trans (hc.out.mono HY.out.2.2.1.size))
end Go.Proofs.YtjlmhpokamdkhaaDoor
