/- Sums: the document's numbers turned; what is put behind a list. -/
import Derived.Test.YtjlmhpokamdkhaaDoorShX
namespace Go.Proofs.YtjlmhpokamdkhaaDoor
open Go Go.Proofs Go.RowKit Go.Shelf

attribute [local go_sem] Oper.semAt_some
set_option maxRecDepth 100000
set_option maxHeartbeats 2000000 in
theorem round2 (x : UInt32) (w : World) : Calls Tryd.prog 35 #[.int .u32 (iu x), .int .u64 2] w fun e w' => e = .returned (.int .u32 (iu (Sh.R x 2))) ∧ w = w' := by
  have h1 : IntKind.u64.wrap (32 - 2) = 30 := by decide +kernel
  have h2 : IntKind.u32.wrap (iu x * 2 ^ 30) = iu (x <<< UInt32.ofNat 30) := iu_shl x 30 (by decide)
  have h3 : iu x / 2 ^ 2 = iu (x >>> UInt32.ofNat 2) := iu_shr x 2 (by decide)
  simp only [Int.reducePow] at h2 h3
  go_enter Tryd.func35, Tryd.ntmps35
  go_wp2
  go_ret
  exact ⟨ret_u32 ((iu_or _ _).trans (by rw [UInt32.or_comm]; rfl)), rfl⟩
set_option maxHeartbeats 2000000 in
theorem round6 (x : UInt32) (w : World) : Calls Tryd.prog 35 #[.int .u32 (iu x), .int .u64 6] w fun e w' => e = .returned (.int .u32 (iu (Sh.R x 6))) ∧ w = w' := by
  have h1 : IntKind.u64.wrap (32 - 6) = 26 := by decide +kernel
  have h2 : IntKind.u32.wrap (iu x * 2 ^ 26) = iu (x <<< UInt32.ofNat 26) := iu_shl x 26 (by decide)
  have h3 : iu x / 2 ^ 6 = iu (x >>> UInt32.ofNat 6) := iu_shr x 6 (by decide)
  simp only [Int.reducePow] at h2 h3
  go_enter Tryd.func35, Tryd.ntmps35
  go_wp2
  go_ret
  exact ⟨ret_u32 ((iu_or _ _).trans (by rw [UInt32.or_comm]; rfl)), rfl⟩
set_option maxHeartbeats 2000000 in
theorem round7 (x : UInt32) (w : World) : Calls Tryd.prog 35 #[.int .u32 (iu x), .int .u64 7] w fun e w' => e = .returned (.int .u32 (iu (Sh.R x 7))) ∧ w = w' := by
  have h1 : IntKind.u64.wrap (32 - 7) = 25 := by decide +kernel
  have h2 : IntKind.u32.wrap (iu x * 2 ^ 25) = iu (x <<< UInt32.ofNat 25) := iu_shl x 25 (by decide)
  have h3 : iu x / 2 ^ 7 = iu (x >>> UInt32.ofNat 7) := iu_shr x 7 (by decide)
  simp only [Int.reducePow] at h2 h3
  go_enter Tryd.func35, Tryd.ntmps35
  go_wp2
  go_ret
  exact ⟨ret_u32 ((iu_or _ _).trans (by rw [UInt32.or_comm]; rfl)), rfl⟩
set_option maxHeartbeats 2000000 in
theorem round11 (x : UInt32) (w : World) : Calls Tryd.prog 35 #[.int .u32 (iu x), .int .u64 11] w fun e w' => e = .returned (.int .u32 (iu (Sh.R x 11))) ∧ w = w' := by
  have h1 : IntKind.u64.wrap (32 - 11) = 21 := by decide +kernel
  have h2 : IntKind.u32.wrap (iu x * 2 ^ 21) = iu (x <<< UInt32.ofNat 21) := iu_shl x 21 (by decide)
  have h3 : iu x / 2 ^ 11 = iu (x >>> UInt32.ofNat 11) := iu_shr x 11 (by decide)
  simp only [Int.reducePow] at h2 h3
  go_enter Tryd.func35, Tryd.ntmps35
  go_wp2
  go_ret
  exact ⟨ret_u32 ((iu_or _ _).trans (by rw [UInt32.or_comm]; rfl)), rfl⟩
set_option maxHeartbeats 2000000 in
theorem round13 (x : UInt32) (w : World) : Calls Tryd.prog 35 #[.int .u32 (iu x), .int .u64 13] w fun e w' => e = .returned (.int .u32 (iu (Sh.R x 13))) ∧ w = w' := by
  have h1 : IntKind.u64.wrap (32 - 13) = 19 := by decide +kernel
  have h2 : IntKind.u32.wrap (iu x * 2 ^ 19) = iu (x <<< UInt32.ofNat 19) := iu_shl x 19 (by decide)
  have h3 : iu x / 2 ^ 13 = iu (x >>> UInt32.ofNat 13) := iu_shr x 13 (by decide)
  simp only [Int.reducePow] at h2 h3
  go_enter Tryd.func35, Tryd.ntmps35
  go_wp2
  go_ret
  exact ⟨ret_u32 ((iu_or _ _).trans (by rw [UInt32.or_comm]; rfl)), rfl⟩
set_option maxHeartbeats 2000000 in
theorem round17 (x : UInt32) (w : World) : Calls Tryd.prog 35 #[.int .u32 (iu x), .int .u64 17] w fun e w' => e = .returned (.int .u32 (iu (Sh.R x 17))) ∧ w = w' := by
  have h1 : IntKind.u64.wrap (32 - 17) = 15 := by decide +kernel
  have h2 : IntKind.u32.wrap (iu x * 2 ^ 15) = iu (x <<< UInt32.ofNat 15) := iu_shl x 15 (by decide)
  have h3 : iu x / 2 ^ 17 = iu (x >>> UInt32.ofNat 17) := iu_shr x 17 (by decide)
  simp only [Int.reducePow] at h2 h3
  go_enter Tryd.func35, Tryd.ntmps35
  go_wp2
  go_ret
  exact ⟨ret_u32 ((iu_or _ _).trans (by rw [UInt32.or_comm]; rfl)), rfl⟩
set_option maxHeartbeats 2000000 in
theorem round18 (x : UInt32) (w : World) : Calls Tryd.prog 35 #[.int .u32 (iu x), .int .u64 18] w fun e w' => e = .returned (.int .u32 (iu (Sh.R x 18))) ∧ w = w' := by
  have h1 : IntKind.u64.wrap (32 - 18) = 14 := by decide +kernel
  have h2 : IntKind.u32.wrap (iu x * 2 ^ 14) = iu (x <<< UInt32.ofNat 14) := iu_shl x 14 (by decide)
  have h3 : iu x / 2 ^ 18 = iu (x >>> UInt32.ofNat 18) := iu_shr x 18 (by decide)
  simp only [Int.reducePow] at h2 h3
  go_enter Tryd.func35, Tryd.ntmps35
  go_wp2
  go_ret
  exact ⟨ret_u32 ((iu_or _ _).trans (by rw [UInt32.or_comm]; rfl)), rfl⟩
set_option maxHeartbeats 2000000 in
theorem round19 (x : UInt32) (w : World) : Calls Tryd.prog 35 #[.int .u32 (iu x), .int .u64 19] w fun e w' => e = .returned (.int .u32 (iu (Sh.R x 19))) ∧ w = w' := by
  have h1 : IntKind.u64.wrap (32 - 19) = 13 := by decide +kernel
  have h2 : IntKind.u32.wrap (iu x * 2 ^ 13) = iu (x <<< UInt32.ofNat 13) := iu_shl x 13 (by decide)
  have h3 : iu x / 2 ^ 19 = iu (x >>> UInt32.ofNat 19) := iu_shr x 19 (by decide)
  simp only [Int.reducePow] at h2 h3
  go_enter Tryd.func35, Tryd.ntmps35
  go_wp2
  go_ret
  exact ⟨ret_u32 ((iu_or _ _).trans (by rw [UInt32.or_comm]; rfl)), rfl⟩
set_option maxHeartbeats 2000000 in
theorem round22 (x : UInt32) (w : World) : Calls Tryd.prog 35 #[.int .u32 (iu x), .int .u64 22] w fun e w' => e = .returned (.int .u32 (iu (Sh.R x 22))) ∧ w = w' := by
  have h1 : IntKind.u64.wrap (32 - 22) = 10 := by decide +kernel
  have h2 : IntKind.u32.wrap (iu x * 2 ^ 10) = iu (x <<< UInt32.ofNat 10) := iu_shl x 10 (by decide)
  have h3 : iu x / 2 ^ 22 = iu (x >>> UInt32.ofNat 22) := iu_shr x 22 (by decide)
  simp only [Int.reducePow] at h2 h3
  go_enter Tryd.func35, Tryd.ntmps35
  go_wp2
  go_ret
  exact ⟨ret_u32 ((iu_or _ _).trans (by rw [UInt32.or_comm]; rfl)), rfl⟩
set_option maxHeartbeats 2000000 in
theorem round25 (x : UInt32) (w : World) : Calls Tryd.prog 35 #[.int .u32 (iu x), .int .u64 25] w fun e w' => e = .returned (.int .u32 (iu (Sh.R x 25))) ∧ w = w' := by
  have h1 : IntKind.u64.wrap (32 - 25) = 7 := by decide +kernel
  have h2 : IntKind.u32.wrap (iu x * 2 ^ 7) = iu (x <<< UInt32.ofNat 7) := iu_shl x 7 (by decide)
  have h3 : iu x / 2 ^ 25 = iu (x >>> UInt32.ofNat 25) := iu_shr x 25 (by decide)
  simp only [Int.reducePow] at h2 h3
  go_enter Tryd.func35, Tryd.ntmps35
  go_wp2
  go_ret
  exact ⟨ret_u32 ((iu_or _ _).trans (by rw [UInt32.or_comm]; rfl)), rfl⟩

theorem info_u32' : (Tryd.prog.info? 40).map (fun i => (i.zero, i.size, i.bytes)) = some (some (.int .u32 0), 1, 4) := by kernel_rfl
theorem one_uv' (l : List UInt32) : ∀ v ∈ l.map uv, v.oneCell' = true := by simp [uv, Value.oneCell']

/-- the slice v owns the list l, in a block behind base -/
def OwnU (W : World) (base : Nat) (v : Value) (l : List UInt32) : Prop := W.ownsRow base 40 1 v l.length (l.map uv)
theorem OwnU.nil (W : World) (base : Nat) : OwnU W base (.slice none 0 0) [] := World.ownsRow_nil W base 40 1
theorem OwnU.form {W : World} {base : Nat} {v : Value} {l : List UInt32} (h : OwnU W base v l) (hl : 0 < l.length) : ∃ g cap, v = .slice (some ⟨g, 0, none⟩) l.length cap ∧ base ≤ g ∧ g < W.heap.size := by
  rcases h.2 with ⟨_, h0⟩ | ⟨g, cap, cur, e, hb, hg, _⟩
  · omega
  · exact ⟨g, cap, e, hb, (Array.getElem?_eq_some_iff.1 hg).1⟩
theorem OwnU.cell {W : World} {base g n cap : Nat} {l : List UInt32} (h : OwnU W base (.slice (some ⟨g, 0, none⟩) n cap) l) (j : Nat) (hj : j < l.length) : W.cell? ⟨g, j, none⟩ = some (.int .u32 (iu (l.getD j 0))) := by
  have := World.ownsRow.cells h (g := g) rfl j (.int .u32 (iu (l.getD j 0))) (getD_some32 hj)
  rw [Addr.add_lit, Nat.zero_add] at this
  exact this
theorem OwnU.below {W W' : World} {base : Nat} {v : Value} {l : List UInt32} (h : OwnU W base v l) (hb : Below W.heap.size W W') : OwnU W' base v l := by
  refine ⟨h.1, ?_⟩
  rcases h.2 with h | ⟨g, cap, cur, e, hg, hgb, r⟩
  · exact .inl h
  · exact .inr ⟨g, cap, cur, e, hg, (hb.block g (Array.getElem?_eq_some_iff.1 hgb).1).trans hgb, r⟩
theorem OwnU.grown {W W' : World} {base : Nat} {v : Value} {l : List UInt32} {row : Option Nat} (h : OwnU W base v l) (hg : W.grownBy W' row) (hne : v = .slice none 0 0 ∨ v.ownBlock ≠ row) : OwnU W' base v l := by
  refine ⟨h.1, ?_⟩
  rcases h.2 with h | ⟨g, cap, cur, e, hb, hgb, r⟩
  · exact .inl h
  · refine .inr ⟨g, cap, cur, e, hb, (hg.block g (Array.getElem?_eq_some_iff.1 hgb).1 ?_).trans hgb, r⟩
    rcases hne with h | h
    · rw [e] at h; cases h
    · rw [e] at h; simpa [Value.ownBlock] using h
theorem OwnU.bel {w W W' : World} {v : Value} {l : List UInt32} (hb : Below w.heap.size w W) (hO : OwnU W w.heap.size v l) (hg : W.grownBy W' v.ownBlock) : Below w.heap.size w W' :=
  hb.grown hg hb.size fun k e => ((World.ownsRow.lt hO) k e).1
/-- one more behind it -/
theorem app_u {w W V : World} {v : Value} {l : List UInt32} (x : UInt32) (hb : Below w.heap.size w W) (hO : OwnU W w.heap.size v l) (hl : l.length ≤ 1000000) (hV : V.heap = (W.alloc (.cells #[.int .u32 (iu x)] 40)).heap) (ho : V.os = W.os) (ht : V.tape = W.tape) (hp : V.output = W.output) :
    ∃ g cap W', (Builtin.append_ #[49, 49] 49 #[v, .slice (some ⟨W.heap.size, 0, none⟩) 1 1]).run Tryd.prog V = .ok (.slice (some ⟨g, 0, none⟩) (l.length + 1) cap) W' ∧ OwnU W' w.heap.size (.slice (some ⟨g, 0, none⟩) (l.length + 1) cap) (l ++ [x]) ∧ Below w.heap.size w W' ∧ W.grownBy W' v.ownBlock ∧ ∀ gb, v.ownBlock = some gb → ∀ j, j < l.length → W'.cell? ⟨gb, j, none⟩ = some (.int .u32 (iu (l.getD j 0))) := by
  obtain ⟨i0, hi0, hz0, hz1, hz2⟩ := info_parts info_u32'
  have hgV : W.grownBy V none := ⟨ho, ht, hp, by rw [hV]; simp, fun k hk _ => by rw [hV]; exact Below.heap_alloc W _ k hk⟩
  have hOV : OwnU V w.heap.size v l := hO.grown hgV (by
    rcases hO.2 with ⟨h, _⟩ | ⟨g, cap, cur, e, _⟩
    · exact .inl h
    · right; rw [e]; simp [Value.ownBlock])
  have hnews : ∀ j u, ([x].map uv)[j]? = some u → V.cell? ((⟨W.heap.size, 0, none⟩ : Addr).add j) = some u := by
    intro j u hu
    have hr : Row V W.heap.size 40 ([x].map uv) := by
      unfold Row; rw [hV]; exact Row.new W 40 ([x].map uv)
    rw [Addr.add_lit]
    exact hr.cell' j u hu
  obtain ⟨v', W', hr, ho', hg, _⟩ := run_append_own (P := Tryd.prog) V w.heap.size 49 49 40 i0 (.int .u32 0) 1 4 Tryd.underlying49 hi0 hz0 hz1 hz2 rfl (by omega) v l.length (l.map uv) hOV ⟨W.heap.size, 0, none⟩ 1 1 ([x].map uv) (by simp) hnews (one_uv' _) (small_max (by omega)) (by omega) (by rw [hV]; simp; have := hb.size; omega)
  have hkeep : ∀ gb, v.ownBlock = some gb → ∀ j, j < l.length → W'.cell? ⟨gb, j, none⟩ = some (.int .u32 (iu (l.getD j 0))) := by
    intro gb hgb j hj
    rcases hOV.2 with ⟨e, h0⟩ | ⟨g, cap, cur, e, hbg, hgc, hnc, hcm, hcs, hct⟩
    · omega
    · subst e
      obtain rfl : g = gb := by simpa [Value.ownBlock] using hgb
      have hc : V.cell? ⟨g, j, none⟩ = some (.int .u32 (iu (l.getD j 0))) := OwnU.cell hOV j hj
      by_cases hroom : l.length + 1 ≤ cap
      · have hr2 := run_append_room (P := Tryd.prog) V 49 49 40 i0 Tryd.underlying49 hi0 g l.length cap cur hgc ⟨W.heap.size, 0, none⟩ 1 1 ([x].map uv) (by rw [hz1]; simp) hnews (one_uv' _) hroom (by rw [hz1]; simp; omega)
        rw [hr2] at hr
        injection hr with _ hW
        rw [← hW, hz1]
        have hrow := Row.setRow (show Row V g 40 cur.toList from by unfold Row; rw [Array.toArray_toList]; exact hgc) (cur.toList.take (l.length * 1) ++ [x].map uv ++ cur.toList.drop (l.length * 1 + ([x].map uv).length))
        refine hrow.cell j _ ?_
        rw [List.append_assoc, List.getElem?_append_left (by simp; omega), hct]
        exact getD_some32 hj
      · have hr2 := run_append_grow (P := Tryd.prog) V 49 49 40 i0 (.int .u32 0) Tryd.underlying49 hi0 hz0 ⟨g, 0, none⟩ l.length cap (l.map uv) (by rw [hz1]; simp) (World.ownsRow.cells hOV (g := g) rfl) ⟨W.heap.size, 0, none⟩ 1 1 ([x].map uv) (by rw [hz1]; simp) hnews (by omega) (by omega) (by rw [hz2]; exact growslice_fits (by omega) (by omega))
        rw [hr2] at hr
        injection hr with _ hW
        rw [← hW]
        exact al_cell _ hc (show g < V.drew.heap.size from (Array.getElem?_eq_some_iff.1 hgc).1)
  have hO2 : OwnU W' w.heap.size v' (l ++ [x]) := by
    unfold OwnU
    rw [List.length_append, List.map_append]
    exact ho'
  obtain ⟨g, cap, rfl, _, _⟩ := hO2.form (by simp)
  have hl1 : (l ++ [x]).length = l.length + 1 := by simp
  rw [hl1] at hr hO2
  have hgW : W.grownBy W' v.ownBlock := ⟨hg.os.trans ho, hg.tape.trans ht, hg.output.trans hp, Nat.le_trans hgV.size hg.size, fun k hk hne => (hg.block k (Nat.lt_of_lt_of_le hk hgV.size) hne).trans (hgV.block k hk (by simp))⟩
  exact ⟨g, cap, W', hr, hO2, OwnU.bel hb hO hgW, hgW, hkeep⟩

/-- the slice v owns the list l, in a block behind base -/
def OwnB' (W : World) (base : Nat) (v : Value) (l : List UInt8) : Prop := W.ownsRow base 5 1 v l.length (l.map bv)
theorem OwnB'.nil (W : World) (base : Nat) : OwnB' W base (.slice none 0 0) [] := World.ownsRow_nil W base 5 1
theorem OwnB'.form {W : World} {base : Nat} {v : Value} {l : List UInt8} (h : OwnB' W base v l) (hl : 0 < l.length) : ∃ g cap, v = .slice (some ⟨g, 0, none⟩) l.length cap ∧ base ≤ g ∧ g < W.heap.size := by
  rcases h.2 with ⟨_, h0⟩ | ⟨g, cap, cur, e, hb, hg, _⟩
  · omega
  · exact ⟨g, cap, e, hb, (Array.getElem?_eq_some_iff.1 hg).1⟩
theorem OwnB'.cell {W : World} {base g n cap : Nat} {l : List UInt8} (h : OwnB' W base (.slice (some ⟨g, 0, none⟩) n cap) l) (j : Nat) (hj : j < l.length) : W.cell? ⟨g, j, none⟩ = some (.int .u8 (ib (l.getD j 0))) := by
  have := World.ownsRow.cells h (g := g) rfl j (.int .u8 (ib (l.getD j 0))) (getD_some hj)
  rw [Addr.add_lit, Nat.zero_add] at this
  exact this
theorem OwnB'.below {W W' : World} {base : Nat} {v : Value} {l : List UInt8} (h : OwnB' W base v l) (hb : Below W.heap.size W W') : OwnB' W' base v l := by
  refine ⟨h.1, ?_⟩
  rcases h.2 with h | ⟨g, cap, cur, e, hg, hgb, r⟩
  · exact .inl h
  · exact .inr ⟨g, cap, cur, e, hg, (hb.block g (Array.getElem?_eq_some_iff.1 hgb).1).trans hgb, r⟩
theorem OwnB'.grown {W W' : World} {base : Nat} {v : Value} {l : List UInt8} {row : Option Nat} (h : OwnB' W base v l) (hg : W.grownBy W' row) (hne : v = .slice none 0 0 ∨ v.ownBlock ≠ row) : OwnB' W' base v l := by
  refine ⟨h.1, ?_⟩
  rcases h.2 with h | ⟨g, cap, cur, e, hb, hgb, r⟩
  · exact .inl h
  · refine .inr ⟨g, cap, cur, e, hb, (hg.block g (Array.getElem?_eq_some_iff.1 hgb).1 ?_).trans hgb, r⟩
    rcases hne with h | h
    · rw [e] at h; cases h
    · rw [e] at h; simpa [Value.ownBlock] using h
theorem OwnB'.bel {w W W' : World} {v : Value} {l : List UInt8} (hb : Below w.heap.size w W) (hO : OwnB' W w.heap.size v l) (hg : W.grownBy W' v.ownBlock) : Below w.heap.size w W' :=
  hb.grown hg hb.size fun k e => ((World.ownsRow.lt hO) k e).1
/-- one more behind it -/
theorem app_b {w W V : World} {v : Value} {l : List UInt8} (x : UInt8) (hb : Below w.heap.size w W) (hO : OwnB' W w.heap.size v l) (hl : l.length ≤ 1000000) (hV : V.heap = (W.alloc (.cells #[.int .u8 (ib x)] 5)).heap) (ho : V.os = W.os) (ht : V.tape = W.tape) (hp : V.output = W.output) :
    ∃ g cap W', (Builtin.append_ #[22, 22] 22 #[v, .slice (some ⟨W.heap.size, 0, none⟩) 1 1]).run Tryd.prog V = .ok (.slice (some ⟨g, 0, none⟩) (l.length + 1) cap) W' ∧ OwnB' W' w.heap.size (.slice (some ⟨g, 0, none⟩) (l.length + 1) cap) (l ++ [x]) ∧ Below w.heap.size w W' ∧ W.grownBy W' v.ownBlock ∧ ∀ gb, v.ownBlock = some gb → ∀ j, j < l.length → W'.cell? ⟨gb, j, none⟩ = some (.int .u8 (ib (l.getD j 0))) := by
  obtain ⟨i0, hi0, hz0, hz1, hz2⟩ := info_parts info_u8'
  have hgV : W.grownBy V none := ⟨ho, ht, hp, by rw [hV]; simp, fun k hk _ => by rw [hV]; exact Below.heap_alloc W _ k hk⟩
  have hOV : OwnB' V w.heap.size v l := hO.grown hgV (by
    rcases hO.2 with ⟨h, _⟩ | ⟨g, cap, cur, e, _⟩
    · exact .inl h
    · right; rw [e]; simp [Value.ownBlock])
  have hnews : ∀ j u, ([x].map bv)[j]? = some u → V.cell? ((⟨W.heap.size, 0, none⟩ : Addr).add j) = some u := by
    intro j u hu
    have hr : Row V W.heap.size 5 ([x].map bv) := by
      unfold Row; rw [hV]; exact Row.new W 5 ([x].map bv)
    rw [Addr.add_lit]
    exact hr.cell' j u hu
  obtain ⟨v', W', hr, ho', hg, _⟩ := run_append_own (P := Tryd.prog) V w.heap.size 22 22 5 i0 (.int .u8 0) 1 1 Tryd.underlying22 hi0 hz0 hz1 hz2 rfl (by omega) v l.length (l.map bv) hOV ⟨W.heap.size, 0, none⟩ 1 1 ([x].map bv) (by simp) hnews (one_bv' _) (small_max (by omega)) (by omega) (by rw [hV]; simp; have := hb.size; omega)
  have hkeep : ∀ gb, v.ownBlock = some gb → ∀ j, j < l.length → W'.cell? ⟨gb, j, none⟩ = some (.int .u8 (ib (l.getD j 0))) := by
    intro gb hgb j hj
    rcases hOV.2 with ⟨e, h0⟩ | ⟨g, cap, cur, e, hbg, hgc, hnc, hcm, hcs, hct⟩
    · omega
    · subst e
      obtain rfl : g = gb := by simpa [Value.ownBlock] using hgb
      have hc : V.cell? ⟨g, j, none⟩ = some (.int .u8 (ib (l.getD j 0))) := OwnB'.cell hOV j hj
      by_cases hroom : l.length + 1 ≤ cap
      · have hr2 := run_append_room (P := Tryd.prog) V 22 22 5 i0 Tryd.underlying22 hi0 g l.length cap cur hgc ⟨W.heap.size, 0, none⟩ 1 1 ([x].map bv) (by rw [hz1]; simp) hnews (one_bv' _) hroom (by rw [hz1]; simp; omega)
        rw [hr2] at hr
        injection hr with _ hW
        rw [← hW, hz1]
        have hrow := Row.setRow (show Row V g 5 cur.toList from by unfold Row; rw [Array.toArray_toList]; exact hgc) (cur.toList.take (l.length * 1) ++ [x].map bv ++ cur.toList.drop (l.length * 1 + ([x].map bv).length))
        refine hrow.cell j _ ?_
        rw [List.append_assoc, List.getElem?_append_left (by simp; omega), hct]
        exact getD_some hj
      · have hr2 := run_append_grow (P := Tryd.prog) V 22 22 5 i0 (.int .u8 0) Tryd.underlying22 hi0 hz0 ⟨g, 0, none⟩ l.length cap (l.map bv) (by rw [hz1]; simp) (World.ownsRow.cells hOV (g := g) rfl) ⟨W.heap.size, 0, none⟩ 1 1 ([x].map bv) (by rw [hz1]; simp) hnews (by omega) (by omega) (by rw [hz2]; exact growslice_fits (by omega) (by omega))
        rw [hr2] at hr
        injection hr with _ hW
        rw [← hW]
        exact al_cell _ hc (show g < V.drew.heap.size from (Array.getElem?_eq_some_iff.1 hgc).1)
  have hO2 : OwnB' W' w.heap.size v' (l ++ [x]) := by
    unfold OwnB'
    rw [List.length_append, List.map_append]
    exact ho'
  obtain ⟨g, cap, rfl, _, _⟩ := hO2.form (by simp)
  have hl1 : (l ++ [x]).length = l.length + 1 := by simp
  rw [hl1] at hr hO2
  have hgW : W.grownBy W' v.ownBlock := ⟨hg.os.trans ho, hg.tape.trans ht, hg.output.trans hp, Nat.le_trans hgV.size hg.size, fun k hk hne => (hg.block k (Nat.lt_of_lt_of_le hk hgV.size) hne).trans (hgV.block k hk (by simp))⟩
  exact ⟨g, cap, W', hr, hO2, OwnB'.bel hb hO hgW, hgW, hkeep⟩
end Go.Proofs.YtjlmhpokamdkhaaDoor
