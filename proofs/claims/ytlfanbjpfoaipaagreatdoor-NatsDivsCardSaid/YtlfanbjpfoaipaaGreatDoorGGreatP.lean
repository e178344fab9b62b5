/- The closure is made; Text. Text: a number's digits, the highest first. A text's number: is it digits, and its number, digit by digit. Parse: what a text's number is, or why there is none. Numbers' lengths; the contracts of Add, Mul, SameNat, Check with their slices in their form. The document's answer: the small functions. The contracts once more, of numbers given by their digits: what a law's walk asks. The document's answer: the order and the sum of two great numbers, by hand. A book of slices of parts: what it holds, and memory of its own. A number copied, with room behind, as memory of its own; and looked at again. The document's answer: the order of two great numbers, by hand. The document's answer: a number copied, and the difference of two great numbers, by hand. The document's answer: the difference of two great numbers, by hand: the walk. The document's answer: the product of two great numbers, by hand. A book: its marks, and what it is told. A book's lists of parts are filled with marks. A book's lists of parts are grown. A book's lists of parts are grown: the walk. A book's lists of parts are looked at. A book's other lists, which are empty: their calls answer at once. A book's lists of parts lie apart: its last call. Whether one of some numbers has more than 300 parts; whether a text is longer than is gone through. -/
import Derived.Laws.IdiomStrings
import Derived.Lib.ConvBytes
import Derived.Deep.LoopGhost
import Derived.Deep.QuietTactic
import Derived.Laws.OwnMore
import Derived.Laws.Rows
import Derived.OneCell
import Derived.Maps.AppendAt
import Derived.Laws.AppendOwnNone
import Derived.Deep.RegionHeld3
import Derived.Deep.RegionLaw
import Derived.Deep.AppendLies
import Derived.Test.YtlfanbjpfoaipaaGreatDoorGText
import Derived.Test.YtlfanbjpfoaipaaGreatDoorGPart
import Derived.Test.YtlfanbjpfoaipaaGreatDoorLay
import Derived.Test.YtlfanbjpfoaipaaGreatDoorGCmp
namespace Go.Proofs.YtlfanbjpfoaipaaGreatDoor
open Go Go.Proofs Go.RowKit Go.Shelf Nu

theorem Fresh.allocs {W : World} {base : Nat} {v : Value} {l : List Nat} (h : Fresh W base v l) (o : Obj) : Fresh (W.alloc o) base v l :=
  World.ownsRow.kept h (World.grownBy_alloc W o none) (by by_cases e : v.ownBlock = none; exact .inl e; exact .inr e)
theorem Fresh.below_size {W : World} {base : Nat} {v : Value} {l : List Nat} (h : Fresh W base v l) : v.ownBlock = none ∨ ∃ g, v.ownBlock = some g ∧ g < W.heap.size := by
  rcases h.form with ⟨rfl, _⟩ | ⟨g, cap, rfl, _⟩
  · exact .inl rfl
  · obtain ⟨_, hb, _⟩ := h.blk rfl
    exact .inr ⟨g, rfl, hb.lt⟩

theorem maker_inv {W : World} {base : Nat} {v : Value} {L : List Nat} (h : Fresh W base v L) (hs : Sm L) (hc : chk L = true) (hL : L.length ≤ 100000) :
    DigInv (((W.alloc (.cells #[v] 23)).alloc (.cells #[.int .u32 (0 : Nat)] 71)).alloc (.cells #[.int .i64 (0 : Nat)] 3)) base W.heap.size (val L) :=
  ⟨v, L, 0, 0, ((Boxed.new W _ _).alloc _).alloc _, (boxed_new1 W _ _ _).alloc _, boxed_new2 W _ _ _ _, ((h.allocs _).allocs _).allocs _, hs, hc, hL, by decide, by decide, by simp,
    h.below_size.imp id fun ⟨g, h1, h2⟩ => ⟨g, h1, h2⟩⟩
theorem maker_below {w W : World} {B : Nat} (h : Below B w W) (hB : B ≤ W.heap.size) (a b c : Obj) : Below B w (((W.alloc a).alloc b).alloc c) :=
  ((h.alloc hB a).alloc (by rw [World.size_alloc]; omega) b).alloc (by rw [World.size_alloc, World.size_alloc]; omega) c

set_option maxHeartbeats 4000000 in
theorem digits_any {w : World} {v : Value} {L : List Nat} (h : Reads w v L) (hs : Sm L) (hc : chk L = true) (hL : L.length ≤ 100000) :
    Calls Tryz.prog 200 #[v] w fun e w' => ∃ s, w.heap.size ≤ s ∧ e = .returned (.func (.func 222) #[] #[.pointer (some ⟨s + 1 + 1, 0, none⟩), .pointer (some ⟨s, 0, none⟩), .pointer (some ⟨s + 1, 0, none⟩)]) ∧ DigInv w' w.heap.size s (val L) ∧ Below w.heap.size w w' := by
  have kt := clone_any h (by omega)
  obtain ⟨a0, c0, rfl⟩ := h.form
  have hmf : ∀ (fn : Fn) (first cap : Array Value) (w : World), (Instr.makeFunc fn first cap).run Tryz.prog w = .ok (.func fn first cap) w := fun _ _ _ _ => rfl
  have H := Lib.hid h
  clear h
  go_enter Tryz.func200, Tryz.ntmps200
  go_wp2_with (go_at_call 57; refine kt.mono ?_; clear kt; rintro e w' ⟨v', rfl, hF', hB'⟩; obtain ⟨a1, c1, rfl⟩ := hF'.reads.form)
  all_goals
    go_ret
    have hsz : w.heap.size ≤ w'.heap.size := hB'.size
    exact ⟨w'.heap.size, hsz, rfl, maker_inv hF' hs hc hL, maker_below hB' hsz _ _ _⟩

end Go.Proofs.YtlfanbjpfoaipaaGreatDoor

namespace Go.Proofs.YtlfanbjpfoaipaaGreatDoor
open Go Go.Proofs Go.RowKit Go.Shelf Nu

attribute [local go_sem] Oper.semAt_some

def u8v (n : Nat) : Value := .int .u8 (n : Int)

/-- the digits, the lowest first, as bytes -/
def low (V : Nat) : List Nat := (48 + V % 10) :: (if h : V / 10 = 0 then [] else low (V / 10))
termination_by V
decreasing_by omega
theorem low_eq (V : Nat) : low V = (48 + V % 10) :: (if V / 10 != 0 then low (V / 10) else []) := by
  rw [low]
  by_cases h : V / 10 = 0
  · simp [h]
  · simp [h]
theorem low_pos (V : Nat) : 0 < (low V).length := by rw [low]; simp
theorem low_len (V k : Nat) (h : V < 10 ^ (k + 1)) : (low V).length ≤ k + 1 := by
  induction k generalizing V with
  | zero =>
    have : V / 10 = 0 := by simp at h; omega
    rw [low, dif_pos this]; simp
  | succ k ih =>
    rw [low]
    split
    · simp
    · have := ih (V / 10) (by rw [Nat.pow_succ] at h; omega)
      simpa using this
theorem low_len_val {L : List Nat} (hs : Sm L) : (low (val L)).length ≤ 10 * L.length + 1 := by
  refine low_len _ _ (Nat.lt_of_lt_of_le (val_lt hs) ?_)
  calc 4294967296 ^ L.length ≤ (10 ^ 10) ^ L.length := Nat.pow_le_pow_left (by decide) _
    _ = 10 ^ (10 * L.length) := by rw [← Nat.pow_mul]
    _ ≤ 10 ^ (10 * L.length + 1) := Nat.pow_le_pow_right (by decide) (by omega)

theorem info_u8 : (Tryz.prog.info? 5).map (fun i => (i.zero, i.size, i.bytes)) = some (some (.int .u8 0), 1, 1) := by kernel_rfl

theorem DigInv.below {w W : World} {base s V : Nat} (h : DigInv w base s V) (hb : Below (s + 3) w W) : DigInv W base s V := by
  obtain ⟨v, R, low, ready, h1, h2, h3, h4, h5, h6, h7, h8, h9, h10, h11⟩ := h
  refine ⟨v, R, low, ready, below_box hb (by omega) h1, below_box hb (by omega) h2, below_box hb (by omega) h3, ⟨h4.1, ?_⟩, h5, h6, h7, h8, h9, h10, h11⟩
  rcases h4.2 with hn | ⟨g, cap, cur, rfl, hb', hg, rest⟩
  · exact .inl hn
  · have hgs : g < s := by
      rcases h11 with h | ⟨g', h, h'⟩
      · cases h
      · cases h; exact h'
    exact .inr ⟨g, cap, cur, rfl, hb', (hb.block g (by omega)).trans hg, rest⟩

theorem below_append {W w3 : World} {base k n : Nat} {v : Value} {e : TypeId} {xs : List Value} {tmp : Obj} (hrow : W.ownsRow base e k v n xs) (hb : base ≤ W.heap.size) (hgrow : (W.alloc tmp).grownBy w3 v.ownBlock) : Below base W w3 := by
  refine ((Below.refl base W).alloc hb tmp).grown hgrow (by simp; omega) fun j ej => ?_
  rcases hrow.2 with ⟨rfl, _⟩ | ⟨g, cap, cur, rfl, hb', _, _⟩
  · simp [Value.ownBlock] at ej
  · obtain rfl : g = j := by simpa [Value.ownBlock] using ej
    exact hb'

def lenOf : Value → Nat
  | .slice _ n _ => n
  | _ => 0
def boolOf : Value → Bool
  | .bool b => b
  | _ => false

theorem lenOf_row {W : World} {base k n : Nat} {v : Value} {e : TypeId} {xs : List Value} (h : W.ownsRow base e k v n xs) : lenOf v = n := by
  rcases h.2 with ⟨rfl, rfl⟩ | ⟨g, cap, cur, rfl, _⟩ <;> rfl
theorem low_byte {V x : Nat} (h : x ∈ low V) : x < 256 := by
  induction V using Nat.strongRecOn with
  | ind V ih =>
    rw [low] at h
    rcases List.mem_cons.1 h with rfl | h
    · omega
    · split at h
      · cases h
      · exact ih (V / 10) (by omega) h

set_option maxHeartbeats 4000000 in
/-- Text, of any number: one that may not be is as 0 -/
theorem text_gen {w : World} {v : Value} {L : List Nat} (h : Reads w v L) (hs : Sm L) (hL : L.length ≤ 100000) (S : ByteArray) (hS : S = ⟨((low (nv L)).reverse.map UInt8.ofNat).toArray⟩) :
    Calls Tryz.prog 150 #[v] w fun e w' => e = .returned (.string S) ∧ Below w.heap.size w w' := by
  obtain ⟨i0, hi, hz0, hz1, hz2⟩ := info_parts info_u8
  have k1 := flip (orZero_any h (by omega))
  have hO := orzV_reads h
  have hlo := orz_length L
  have kd := digits_any hO (sm_orz hs) (chk_orz L) (by omega)
  have hlen := low_len_val (sm_orz hs)
  rw [val_orz] at kd hlen
  obtain ⟨D, hD⟩ : ∃ D, D = (low (nv L)).length := ⟨_, rfl⟩
  obtain ⟨V, hV⟩ : ∃ V, V = nv L := ⟨_, rfl⟩
  rw [← hV] at hS hD hlen kd
  obtain ⟨a1, c1, e1⟩ := hO.form
  rw [e1] at k1 kd
  have HS := Lib.hid hS
  have HD := Lib.hid hD
  have hD1 : D ≤ 1000001 := by omega
  obtain ⟨a0, c0, rfl⟩ := h.form
  clear h hS hD hlen hV hO e1 hlo
  go_enter Tryz.func150, Tryz.ntmps150
  go_wp2_with (first
    | (go_at_call 53; refine k1.mono ?_; rintro e w' ⟨rfl, rfl⟩)
    | (go_at_call 200; refine kd.mono ?_; rintro e w1 ⟨s, hsw, rfl, hDI, hb1⟩))
  go_loopw [3, 5, 6] (fun v mo _ wr => ∃ (bs : List Nat) (M : Bool) (Vk : Nat), mo = .bool M ∧ wr.ownsRow (s + 3) 5 1 v bs.length (bs.map u8v) ∧ DigInv wr w.heap.size s Vk ∧ Below w.heap.size w wr ∧ Hid (bs ++ (if M then low Vk else []) = low V)) (fun v _ _ _ => D - lenOf v)
  case atStart => exact ⟨[], true, V, rfl, World.ownsRow_nil w1 _ _ 1, hDI, hb1, Lib.hid rfl⟩
  case round =>
    obtain ⟨bs, M, Vk, rfl, hrow, hDk, hbel, hR⟩ := hrel
    have hs3 : s + 3 ≤ wr.heap.size := by
      obtain ⟨_, _, _, _, _, _, h3, _⟩ := hDk
      have := h3.lt
      omega
    cases M with
    | true =>
      have hR2 := hR.out
      have hlt : bs.length < D := by
        have := congrArg List.length hR2
        have := low_pos Vk
        have := HD.out
        simp at *; omega
      rw [if_pos rfl, low_eq Vk] at hR2
      have kn := digits_call hDk hsw
      have HR := Lib.hid hR2
      clear hR2 hR
      obtain ⟨d, hd⟩ : ∃ d, d = 48 + Vk % 10 := ⟨_, rfl⟩
      have hdi : (48 : Int) + (Vk : Int) % 10 = (d : Int) := by omega
      rw [hdi] at kn
      obtain ⟨m, hm⟩ : ∃ m, m = (Vk / 10 != 0) := ⟨_, rfl⟩
      rw [← hm] at kn
      have HM := Lib.hid hm
      have HDG := Lib.hid hd
      have hds : d < 256 := by omega
      clear hm hd hdi
      go_wp2_with (first
        | (go_at_call 222; refine kn.mono ?_; clear kn; rintro e w2 ⟨rfl, hD2, hb2, hov⟩; have hrow2 := hov.row hrow; have hs4 : s + 3 ≤ w2.heap.size := Nat.le_trans hs3 hb2.size)
        | (at_builtin; refine wpList_append_own _ rfl _ _ 130 rfl (s + 3) 5 i0 (.int .u8 0) 1 1 Tryz.underlying130 hi hz0 hz1 hz2 rfl (by decide) _ _ _ rfl (World.ownsRow.alloc hrow2 _) ⟨w2.heap.size, 0, none⟩ 1 1 [_] rfl rfl (one_new _ _ _ _ (by simp)) (by simp [Value.oneCell']) (small_max (by omega)) (by omega) (by simp; omega) ?_; intro v' w3 hown' hgrow _; have hbl3 := below_append hrow2 hs4 hgrow))
      go_roundw
      case rel =>
        refine ⟨bs ++ [d], m, Vk / 10, rfl, ?_, hD2.below hbl3, (hbel.trans hb2).trans (hbl3.mono (by omega)), Lib.hid ?_⟩
        · rw [List.length_append, List.map_append, List.length_singleton, List.map_singleton]
          exact hown'
        · rw [HM.out, HDG.out, List.append_assoc]
          exact HR.out
      case measure =>
        rw [lenOf_row hrow, lenOf_row hown']
        omega
    | false =>
      have hR2 : bs = low V := by simpa using hR.out
      have hne := low_pos V
      rw [← hR2] at hne
      have hDl : bs.length = D := by rw [HD.out, hR2]
      obtain ⟨g, cap, rfl, hg⟩ : ∃ g cap, u3 = .slice (some ⟨g, 0, none⟩) bs.length cap ∧ s + 3 ≤ g := by
        rcases hrow.2 with ⟨_, h⟩ | ⟨g, cap, cur, h, hg, _⟩
        · omega
        · exact ⟨g, cap, h, hg⟩
      have hH : Sort.Holds u8v wr g 0 bs.toArray := fun j hj => by
        have hj' : j < bs.length := by simpa using hj
        have h1 := hrow.cells rfl j (u8v (bs[j])) (by simp [hj'])
        rw [Addr.add_lit] at h1
        refine ⟨?_, by rw [Nat.zero_add]; exact hrow.frozenAt j⟩
        rw [getElem!_pos _ j hj]
        simpa using h1
      have kr : Calls Tryz.prog 201 #[.slice (some ⟨g, 0, none⟩) bs.length cap] wr fun e w' => e = .returned (.tuple #[]) ∧ ∃ n, w' = Sort.putRow u8v (Sort.ahead wr n) g 0 bs.reverse.toArray :=
        AnyE.slices_Reverse YtlfanbjpfoaipaaGreatDoor.revB u8v (fun _ => rfl) g 0 cap bs wr hH (by omega)
      have hconv : ∀ n, (convert 130 9 (.slice (some ⟨g, 0, none⟩) bs.length cap)).run Tryz.prog (Sort.putRow u8v (Sort.ahead wr n) g 0 bs.reverse.toArray) = .ok (.string S) (Sort.putRow u8v (Sort.ahead wr n) g 0 bs.reverse.toArray) := fun n => by
        have hl : bs.length = (bs.reverse.map UInt8.ofNat).length := by simp
        rw [HS.out, ← hR2, hl]
        refine run_convert_bytes_back _ _ _ 5 _ _ _ (by kernel_rfl) (by kernel_rfl) (by kernel_rfl) fun j hj => ?_
        have hj' : j < bs.reverse.length := by simpa using hj
        have hc := Sort.cell?_putRow u8v (Sort.ahead wr n) g 0 bs.toArray bs.reverse.toArray (Sort.holds_ahead _ _ _ _ _ _ hH) (by simp) j (by simpa using hj')
        rw [Addr.add_lit]
        refine hc.trans ?_
        rw [getElem!_pos _ j (by simpa using hj')]
        have hlt : bs.reverse[j] < 256 := low_byte (V := V) (by rw [← hR2]; exact List.mem_reverse.1 (List.getElem_mem hj'))
        simp only [u8v, List.getElem_toArray, List.getElem_map, UInt8.toNat_ofNat', Option.some.injEq, Value.int.injEq, true_and]
        rw [Nat.mod_eq_of_lt hlt]
      have hbw : ∀ n, Below w.heap.size w (Sort.putRow u8v (Sort.ahead wr n) g 0 bs.reverse.toArray) := fun n => hbel.trans ⟨rfl, rfl, rfl, by simp [Sort.ahead], fun k hk => by
        have : g ≠ k := by omega
        simp [Sort.putRow, Sort.mapBlock, Array.getElem?_modify, this, Sort.ahead]⟩
      have HB := Lib.hid hbw
      clear hR2 hbw hH hrow hDk hR hDl hne
      go_wp2_with (go_at_call 201; refine kr.mono ?_; clear kr; rintro e w2 ⟨rfl, n, rfl⟩; have hcv := hconv n)
      go_ret
      exact ⟨rfl, HB.out n⟩
theorem text_any {w : World} {v : Value} {L : List Nat} (h : Reads w v L) (hs : Sm L) (hc : chk L = true) (hL : L.length ≤ 100000) (S : ByteArray) (hS : S = ⟨((low (val L)).reverse.map UInt8.ofNat).toArray⟩) :
    Calls Tryz.prog 150 #[v] w fun e w' => e = .returned (.string S) ∧ Below w.heap.size w w' :=
  text_gen h hs hL S (by rw [nv_chk hc]; exact hS)

end Go.Proofs.YtlfanbjpfoaipaaGreatDoor

namespace Go.Proofs.YtlfanbjpfoaipaaGreatDoor
open Go Go.Proofs Go.RowKit Go.Shelf Nu

attribute [local go_sem] Oper.semAt_some

/-- the byte at a place -/
def bt (s : ByteArray) (j : Nat) : Nat := (s.data.toList.getD j 0).toNat
theorem bt_lt (s : ByteArray) (j : Nat) : bt s j < 256 := (s.data.toList.getD j 0).toNat_lt

theorem bytes_conv (s : ByteArray) (w : World) : ∃ cap BW, (convert 9 130 (.string s)).run Tryz.prog w = .ok (.slice (some ⟨w.heap.size, 0, none⟩) s.size cap) BW ∧ Below w.heap.size w BW ∧ w.heap.size < BW.heap.size ∧ ∀ j, j < s.size → BW.cell? ⟨w.heap.size, j, none⟩ = some (.int .u8 (bt s j : Nat)) := by
  refine ⟨_, _, Lib.run_convert_string_bytes (P := Tryz.prog) (u := .string) w 9 130 5 s (by kernel_rfl) (by kernel_rfl) (by kernel_rfl), ?_, ?_, ?_⟩
  · exact ⟨rfl, rfl, rfl, by rw [Lib.bytesWorld_size]; omega, fun k hk => Lib.bytesWorld_at_old w _ s k hk⟩
  · rw [Lib.bytesWorld_size]; omega
  · intro j hj; exact Lib.bytesWorld_cell w _ s j hj

/-- is it digits, none of them needless? -/
def isNum (s : ByteArray) : Prop := (∀ j, j < s.size → 48 ≤ bt s j ∧ bt s j ≤ 57) ∧ (s.size = 1 ∨ 1 < s.size ∧ bt s 0 ≠ 48)

set_option maxRecDepth 100000 in
set_option maxHeartbeats 2000000 in
theorem isNumber_any (s : ByteArray) (w : World) (hs : s.size ≤ 2000000) (R : Bool) (hR : R = true ↔ isNum s) :
    Calls Tryz.prog 198 #[.string s] w fun e w' => e = .returned (.bool R) ∧ Below w.heap.size w w' := by
  obtain ⟨cap, BW, hconv, hbel, hlt, hcell⟩ := bytes_conv s w
  have HR := Lib.hid hR
  obtain ⟨N, hN⟩ : ∃ N, N = s.size := ⟨_, rfl⟩
  have HN := Lib.hid hN
  have hN1 : N ≤ 2000000 := by omega
  have HB := Lib.hid hbel
  rw [← hN] at hcell hconv
  clear hR hN hbel hs
  go_enter Tryz.func198, Tryz.ntmps198
  go_wp2
  go_loop [4, 8] (fun _ x => ∃ k : Nat, k ≤ N ∧ x = .int .i64 k ∧ Hid (∀ j, j < k → 48 ≤ bt s j ∧ bt s j ≤ 57)) (fun _ x => N - (intOf x).toNat)
  case atStart => exact ⟨0, Nat.zero_le _, rfl, Lib.hid fun j hj => by omega⟩
  case round =>
    obtain ⟨k, hk, rfl, hd⟩ := hrel
    by_cases hlt : k < N
    · have hc := hcell k hlt
      obtain ⟨c, hce⟩ : ∃ c, c = bt s k := ⟨_, rfl⟩
      have hc256 := bt_lt s k
      rw [← hce] at hc hc256
      have HC := Lib.hid hce
      clear hce hcell
      by_cases h1 : c < 48
      · go_wp2
        go_ret
        have : R = false := by
          cases R with
          | false => rfl
          | true => have := (HR.out.1 rfl).1 k (by have := HN.out; omega); have := HC.out; omega
        exact ⟨by rw [this]; rfl, HB.out⟩
      · by_cases h2 : 57 < c
        · go_wp2
          go_ret
          have : R = false := by
            cases R with
            | false => rfl
            | true => have := (HR.out.1 rfl).1 k (by have := HN.out; omega); have := HC.out; omega
          exact ⟨by rw [this]; rfl, HB.out⟩
        · go_wp2
          go_round
          case rel => exact ⟨k + 1, by omega, by simp, Lib.hid fun j hj => by
            by_cases e : j = k
            · subst e; rw [← HC.out]; omega
            · exact hd.out j (by omega)⟩
          case measure => simp [intOf]; omega
    · obtain rfl : k = N := by omega
      clear hcell
      have hn := HN.out
      by_cases s1 : s.size = 1
      · go_wp2
        go_ret
        have : R = true := HR.out.2 ⟨fun j hj => hd.out j (by omega), .inl s1⟩
        exact ⟨by rw [this]; exact ret_bool (by simp), HB.out⟩
      · by_cases s2 : 1 < s.size
        · have s3 : ((s.size : Int) == 1) = false := by simp; omega
          have S1 := Lib.hid s1
          clear s1 hn
          go_wp2
          go_ret
          refine ⟨ret_bool ?_, HB.out⟩
          rw [Bool.eq_iff_iff, HR.out]
          have e : s[0].toNat = bt s 0 := by
            unfold bt
            rw [List.getD_eq_getElem?_getD, List.getElem?_eq_getElem (by simpa using (show 0 < s.size by omega))]
            rfl
          rw [e]
          try simp only [s3, Bool.false_or]
          constructor
          · intro h
            exact ⟨fun j hj => hd.out j (by have := HN.out; omega), .inr ⟨s2, by simp at h; omega⟩⟩
          · rintro ⟨_, h | ⟨_, h⟩⟩
            · exact absurd h S1.out
            · simp; omega
        · go_wp2
          go_ret
          have : R = false := by
            cases R with
            | false => rfl
            | true => rcases (HR.out.1 rfl).2 with h | h <;> omega
          exact ⟨by rw [this]; exact ret_bool (by first | rfl | (simp; omega)), HB.out⟩

/-- what holds between two rounds of timesAnd's loop -/
def AndInv (w : World) (g : Nat) (post : List Value) (l : List Nat) (t m : Nat) (va : Value) (k : Nat) (W : World) : Prop :=
  (∃ (cur : List Nat) (c : Nat), Blk W g [] cur post ∧ cur.length = l.length ∧ Sm cur ∧ c < 4294967296 ∧ cur.drop k = l.drop k ∧ val (cur.take k) + 4294967296 ^ k * c = m + t * val (l.take k) ∧ Boxed W (w.heap.size + 1 + 1) 78 (.int .u64 c)) ∧
  Boxed W w.heap.size 23 va ∧ Boxed W (w.heap.size + 1) 71 (.int .u32 t) ∧ Boxed W (w.heap.size + 1 + 1 + 1) 23 va ∧ w.grownBy W (some g)

theorem and_step {l cur : List Nat} {k c t m : Nat} (hk : k < cur.length) (_hd : cur.drop k = l.drop k) (h : val (cur.take k) + 4294967296 ^ k * c = m + t * val (l.take k)) :
    val ((cur.set k ((c + l.getD k 0 * t) % 4294967296)).take (k + 1)) + 4294967296 ^ (k + 1) * ((c + l.getD k 0 * t) / 4294967296) = m + t * val (l.take (k + 1)) := by
  rw [set_take _ _ _ hk, val_snoc, val_take_succ l, List.length_take, Nat.min_eq_left (Nat.le_of_lt hk), Nat.pow_succ]
  have := Nat.div_add_mod (c + l.getD k 0 * t) 4294967296
  generalize (c + l.getD k 0 * t) / 4294967296 = q at *
  generalize (c + l.getD k 0 * t) % 4294967296 = r at *
  generalize 4294967296 ^ k = P at *
  generalize l.getD k 0 = x at *
  generalize val (cur.take k) = A at *
  generalize val (l.take k) = B at *
  grind

theorem and_bound {c P : Nat} (hc : c < 4294967296) (hP : P ≤ 18446744065119617025) : c + P < 18446744073709551616 ∧ (c + P) / 4294967296 < 4294967296 := by omega

set_option maxRecDepth 100000 in
set_option maxHeartbeats 4000000 in
/-- timesAnd, of what is not nil -/
theorem timesAnd_some {w : World} {base g cap t m : Nat} {l : List Nat} (hF : Fresh w base (.slice (some ⟨g, 0, none⟩) l.length cap) l) (hl : l.length ≤ 100000) (hs : Sm l) (ht : t < 4294967296) (hm : m < 4294967296) :
    Calls Tryz.prog 199 #[.slice (some ⟨g, 0, none⟩) l.length cap, .int .u32 t, .int .u32 m] w fun e w' => ∃ v', e = .returned v' ∧ Fresh w' base v' (digs (t * val l + m)) ∧ Below base w w' := by
  obtain ⟨i0, hi, hz0, hz1, hz2⟩ := info_parts info_u32
  obtain ⟨post, hb, hbg, hpc, hcm⟩ := hF.blk rfl
  have hgw := hb.lt
  have hncap : l.length ≤ cap := by omega
  obtain ⟨n, hn⟩ : ∃ n, n = l.length := ⟨_, rfl⟩
  have HN := Lib.hid hn
  rw [← hn] at hl hncap ⊢
  clear hn hF
  refine (callsIn_wide (n := 0)).1 ?_
  refine callsIn_of_wp_marks Tryz.func199 rfl trivial ?_ rfl
  simp only [Tryz.ntmps199, List.size_toArray, List.length_cons, List.length_nil, Nat.reduceAdd, Nat.reduceSub, Array.replicate_succ, Array.replicate_zero, List.push_toArray, List.append_toArray, List.nil_append, List.cons_append]
  refine wpIn_wide.2 ?_
  go_wp2_with (go_at_call 213; refine (all_any _ _ _ _).mono ?_; rintro e w' ⟨rfl, rfl⟩)
  refine (wpIn_wide (n := 0)).1 ?_
  refine wp_rangeAt (gf := 228) rfl (enters_of Tryz.func228 (by kernel_rfl) rfl)
    (all_iter n g 0 cap (w.heap.size + 1 + 1 + 1) _ (fun j => l.getD j 0) (by omega) (fun _ => rfl)) (fun _ => rfl)
    (AndInv w g post l t m (.slice (some ⟨g, 0, none⟩) n cap)) (fun _ _ => False) ?own (fun _ _ _ _ h _ _ => h) ?reads ?start ?round ?done ?stop
  case own =>
    rintro k W W' r ⟨⟨cur, c, h1, h2, h3, h4, h5, h6, h7⟩, g1, g2, g3, g4⟩ hg hr
    exact ⟨⟨cur, c, h1.keep hg hr, h2, h3, h4, h5, h6, keepBox h7 hg hr⟩, keepBox g1 hg hr, keepBox g2 hg hr, keepBox g3 hg hr, grown_keep g4 (by simp; omega) hg hr⟩
  case reads =>
    rintro k W ⟨⟨cur, c, h1, h2, h3, h4, h5, h6, h7⟩, g1, g2, g3, g4⟩
    refine ⟨g3.cell, fun hk => ?_⟩
    have e := h1.cell (o := 0) rfl k (by have := HN.out; omega)
    rw [getD_of_drop h5 k (Nat.le_refl _)] at e
    exact e
  case start =>
    refine ⟨⟨l, m, (((hb.alloc _).alloc _).alloc _).alloc _, rfl, hs, hm, rfl, by simp [val], (boxed_new2 w _ _ _ _).alloc _⟩, (((Boxed.new w _ _).alloc _).alloc _).alloc _, ((boxed_new1 w _ _ _).alloc _).alloc _, boxed_new3 w _ _ _ _ _, ?_⟩
    exact grown_alloc (grown_alloc (grown_alloc (grown_alloc (grown_refl w _) _) _) _) _
  case round =>
    intro lp k W hk
    have hx := hs.getD k
    obtain ⟨x, hxe⟩ : ∃ x, x = l.getD k 0 := ⟨_, rfl⟩
    dsimp only
    rw [← hxe]
    rw [← hxe] at hx
    have HX := Lib.hid hxe
    clear hxe hb hs
    gi_wp2
    refine NextRound.mk ?_
    rintro W2 ⟨⟨cur, c, h1, h2, h3, h4, h5, h6, h7⟩, g1, g2, g3, g4⟩
    have hkc : k < cur.length := by rw [h2, ← HN.out]; exact hk
    have r1 := h1.cell (o := 0) rfl k hkc
    have r2 := h1.frozen k
    rw [Nat.zero_add] at r1
    obtain ⟨y, hy⟩ : ∃ y, y = cur.getD k 0 := ⟨_, rfl⟩
    rw [← hy] at r1
    clear hy
    obtain ⟨P, hP, HP, hPb⟩ := mul_bound hx ht
    have hcb := and_bound h4 hPb
    have HP' := Lib.hid HP
    have H2 := Lib.hid h2
    have H5 := Lib.hid h5
    have H6 := Lib.hid h6
    have q1 := h7.cell
    have q2 := h7.frozen
    have q3 := g1.cell
    have q4 := g2.cell
    clear h2 h5 h6 HP
    gi_wp2
    have hgS : g ≠ w.heap.size + 1 + 1 := by omega
    refine ⟨(((KeepsOthers.setCell W2 _ _).trans (KeepsOthers.setCell _ _ _)).trans (KeepsOthers.setCell _ _ _)).from _,
      ⟨cur.set k ((c + P) % 4294967296), (c + P) / 4294967296, ?_, ?_, h3.set _ _ (by omega), hcb.2, ?_, ?_, ?_⟩, ?_, ?_, ?_, ?_⟩
    · have e := ((h1.box hgS (.int .u64 ((c : Int) + (P : Int)))).set (o := 0) rfl k ((c + P) % 4294967296) hkc).box hgS (.int .u64 (((c : Int) + (P : Int)) / 4294967296))
      rw [show (((c + P) % 4294967296 : Nat) : Int) = ((c : Int) + (P : Int)) % 4294967296 by omega, Nat.zero_add] at e
      exact e
    · rw [List.length_set]; exact H2.out
    · rw [set_drop]; exact drop_succ_of_drop H5.out
    · have e := and_step hkc H5.out H6.out
      rw [← HX.out, ← HP'.out] at e
      exact e
    · rw [show (((c + P) / 4294967296 : Nat) : Int) = ((c : Int) + (P : Int)) / 4294967296 by omega]
      exact (boxed_row (h7.set _) (by omega) _).set _
    · exact (boxed_row (g1.other (by omega) _) (by omega) _).other (by omega) _
    · exact (boxed_row (g2.other (by omega) _) (by omega) _).other (by omega) _
    · exact (boxed_row (g3.other (by omega) _) (by omega) _).other (by omega) _
    · exact grown_box (grown_setCell (grown_box g4 (by omega) _) _ _) (by omega) _
  case done =>
    rintro D W hD ⟨⟨cur, c, h1, h2, h3, h4, h5, h6, h7⟩, g1, g2, g3, g4⟩ hK
    have hn := HN.out
    rw [List.take_of_length_le (by omega), List.take_of_length_le (by omega)] at h6
    have hcl : cur.length = n := by omega
    have hW := h1.fresh (base := base) (cap := cap) hbg (by omega) hcm
    rw [hcl] at hW
    have q1 := h7.cell
    have q3 := g1.cell
    have hww : w.heap.size ≤ W.heap.size := g4.size
    have H6 := Lib.hid h6
    have HCL := Lib.hid hcl
    have hW' : W.ownsRow base 71 1 (.slice (some ⟨g, 0, none⟩) n cap) n (cur.map u32v) := by unfold Fresh at hW; rw [hcl] at hW; exact hW
    clear h2 h5 h6 hcl hn hb hs
    go_wp2_with (first
      | (at_builtin; go_loud (refine wpList_append_own _ rfl _ _ 23 rfl base 71 i0 (.int .u32 0) 1 4 Tryz.underlying23 hi hz0 hz1 hz2 rfl (by decide) _ _ _ rfl (World.ownsRow.alloc hW' _) ⟨W.heap.size, 0, none⟩ 1 1 [_] rfl rfl (one_new _ _ _ _ (by simp)) (by simp [Value.oneCell']) (small_max (by omega)) (by omega) (by simp; omega) ?_); intro v' w3 hown' hgrow _; obtain ⟨g', cap', rfl⟩ := ownsRow_succ hown'; obtain ⟨hF, hKO, hBl, hBx, hNo⟩ := fresh_append (c % 4294967296) hW (by omega) (by rw [HCL.out]; exact hown') hgrow (by omega); have hK3 := hNo D _ hK rfl; clear hBx hown' hgrow hNo)
      | (go_at_call 56; refine (trim_fresh hF (by simp [HCL.out]) (by simp [HCL.out]; omega)).mono ?_; rintro e w' ⟨rfl, rfl⟩))
    have e1 : val (cur ++ [c % 4294967296]) = t * val l + m := by
      rw [val_snoc, HCL.out, Nat.mod_eq_of_lt h4, H6.out, Nat.add_comm]
    have hR := hF.trim' (by simp [HCL.out]) (h3.snoc (by omega))
    rw [e1] at hR
    refine ⟨by simp, .inl ⟨_, _, rfl, run_takeDeferred hK3, ?_⟩⟩
    refine ⟨_, results_tmp rfl _ _ _, _, rfl, hR.left _ hK3 rfl, ?_⟩
    refine ((((Below.refl base w).grown g4 (by omega) (fun j e => by cases e; exact hbg))).trans hBl).grown (grownBy_putObj' _ D _) ?_ (fun j e => ?_)
    · have := hBl.size; omega
    · cases e; simp at hD; omega
  case stop =>
    rintro D c W _ h _
    exact h.elim

set_option maxHeartbeats 1000000 in
/-- timesAnd, of nil -/
theorem timesAnd_nil {w : World} (t m : Nat) (_ht : t < 4294967296) (hm : m < 4294967296) :
    Calls Tryz.prog 199 #[.slice none 0 0, .int .u32 t, .int .u32 m] w fun e w' => ∃ v', e = .returned v' ∧ Fresh w' w.heap.size v' (digs m) ∧ Below w.heap.size w w' := by
  obtain ⟨i0, hi, hz0, hz1, hz2⟩ := info_parts info_u32
  refine (callsIn_wide (n := 0)).1 ?_
  refine callsIn_of_wp_marks Tryz.func199 rfl trivial ?_ rfl
  simp only [Tryz.ntmps199, List.size_toArray, List.length_cons, List.length_nil, Nat.reduceAdd, Nat.reduceSub, Array.replicate_succ, Array.replicate_zero, List.push_toArray, List.append_toArray, List.nil_append, List.cons_append]
  refine wpIn_wide.2 ?_
  go_wp2_with (go_at_call 213; refine (all_any _ _ _ _).mono ?_; rintro e w' ⟨rfl, rfl⟩)
  refine (wpIn_wide (n := 0)).1 ?_
  refine wp_rangeAt (gf := 228) rfl (enters_of Tryz.func228 (by kernel_rfl) rfl)
    (all_iter 0 0 0 0 (w.heap.size + 1 + 1 + 1) none (fun _ => 0) (by omega) (fun h => by omega)) (fun _ => rfl)
    (fun _ W => Boxed W w.heap.size 23 (.slice none 0 0) ∧ Boxed W (w.heap.size + 1 + 1) 78 (.int .u64 m) ∧ Boxed W (w.heap.size + 1 + 1 + 1) 23 (.slice none 0 0) ∧ Below w.heap.size w W) (fun _ _ => False) ?own (fun _ _ _ _ h _ _ => h) ?reads ?start ?round ?done ?stop
  case own =>
    rintro k W W' r ⟨h1, h2, h3, h4⟩ hg hr
    exact ⟨keepBox h1 hg hr, keepBox h2 hg hr, keepBox h3 hg hr, keepBelow h4 (Nat.le_refl _) (by simp; omega) hg hr⟩
  case reads =>
    rintro k W ⟨h1, h2, h3, h4⟩
    exact ⟨h3.cell, fun h => by omega⟩
  case start =>
    exact ⟨(((Boxed.new w _ _).alloc _).alloc _).alloc _, (boxed_new2 w _ _ _ _).alloc _, boxed_new3 w _ _ _ _ _, ((((Below.refl _ w).alloc (Nat.le_refl _) _).alloc (by simp) _).alloc (by simp; omega) _).alloc (by simp; omega) _⟩
  case round =>
    intro lp k W hk
    omega
  case done =>
    rintro D W hD ⟨h1, h2, h3, h4⟩ hK
    have q1 := h1.cell
    have q2 := h2.cell
    have hW := Fresh.nil W w.heap.size
    have hbS : w.heap.size ≤ W.heap.size := h4.size
    go_wp2_with (first
      | (at_builtin; refine wpList_append_own _ rfl _ _ 23 rfl w.heap.size 71 i0 (.int .u32 0) 1 4 Tryz.underlying23 hi hz0 hz1 hz2 rfl (by decide) _ _ _ rfl (World.ownsRow.alloc hW _) ⟨W.heap.size, 0, none⟩ 1 1 [_] rfl rfl (one_new _ _ _ _ (by simp)) (by simp [Value.oneCell']) (small_max (by simp)) (by simp) (by simp; omega) ?_; intro v' w3 hown' hgrow _; obtain ⟨g', cap', rfl⟩ := ownsRow_succ hown'; obtain ⟨hF, hKO, hBl, hBx, hNo⟩ := fresh_append m hW hbS hown' hgrow (by omega); have hK3 := hNo D _ hK rfl; clear hBx hown' hgrow hNo)
      | (go_at_call 56; refine (trim_fresh hF (by simp) (by simp)).mono ?_; rintro e w' ⟨rfl, rfl⟩))
    have hR := hF.trim' (by simp) (Sm.cons hm Sm.nil)
    rw [List.nil_append, val_one] at hR
    refine ⟨by simp, .inl ⟨_, _, rfl, run_takeDeferred hK3, ?_⟩⟩
    exact ⟨_, results_tmp rfl _ _ _, _, rfl, hR.left _ hK3 rfl, below_left _ (h4.trans hBl) (by simp at hD; omega) hK3 rfl⟩
  case stop =>
    rintro D c W _ h _
    exact h.elim
/-- timesAnd -/
theorem timesAnd_any {w : World} {base t m : Nat} {v : Value} {l : List Nat} (hF : Fresh w base v l) (hb : base ≤ w.heap.size) (hl : l.length ≤ 100000) (hs : Sm l) (ht : t < 4294967296) (hm : m < 4294967296) :
    Calls Tryz.prog 199 #[v, .int .u32 t, .int .u32 m] w fun e w' => ∃ v', e = .returned v' ∧ Fresh w' base v' (digs (t * val l + m)) ∧ Below base w w' := by
  rcases hF.form with ⟨rfl, rfl⟩ | ⟨g, cap, rfl, _⟩
  · refine (timesAnd_nil t m ht hm).mono ?_
    rintro e w' ⟨v', rfl, h1, h2⟩
    exact ⟨v', rfl, by simpa [val] using h1.mono hb, h2.mono hb⟩
  · exact timesAnd_some hF hl hs ht hm

end Go.Proofs.YtlfanbjpfoaipaaGreatDoor

namespace Go.Proofs.YtlfanbjpfoaipaaGreatDoor
open Go Go.Proofs Go.RowKit Go.Shelf Nu

/-- the number of the first digits -/
def numv (s : ByteArray) : Nat → Nat
  | 0 => 0
  | k + 1 => 10 * numv s k + (bt s k - 48)
theorem numv_lt (s : ByteArray) (k : Nat) (h : ∀ j, j < k → bt s j ≤ 57) : numv s k < 10 ^ k := by
  induction k with
  | zero => simp [numv]
  | succ k ih =>
    have h1 := ih (fun j hj => h j (by omega))
    have h2 := h k (by omega)
    rw [numv, Nat.pow_succ]
    omega
theorem numv_len (s : ByteArray) (k : Nat) (h : ∀ j, j < k → bt s j ≤ 57) : (digs (numv s k)).length ≤ k :=
  digs_length_le (Nat.lt_of_lt_of_le (numv_lt s k h) (Nat.pow_le_pow_left (by decide) k))

set_option maxHeartbeats 1000000 in
theorem parse_form (s : ByteArray) (w : World) (hs : s.size ≤ 2000000) (h : ¬ isNum s) :
    Calls Tryz.prog 142 #[.string s] w fun e w' => e = .returned (.tuple #[.slice none 0 0, .int .i64 4]) ∧ Below w.heap.size w w' := by
  have k1 := isNumber_any s w hs false (by simpa using h)
  clear h
  go_enter Tryz.func142, Tryz.ntmps142
  go_wp2_with (go_at_call 198; refine k1.mono ?_; rintro e w' ⟨rfl, hb⟩)
  go_ret2
  exact ⟨rfl, hb⟩
set_option maxHeartbeats 1000000 in
theorem parse_limit (s : ByteArray) (w : World) (hs : s.size ≤ 2000000) (h : isNum s) (hl : 200 < s.size) :
    Calls Tryz.prog 142 #[.string s] w fun e w' => e = .returned (.tuple #[.slice none 0 0, .int .i64 3]) ∧ Below w.heap.size w w' := by
  have k1 := isNumber_any s w hs true (by simpa using h)
  clear h
  go_enter Tryz.func142, Tryz.ntmps142
  go_wp2_with (go_at_call 198; refine k1.mono ?_; rintro e w' ⟨rfl, hb⟩)
  go_ret2
  exact ⟨rfl, hb⟩
set_option maxHeartbeats 2000000 in
set_option maxRecDepth 100000 in
theorem parse_ok (s : ByteArray) (w : World) (h : isNum s) (hl : s.size ≤ 200) :
    Calls Tryz.prog 142 #[.string s] w fun e w' => ∃ v, e = .returned (.tuple #[v, .int .i64 0]) ∧ Fresh w' w.heap.size v (digs (numv s s.size)) ∧ Below w.heap.size w w' := by
  have k1 := isNumber_any s w (by omega) true (by simpa using h)
  obtain ⟨N, hN⟩ : ∃ N, N = s.size := ⟨_, rfl⟩
  have HN := Lib.hid hN
  have hd : Hid (∀ j, j < N → 48 ≤ bt s j ∧ bt s j ≤ 57) := Lib.hid fun j hj => h.1 j (by omega)
  clear hN h
  rw [← HN.out] at hl ⊢
  go_enter Tryz.func142, Tryz.ntmps142
  have hsz : ¬ (200 : Int) < (s.size : Int) := by have := HN.out; omega
  go_wp2_with (go_at_call 198; refine k1.mono ?_; rintro e w1 ⟨rfl, hb1⟩; obtain ⟨cap, BW, hconv, hbel, hlt, hcell⟩ := bytes_conv s w1; rw [← HN.out] at hconv hcell; have HB := Lib.hid hbel; have HC := Lib.hid hcell; clear hbel hcell)
  go_loopw [4, 6, 18] (fun v _ x wr => ∃ k : Nat, k ≤ N ∧ x = .int .i64 k ∧ Fresh wr (w1.heap.size + 1) v (digs (numv s k)) ∧ Below (w1.heap.size + 1) BW wr) (fun _ _ x _ => N - (intOf x).toNat)
  case atStart => exact ⟨0, Nat.zero_le _, rfl, by rw [show numv s 0 = 0 from rfl, digs_zero]; exact Fresh.nil _ _, Below.refl _ _⟩
  case round =>
    obtain ⟨k, hk, rfl, hF, hkeep⟩ := hrel
    have hks := hkeep.size
    by_cases hkN : k < N
    · have hdk := hd.out k hkN
      have r1 := (hkeep.cell (p := ⟨w1.heap.size, k, none⟩) (show w1.heap.size < w1.heap.size + 1 by omega)).trans (HC.out k hkN)
      obtain ⟨m, hm⟩ : ∃ m, m = bt s k - 48 := ⟨_, rfl⟩
      rw [show ((bt s k : Nat) : Int) = (m : Int) + 48 by omega] at r1
      have hm9 : m ≤ 9 := by omega
      have u1 : IntKind.u8.wrap ((m : Int) + 48 - 48) = (m : Int) := by rw [IntKind.wrap_u8']; omega
      have u2 : (m : Int) + 48 - 48 = (m : Int) := by omega
      have hlen : (digs (numv s k)).length ≤ 100000 := by
        have := numv_len s k (fun j hj => (hd.out j (by omega)).2)
        omega
      have kt := timesAnd_any (t := 10) (m := m) hF (by omega) hlen (sm_digs _) (by omega) (by omega)
      rw [val_digs, show 10 * numv s k + m = numv s (k + 1) by rw [numv, hm]] at kt
      have HM := Lib.hid hm
      clear hm hdk
      go_wp2_with (go_at_call 199; refine kt.mono ?_; rintro e w3 ⟨v', rfl, hF3, hb3⟩)
      go_roundw
      case rel => exact ⟨k + 1, by omega, by simp, hF3, hkeep.trans hb3⟩
      case measure => simp [intOf]; omega
    · obtain rfl : k = N := by omega
      go_wp2
      go_ret2
      have hw1 := hb1.size
      exact ⟨_, rfl, hF.mono (by omega), (hb1.trans (HB.out.mono hw1)).trans (hkeep.mono (by omega))⟩

end Go.Proofs.YtlfanbjpfoaipaaGreatDoor

namespace Go.Proofs.YtlfanbjpfoaipaaGreatDoor
open Go Go.Proofs Go.RowKit Go.Shelf Nu

theorem nv_digs (n : Nat) : nv (digs n) = n := by rw [nv_chk (chk_digs n), val_digs]
theorem nv_lt {l : List Nat} (hs : Sm l) : nv l < 4294967296 ^ l.length := by
  unfold nv
  split
  · exact val_lt hs
  · exact Nat.pow_pos (by decide)
theorem len_add {a b i j : Nat} (ha : a < 4294967296 ^ i) (hb : b < 4294967296 ^ j) : a + b < 4294967296 ^ (i + j + 1) := by
  have h1 : 4294967296 ^ i ≤ 4294967296 ^ (i + j) := Nat.pow_le_pow_right (by decide) (by omega)
  have h2 : 4294967296 ^ j ≤ 4294967296 ^ (i + j) := Nat.pow_le_pow_right (by decide) (by omega)
  rw [Nat.pow_succ]
  omega
theorem len_mul {a b i j : Nat} (ha : a < 4294967296 ^ i) (hb : b < 4294967296 ^ j) : a * b < 4294967296 ^ (i + j) := by
  rw [Nat.pow_add]
  exact Nat.mul_lt_mul'' ha hb

theorem of_chk {l : List Nat} (hs : Sm l) (hc : chk l = true) : ∃ A, l = digs A := ⟨val l, (digs_val hs hc).symm⟩
theorem digs_inj {a b : Nat} (h : digs a = digs b) : a = b := by rw [← val_digs a, h, val_digs]
theorem digs_le_iff {n k : Nat} : (digs n).length ≤ k ↔ n < 4294967296 ^ k := by
  refine ⟨fun h => ?_, digs_length_le⟩
  have := val_lt (sm_digs n)
  rw [val_digs] at this
  exact Nat.lt_of_lt_of_le this (Nat.pow_le_pow_right (by decide) h)
theorem digs_lt (n : Nat) : n < 4294967296 ^ (digs n).length := digs_le_iff.1 (Nat.le_refl _)
theorem digs_mono {a b : Nat} (h : a ≤ b) : (digs a).length ≤ (digs b).length := digs_le_iff.2 (Nat.lt_of_le_of_lt h (digs_lt b))
theorem digs_add_le (a b : Nat) : (digs (a + b)).length ≤ (digs a).length + (digs b).length + 1 := digs_le_iff.2 (len_add (digs_lt a) (digs_lt b))
theorem digs_mul_le (a b : Nat) : (digs (a * b)).length ≤ (digs a).length + (digs b).length := digs_le_iff.2 (len_mul (digs_lt a) (digs_lt b))
theorem digs_nil_iff {n : Nat} : (digs n).length = 0 ↔ n = 0 := by
  rw [List.length_eq_zero_iff]; exact digs_eq_nil
theorem digs_len_pos {n : Nat} (h : n ≠ 0) : 0 < (digs n).length := by
  rcases Nat.eq_zero_or_pos (digs n).length with h1 | h1
  · exact absurd (digs_nil_iff.1 h1) h
  · exact h1

theorem digs_nv_le {l : List Nat} (hs : Sm l) : (digs (nv l)).length ≤ l.length := digs_length_le (nv_lt hs)

/-- Add, of two numbers' slices in their form -/
theorem add_form {w : World} {a1 a2 : Option Addr} {n1 n2 c1 c2 : Nat} {la lb : List Nat} (ha : Reads w (.slice a1 n1 c1) la) (hb : Reads w (.slice a2 n2 c2) lb) (hla : la.length ≤ 100000) (hlb : lb.length ≤ 100000) (hsa : Sm la) (hsb : Sm lb) (n : Nat) (hn : n = nv la + nv lb) :
    Calls Tryz.prog 139 #[.slice a1 n1 c1, .slice a2 n2 c2] w fun e w' => ∃ a c, e = .returned (.slice a (digs n).length c) ∧ Reads w' (.slice a (digs n).length c) (digs n) ∧ Below w.heap.size w w' := by
  subst hn
  refine (add_any ha hb hla hlb hsa hsb).mono ?_
  rintro e w' ⟨v, rfl, f, hb⟩
  obtain ⟨a, c, rfl⟩ := f.reads.form
  exact ⟨a, c, rfl, f.reads, hb⟩
theorem mul_form {w : World} {a1 a2 : Option Addr} {n1 n2 c1 c2 : Nat} {la lb : List Nat} (ha : Reads w (.slice a1 n1 c1) la) (hb : Reads w (.slice a2 n2 c2) lb) (hla : la.length ≤ 100000) (hlb : lb.length ≤ 100000) (hsa : Sm la) (hsb : Sm lb) (n : Nat) (hn : n = nv la * nv lb) :
    Calls Tryz.prog 189 #[.slice a1 n1 c1, .slice a2 n2 c2] w fun e w' => ∃ a c, e = .returned (.slice a (digs n).length c) ∧ Reads w' (.slice a (digs n).length c) (digs n) ∧ Below w.heap.size w w' := by
  subst hn
  refine (mul_any ha hb hla hlb hsa hsb).mono ?_
  rintro e w' ⟨v, rfl, f, hb⟩
  obtain ⟨a, c, rfl⟩ := f.reads.form
  exact ⟨a, c, rfl, f.reads, hb⟩
theorem same_form {w : World} {a1 a2 : Option Addr} {n1 n2 c1 c2 : Nat} {la lb : List Nat} (ha : Reads w (.slice a1 n1 c1) la) (hb : Reads w (.slice a2 n2 c2) lb) (hla : la.length ≤ 1000000) (e : la = lb) :
    Calls Tryz.prog 11 #[.slice a1 n1 c1, .slice a2 n2 c2] w fun e w' => e = .returned (.bool true) ∧ Below w.heap.size w w' := by
  subst e
  refine (sameNat_any ha hb hla hla).mono ?_
  rintro e w' ⟨rfl, n, rfl⟩
  exact ⟨by simp, ⟨rfl, rfl, rfl, Nat.le_refl _, fun k hk => rfl⟩⟩
theorem check_form {w : World} {a1 : Option Addr} {n1 c1 : Nat} {la : List Nat} (ha : Reads w (.slice a1 n1 c1) la) (hla : la.length ≤ 1000000) (hc : chk la = true) :
    Calls Tryz.prog 51 #[.slice a1 n1 c1] w fun e w' => e = .returned (.bool true) ∧ w = w' := by
  have := check_any ha hla
  rwa [hc] at this

end Go.Proofs.YtlfanbjpfoaipaaGreatDoor

namespace Go.Proofs.YtlfanbjpfoaipaaGreatDoor
open Go Go.Proofs Go.RowKit Go.Shelf Nu

attribute [local go_sem] Oper.semAt_some

set_option maxHeartbeats 400000 in
/-- Check, by hand -/
theorem rcheck_any {W : World} {v : Value} {l : List Nat} (h : Reads W v l) (hl : l.length ≤ 1000000) :
    Calls Tryz.prog 61 #[v] W fun e w' => e = .returned (.bool (chk l)) ∧ W = w' := by
  rcases h with ⟨rfl, rfl⟩ | ⟨b, off, cap, rfl, hb, hcap, hc⟩ | ⟨x, rfl, rfl⟩
  rotate_right
  · go_enter Tryz.func61, Tryz.ntmps61
    go_wp2
    go_ret
    exact ⟨rfl, rfl⟩
  · go_enter Tryz.func61, Tryz.ntmps61
    go_wp2
    go_ret
    exact ⟨rfl, rfl⟩
  · cases l with
    | nil =>
      go_enter Tryz.func61, Tryz.ntmps61
      go_wp2
      go_ret
      exact ⟨rfl, rfl⟩
    | cons x t =>
      have hx := hc t.length (by simp)
      have hk : chk (x :: t) = (((x :: t).getD t.length 0 : Nat) != 0) := by simp [chk]
      rw [hk]
      clear hk hc
      generalize hy : (x :: t).getD t.length 0 = y at hx ⊢
      clear hy
      simp only [List.length_cons] at hl hcap ⊢
      generalize t.length = n at *
      have hz : ((n : Int) + 1 == 0) = false := by simp; omega
      go_enter Tryz.func61, Tryz.ntmps61
      go_wp2
      go_ret
      exact ⟨ret_bool (by simp [bne]; rw [Bool.eq_iff_iff]; simp), rfl⟩

set_option maxHeartbeats 400000 in
/-- fit, by hand -/
theorem rfit_any {W : World} {v : Value} {l : List Nat} (h : Reads W v l) (hl : l.length ≤ 1000000) :
    Calls Tryz.prog 72 #[v] W fun e w' => e = .returned (orzV v l) ∧ w' = W := by
  have hf := h
  obtain ⟨a, cap, rfl⟩ := h.form
  cases hc : chk l with
  | true =>
    have e : ∀ v, orzV v l = v := fun v => by simp [orzV, hc]
    rw [e]
    go_enter Tryz.func72, Tryz.ntmps72
    go_wp2_with (go_at_call 61; refine (rcheck_any hf hl).mono ?_; rintro e w' ⟨rfl, rfl⟩)
    go_ret
    exact ⟨rfl, rfl⟩
  | false =>
    have e : ∀ v, orzV v l = .slice none 0 0 := fun v => by simp [orzV, hc]
    rw [e]
    go_enter Tryz.func72, Tryz.ntmps72
    go_wp2_with (go_at_call 61; refine (rcheck_any hf hl).mono ?_; rintro e w' ⟨rfl, rfl⟩)
    go_ret
    exact ⟨rfl, rfl⟩


theorem getD_cut0 {l : List Nat} {n : Nat} (h : l.length ≤ n) : l.getD n 0 = 0 := by rw [List.getD_eq_getElem?_getD, List.getElem?_eq_none h]; rfl

set_option maxHeartbeats 2000000 in
/-- trim, by hand -/
theorem rtrim_any {W : World} {v : Value} {l : List Nat} (h : Reads W v l) (hl : l.length ≤ 1000000) :
    Calls Tryz.prog 67 #[v] W fun e w' => (∃ u, e = .returned u ∧ Reads W u (cut l)) ∧ w' = W := by
  rcases h with ⟨rfl, rfl⟩ | ⟨b, off, cap, rfl, hb, hcap, hc⟩ | ⟨x, rfl, rfl⟩
  · go_enter Tryz.func67, Tryz.ntmps67
    go_wp2
    go_loop [0] (fun s => s = .slice none 0 0) (fun _ => 0)
    case atStart => rfl
    case round =>
      subst hrel
      go_wp2
      go_ret
      exact ⟨⟨_, rfl, Reads.nil W⟩, rfl⟩
  · have H := Lib.hid hc
    obtain ⟨L, hL⟩ : ∃ L, L = l.length := ⟨_, rfl⟩
    have HL := Lib.hid hL
    rw [← hL] at hl hcap ⊢
    clear hL hc
    go_enter Tryz.func67, Tryz.ntmps67
    go_wp2
    go_loopg [0] L (fun g s wr => ∃ n : Nat, n = g ∧ n ≤ L ∧ s = .slice (some ⟨b, off, none⟩) n cap ∧ Hid (∀ j, n ≤ j → l.getD j 0 = 0) ∧ wr = W)
    case atStart => exact ⟨L, rfl, Nat.le_refl _, rfl, Lib.hid (fun j hj => getD_cut0 (by have := HL.out; omega)), rfl⟩
    case round =>
      obtain ⟨n, hng, hn, rfl, H0, rfl⟩ := hrel
      have fin : (n = 0 ∨ l.getD (n - 1) 0 ≠ 0) → Reads wr (.slice (some ⟨b, off, none⟩) n cap) (cut l) := by
        intro h1
        have e := cut_eq_take l n (by have := HL.out; omega) (fun j hj => H0.out j hj) h1
        have e2 : (l.take n).length = n := by rw [List.length_take]; have := HL.out; omega
        rw [e]
        exact .inr (.inl ⟨b, off, cap, by rw [e2], hb, by omega, fun j hj => by
          rw [e2] at hj
          have k := H.out j (by have := HL.out; omega)
          rw [k, List.getD_eq_getElem?_getD, List.getD_eq_getElem?_getD, List.getElem?_take, if_pos hj]⟩)
      have FIN := Lib.hid fin
      have HNG := Lib.hid hng
      clear fin hng
      by_cases hn0 : n = 0
      · have F0 := Lib.hid (FIN.out (.inl hn0))
        subst hn0
        go_wp2
        go_ret
        exact ⟨⟨_, rfl, F0.out⟩, rfl⟩
      · obtain ⟨p, hp⟩ : ∃ p, n = p + 1 := ⟨n - 1, by omega⟩
        have hx := H.out p (by have := HL.out; omega)
        have hnp : (n : Int) - 1 = (p : Int) := by omega
        have hp0 : (0 : Int) < (n : Int) := by omega
        have hpn : (p : Int) < (n : Int) := by omega
        have hpc : (p : Int) ≤ (cap : Int) := by omega
        have HP := Lib.hid hp
        obtain ⟨y, hy⟩ : ∃ y, y = l.getD p 0 := ⟨_, rfl⟩
        rw [← hy] at hx
        have HY := Lib.hid hy
        clear hy hp hn0
        by_cases hy0 : y = 0
        · have HZ := Lib.hid hy0
          have ht : ((y : Int) == 0) = true := by simp [hy0]
          clear hy0
          go_wp2
          go_roundg p
          case rel => exact ⟨p, rfl, by omega, rfl, Lib.hid (fun j hj => by
            by_cases e : j = p
            · subst e; rw [← HY.out]; exact HZ.out
            · exact H0.out j (by have := HP.out; omega)), rfl⟩
          case measure => have := HP.out; have := HNG.out; omega
        · have ht : ((y : Int) == 0) = false := by simp [hy0]
          have HZ := Lib.hid hy0
          clear hy0
          go_wp2
          go_ret
          exact ⟨⟨_, rfl, FIN.out (.inr (by rw [HP.out, Nat.add_sub_cancel, ← HY.out]; exact HZ.out))⟩, rfl⟩
  · go_enter Tryz.func67, Tryz.ntmps67
    go_wp2
    go_loop [0] (fun s => s = .slice (some x) 0 0) (fun _ => 0)
    case atStart => rfl
    case round =>
      subst hrel
      go_wp2
      go_ret
      exact ⟨⟨_, rfl, .inr (.inr ⟨x, rfl, rfl⟩)⟩, rfl⟩

end Go.Proofs.YtlfanbjpfoaipaaGreatDoor

namespace Go.Proofs.YtlfanbjpfoaipaaGreatDoor
open Go Go.Proofs Go.RowKit Go.Shelf Nu

section
variable {w : World} {p1 p2 : Option Addr} {q1 q2 A B : Nat}
theorem d_add (N : Nat) (h1 : Reads w (.slice p1 (digs A).length q1) (digs A)) (h2 : Reads w (.slice p2 (digs B).length q2) (digs B)) (l1 : (digs A).length ≤ 100000) (l2 : (digs B).length ≤ 100000) (e : N = A + B) :
    Calls Tryz.prog 139 #[.slice p1 (digs A).length q1, .slice p2 (digs B).length q2] w fun e w' => ∃ a c, e = .returned (.slice a (digs N).length c) ∧ Reads w' (.slice a (digs N).length c) (digs N) ∧ Below w.heap.size w w' :=
  add_form h1 h2 l1 l2 (sm_digs _) (sm_digs _) N (by rw [nv_digs, nv_digs, e])
theorem d_mul (N : Nat) (h1 : Reads w (.slice p1 (digs A).length q1) (digs A)) (h2 : Reads w (.slice p2 (digs B).length q2) (digs B)) (l1 : (digs A).length ≤ 100000) (l2 : (digs B).length ≤ 100000) (e : N = A * B) :
    Calls Tryz.prog 189 #[.slice p1 (digs A).length q1, .slice p2 (digs B).length q2] w fun e w' => ∃ a c, e = .returned (.slice a (digs N).length c) ∧ Reads w' (.slice a (digs N).length c) (digs N) ∧ Below w.heap.size w w' :=
  mul_form h1 h2 l1 l2 (sm_digs _) (sm_digs _) N (by rw [nv_digs, nv_digs, e])
theorem d_sub (N : Nat) (h1 : Reads w (.slice p1 (digs A).length q1) (digs A)) (h2 : Reads w (.slice p2 (digs B).length q2) (digs B)) (l1 : (digs A).length ≤ 100000) (l2 : (digs B).length ≤ 100000) (h : B ≤ A) (e : N = A - B) :
    Calls Tryz.prog 227 #[.slice p1 (digs A).length q1, .slice p2 (digs B).length q2] w fun e w' => ∃ a c, e = .returned (.tuple #[.slice a (digs N).length c, .int .i64 0]) ∧ Reads w' (.slice a (digs N).length c) (digs N) ∧ Below w.heap.size w w' := by
  subst e
  have k := sub_any h1 h2 l1 l2 (sm_digs _) (sm_digs _) (chk_digs _) (chk_digs _) (by rw [val_digs, val_digs]; exact h)
  rw [val_digs, val_digs] at k
  refine k.mono ?_
  rintro e w' ⟨v, rfl, f, hb⟩
  obtain ⟨a, c, rfl⟩ := f.reads.form
  exact ⟨a, c, rfl, f.reads, hb⟩
theorem d_subno (h1 : Reads w (.slice p1 (digs A).length q1) (digs A)) (h2 : Reads w (.slice p2 (digs B).length q2) (digs B)) (l1 : (digs A).length ≤ 100000) (l2 : (digs B).length ≤ 100000) (h : A < B) :
    Calls Tryz.prog 227 #[.slice p1 (digs A).length q1, .slice p2 (digs B).length q2] w fun e w' => e = .returned (.tuple #[.slice none 0 0, .int .i64 1]) ∧ Below w.heap.size w w' :=
  sub_bad h1 h2 l1 l2 (sm_digs _) (sm_digs _) (.inr (.inr (by rw [val_digs, val_digs]; exact h)))
theorem d_cmp (z : Int) (h1 : Reads w (.slice p1 (digs A).length q1) (digs A)) (h2 : Reads w (.slice p2 (digs B).length q2) (digs B)) (l1 : (digs A).length ≤ 100000) (l2 : (digs B).length ≤ 100000) (h : sgn A B = z) :
    Calls Tryz.prog 54 #[.slice p1 (digs A).length q1, .slice p2 (digs B).length q2] w fun e w' => e = .returned (.int .i64 z) ∧ Below w.heap.size w w' := by
  have k := cmp_any h1 h2 l1 l2 (sm_digs _) (sm_digs _)
  rwa [nv_digs, nv_digs, h] at k
theorem d_same (R : Bool) (h1 : Reads w (.slice p1 (digs A).length q1) (digs A)) (h2 : Reads w (.slice p2 (digs B).length q2) (digs B)) (l1 : (digs A).length ≤ 100000) (l2 : (digs B).length ≤ 100000) (h : decide (A = B) = R) :
    Calls Tryz.prog 11 #[.slice p1 (digs A).length q1, .slice p2 (digs B).length q2] w fun e w' => e = .returned (.bool R) ∧ Below w.heap.size w w' := by
  refine (sameNat_any h1 h2 (by omega) (by omega)).mono ?_
  rintro e w' ⟨rfl, n, rfl⟩
  have : decide (digs A = digs B) = R := by
    rw [← h]
    exact decide_eq_decide.2 ⟨digs_inj, fun e => by rw [e]⟩
  exact ⟨by rw [this], ⟨rfl, rfl, rfl, Nat.le_refl _, fun k hk => rfl⟩⟩
theorem d_check (h1 : Reads w (.slice p1 (digs A).length q1) (digs A)) (l1 : (digs A).length ≤ 100000) :
    Calls Tryz.prog 51 #[.slice p1 (digs A).length q1] w fun e w' => e = .returned (.bool true) ∧ Below w.heap.size w w' :=
  (check_form h1 (by omega) (chk_digs _)).mono fun e w' ⟨h, h'⟩ => ⟨h, h' ▸ Below.refl _ _⟩
end

end Go.Proofs.YtlfanbjpfoaipaaGreatDoor

namespace Go.Proofs.YtlfanbjpfoaipaaGreatDoor
open Go Go.Proofs Go.RowKit Go.Shelf Nu

attribute [local go_sem] Oper.semAt_some

theorem radd_step {A B out : List Nat} {k c d : Nat} (hk : out.length = k) (h : val out + 4294967296 ^ k * c = val (A.take k) + val (B.take k)) (hd : d = c + A.getD k 0 + B.getD k 0) :
    val (out ++ [d % 4294967296]) + 4294967296 ^ (k + 1) * (d / 4294967296) = val (A.take (k + 1)) + val (B.take (k + 1)) := by
  have := add_step hk h
  rw [hd, Nat.add_assoc]
  exact this

set_option maxRecDepth 100000 in
set_option maxHeartbeats 4000000 in
theorem radd_any {w : World} {va vb : Value} {la lb : List Nat} (ha : Reads w va la) (hb : Reads w vb lb) (hla : la.length ≤ 100000) (hlb : lb.length ≤ 100000) (hsa : Sm la) (hsb : Sm lb) :
    Calls Tryz.prog 148 #[va, vb] w fun e w' => ∃ v, e = .returned v ∧ Reads w' v (digs (nv la + nv lb)) ∧ Below w.heap.size w w' := by
  obtain ⟨i0, hi, hz0, hz1, hz2⟩ := info_parts info_u32
  have k1 := flip (rfit_any ha (by omega))
  have k2 := flip (rfit_any hb (by omega))
  have hA := orzV_reads ha
  have hB := orzV_reads hb
  obtain ⟨a1, c1, e1⟩ := hA.form
  obtain ⟨b1, d1, e2⟩ := hB.form
  rw [e1] at k1 hA
  rw [e2] at k2 hB
  have hlA : (orz la).length ≤ 100000 := Nat.le_trans (orz_length la) hla
  have hlB : (orz lb).length ≤ 100000 := Nat.le_trans (orz_length lb) hlb
  have hSA := Lib.hid (sm_orz hsa)
  have hSB := Lib.hid (sm_orz hsb)
  rw [← val_orz la, ← val_orz lb]
  generalize orz la = A at *
  generalize orz lb = B at *
  obtain ⟨x1, x2, rfl⟩ := ha.form
  obtain ⟨y1, y2, rfl⟩ := hb.form
  have RA := Lib.hid hA
  have RB := Lib.hid hB
  clear ha hb e1 e2 hla hlb hsa hsb hA hB
  obtain ⟨m, hm⟩ : ∃ m, m = A.length := ⟨_, rfl⟩
  obtain ⟨n, hn⟩ : ∃ n, n = B.length := ⟨_, rfl⟩
  have HM := Lib.hid hm
  have HN := Lib.hid hn
  rw [← hm] at hlA k1
  rw [← hn] at hlB k2
  clear hm hn
  have hb0 : Below w.heap.size w w := Below.refl _ w
  go_enter Tryz.func148, Tryz.ntmps148
  go_wp2_with (first
    | (go_at_call 72; refine k1.mono ?_; clear k1; rintro e w' ⟨rfl, rfl⟩)
    | (go_at_call 72; refine k2.mono ?_; clear k2; rintro e w' ⟨rfl, rfl⟩))
  go_loopw [5, 6, 7] (fun v c i wr => ∃ (k q : Nat) (out : List Nat), i = .int .i64 (k : Int) ∧ c = .int .u64 (q : Int) ∧ Fresh wr w.heap.size v out ∧ q ≤ 1 ∧ k ≤ max m n + 1 ∧ (max m n < k → q = 0) ∧ Hid (out.length = k ∧ Sm out ∧ val out + 4294967296 ^ k * q = val (A.take k) + val (B.take k)) ∧ Below w.heap.size w wr) (fun _ _ i _ => max m n + 2 - (intOf i).toNat)
  case atStart => exact ⟨0, 0, [], rfl, rfl, Fresh.nil _ _, by omega, by omega, by omega, Lib.hid ⟨rfl, Sm.nil, by simp [val]⟩, hb0⟩
  case round =>
    obtain ⟨k, q, out, rfl, rfl, hrow, hq, hk, hkq, HH, hbel⟩ := hrel
    have hbS : w.heap.size ≤ wr.heap.size := hbel.size
    have hol : out.length ≤ 100001 := by have := HH.out.1; omega
    obtain ⟨ba, oa, hba, hca⟩ := (RA.out.below hbel).addr
    obtain ⟨bb, ob, hbb, hcb⟩ := (RB.out.below hbel).addr
    have HRW := Lib.hid hrow
    have HBL := Lib.hid hbel
    rw [← HM.out] at hba hca
    rw [← HN.out] at hbb hcb
    clear hbel
    obtain ⟨x, hx⟩ : ∃ x, x = A.getD k 0 := ⟨_, rfl⟩
    obtain ⟨y, hy⟩ : ∃ y, y = B.getD k 0 := ⟨_, rfl⟩
    have hxb : x < 4294967296 := by rw [hx]; exact hSA.out.getD k
    have hyb : y < 4294967296 := by rw [hy]; exact hSB.out.getD k
    by_cases h1 : k < m
    · skip
      have r1 := hca k h1
      have ea := (hba (by omega)).1
      subst ea
      rw [← hx] at r1
      have HX := Lib.hid hx
      clear hca hba hx
      by_cases h2 : k < n
      · skip
        have r2 := hcb k h2
        have eb := (hbb (by omega)).1
        subst eb
        rw [← hy] at r2
        have HY := Lib.hid hy
        clear hcb hbb hy hkq
        go_wp2_with (at_builtin; go_loud (refine wpList_append_own _ rfl _ _ 23 rfl w.heap.size 71 i0 (.int .u32 0) 1 4 Tryz.underlying23 hi hz0 hz1 hz2 rfl (by decide) _ _ _ rfl (World.ownsRow.alloc hrow _) ⟨wr.heap.size, 0, none⟩ 1 1 [_] rfl rfl (one_new _ _ _ _ (by simp)) (by simp [Value.oneCell']) (small_max (by omega)) (by omega) (by simp; omega) ?_); intro v' w3 hown' hgrow _; obtain ⟨hF, hKO, hBl, hBx, hNo⟩ := fresh_append ((q + x + y) % 4294967296) hrow hbS hown' hgrow (by omega); clear hown' hgrow hBx hNo hKO)
        go_roundw
        case rel =>
          refine ⟨k + 1, (q + x + y) / 4294967296, _, by simp, by congr 1, hF, by omega, by omega, by omega, Lib.hid ⟨by simp [HH.out.1], HH.out.2.1.snoc (by omega), ?_⟩, HBL.out.trans hBl⟩
          exact radd_step HH.out.1 HH.out.2.2 (by rw [HX.out, HY.out])
        case measure => simp [intOf]; omega
      · skip
        have hy0 : y = 0 := by rw [hy]; exact getD_cut0 (by have := HN.out; omega)
        have HY := Lib.hid hy
        clear hcb hbb hy
        clear hkq
        go_wp2_with (at_builtin; go_loud (refine wpList_append_own _ rfl _ _ 23 rfl w.heap.size 71 i0 (.int .u32 0) 1 4 Tryz.underlying23 hi hz0 hz1 hz2 rfl (by decide) _ _ _ rfl (World.ownsRow.alloc hrow _) ⟨wr.heap.size, 0, none⟩ 1 1 [_] rfl rfl (one_new _ _ _ _ (by simp)) (by simp [Value.oneCell']) (small_max (by omega)) (by omega) (by simp; omega) ?_); intro v' w3 hown' hgrow _; obtain ⟨hF, hKO, hBl, hBx, hNo⟩ := fresh_append ((q + x + y) % 4294967296) hrow hbS hown' hgrow (by omega); clear hown' hgrow hBx hNo hKO)
        go_roundw
        case rel =>
          refine ⟨k + 1, (q + x + y) / 4294967296, _, by simp, by congr 1; omega, hF, by omega, by omega, by omega, Lib.hid ⟨by simp [HH.out.1], HH.out.2.1.snoc (by omega), ?_⟩, HBL.out.trans hBl⟩
          exact radd_step HH.out.1 HH.out.2.2 (by rw [HX.out, HY.out])
        case measure => simp [intOf]; omega
    · skip
      have hx0 : x = 0 := by rw [hx]; exact getD_cut0 (by have := HM.out; omega)
      have HX := Lib.hid hx
      clear hca hba hx
      by_cases h2 : k < n
      · skip
        have r2 := hcb k h2
        have eb := (hbb (by omega)).1
        subst eb
        rw [← hy] at r2
        have HY := Lib.hid hy
        clear hcb hbb hy hkq
        go_wp2_with (at_builtin; go_loud (refine wpList_append_own _ rfl _ _ 23 rfl w.heap.size 71 i0 (.int .u32 0) 1 4 Tryz.underlying23 hi hz0 hz1 hz2 rfl (by decide) _ _ _ rfl (World.ownsRow.alloc hrow _) ⟨wr.heap.size, 0, none⟩ 1 1 [_] rfl rfl (one_new _ _ _ _ (by simp)) (by simp [Value.oneCell']) (small_max (by omega)) (by omega) (by simp; omega) ?_); intro v' w3 hown' hgrow _; obtain ⟨hF, hKO, hBl, hBx, hNo⟩ := fresh_append ((q + x + y) % 4294967296) hrow hbS hown' hgrow (by omega); clear hown' hgrow hBx hNo hKO)
        go_roundw
        case rel =>
          refine ⟨k + 1, (q + x + y) / 4294967296, _, by simp, by congr 1; omega, hF, by omega, by omega, by omega, Lib.hid ⟨by simp [HH.out.1], HH.out.2.1.snoc (by omega), ?_⟩, HBL.out.trans hBl⟩
          exact radd_step HH.out.1 HH.out.2.2 (by rw [HX.out, HY.out])
        case measure => simp [intOf]; omega
      · skip
        have hy0 : y = 0 := by rw [hy]; exact getD_cut0 (by have := HN.out; omega)
        have HY := Lib.hid hy
        clear hcb hbb hy
        by_cases hq0 : q = 0
        · subst hq0
          clear hkq
          have e1 : val out = val A + val B := by
            have := HH.out.2.2
            rw [List.take_of_length_le (by have := HM.out; omega), List.take_of_length_le (by have := HN.out; omega)] at this
            simpa using this
          have E1 := Lib.hid e1
          have kt := rtrim_any hrow.reads (by omega)
          obtain ⟨va, ca, hv⟩ := hrow.reads.form
          rw [hv] at kt ⊢
          clear e1 hv
          go_wp2_with (go_at_call 67; refine kt.mono ?_; clear kt; rintro e w' ⟨⟨u, rfl, hu⟩, rfl⟩)
          go_ret
          refine ⟨u, rfl, ?_, HBL.out⟩
          rw [← E1.out, ← cut_eq HH.out.2.1]
          exact hu
        · have hq1 : 0 < q := by omega
          clear hq0
          go_wp2_with (at_builtin; go_loud (refine wpList_append_own _ rfl _ _ 23 rfl w.heap.size 71 i0 (.int .u32 0) 1 4 Tryz.underlying23 hi hz0 hz1 hz2 rfl (by decide) _ _ _ rfl (World.ownsRow.alloc hrow _) ⟨wr.heap.size, 0, none⟩ 1 1 [_] rfl rfl (one_new _ _ _ _ (by simp)) (by simp [Value.oneCell']) (small_max (by omega)) (by omega) (by simp; omega) ?_); intro v' w3 hown' hgrow _; obtain ⟨hF, hKO, hBl, hBx, hNo⟩ := fresh_append ((q + x + y) % 4294967296) hrow hbS hown' hgrow (by omega); clear hown' hgrow hBx hNo hKO)
          go_roundw
          case rel =>
            refine ⟨k + 1, (q + x + y) / 4294967296, _, by simp, by congr 1; omega, hF, by omega, by omega, by omega, Lib.hid ⟨by simp [HH.out.1], HH.out.2.1.snoc (by omega), ?_⟩, HBL.out.trans hBl⟩
            exact radd_step HH.out.1 HH.out.2.2 (by rw [HX.out, HY.out])
          case measure => simp [intOf]; omega

end Go.Proofs.YtlfanbjpfoaipaaGreatDoor

namespace Go.Proofs.YtlfanbjpfoaipaaGreatDoor
open Go Go.Proofs Go.RowKit Go.Shelf Nu

section
variable {P : Program} (w : World)
/-- append to a slice of the call's own: it stays in its row, or it moves, and then what was there stays. -/
theorem run_append_or (base : Nat) (t ty e : TypeId) (i : TypeInfo) (z : Value) (size bytes : Nat) (ht : P.underlying t = some (.slice e)) (hi : P.info? e = some i) (hz : i.zero = some z)
    (hsize : i.size = size) (hby : i.bytes = bytes) (hzs : z.cells.size = size) (hsz : 0 < size)
    (v : Value) (n : Nat) (xs : List Value) (hown : w.ownsRow base e size v n xs)
    (a : Addr) (m c : Nat) (news : List Value) (hl : news.length = m * size) (hnews : ∀ j u, news[j]? = some u → w.cell? (a.add j) = some u) (h1 : ∀ u ∈ news, u.oneCell' = true)
    (h63 : n + m ≤ maxLen) (hbytes : (n + m) * bytes ≤ 140737488355328) (hbase : base ≤ w.heap.size) :
    ∃ v' w', (Builtin.append_ #[t, t] ty #[v, .slice (some a) m c]).run P w = .ok v' w' ∧ w'.ownsRow base e size v' (n + m) (xs ++ news) ∧
      ((v'.ownBlock = v.ownBlock ∧ w.grownBy w' v.ownBlock) ∨ (v'.ownBlock = some w.heap.size ∧ w.grownBy w' none)) := by
  obtain ⟨v1, w1, hr1, h2, h3, _, h5⟩ := run_append_own_at (P := P) w base t ty e i z size bytes ht hi hz hsize hby hzs hsz v n xs hown a m c news hl hnews h1 h63 hbytes hbase
  have hcase := hown.2
  rcases hcase with ⟨rfl, _⟩ | ⟨g, cap, cur, rfl, _, hg, hnc, _⟩
  · rcases h5 with h5 | h5
    · exact ⟨v1, w1, hr1, h2, .inl ⟨h5, h3⟩⟩
    · exact ⟨v1, w1, hr1, h2, .inr ⟨h5, h3⟩⟩
  · by_cases hroom : n + m ≤ cap
    · obtain ⟨w2, hr2, o2, g2⟩ := run_append_fits (P := P) w base t ty e i size ht hi hsize g n cap xs hown a m c news hl hnews h1 hroom
      exact ⟨_, w2, hr2, o2, .inl ⟨rfl, g2⟩⟩
    · have holds : ∀ j u, xs[j]? = some u → w.cell? ((⟨g, 0, none⟩ : Addr).add j) = some u := hown.cells (g := g) rfl
      have hr := run_append_grow (P := P) w t ty e i z ht hi hz ⟨g, 0, none⟩ n cap xs (by rw [hown.1, hsize]) holds a m c news (by rw [hl, hsize]) hnews (by omega) (by simp only [maxLen] at h63; omega) (growslice_fits (by omega) (by rw [hby]; exact hbytes))
      rw [hr] at hr1
      simp only [Result.ok.injEq] at hr1
      obtain ⟨e1, e2⟩ := hr1
      subst e1
      subst e2
      exact ⟨_, _, hr, h2, .inr ⟨rfl, ⟨rfl, rfl, rfl, by simp, fun k hk _ => by first | exact heap_alloc_old w.drew _ k hk | exact heap_alloc_old w.drew _ hk⟩⟩⟩

theorem wpList_append_or {ops : Array Oper} {rest : List Oper} {o : Oper} {a : Act} {Q : Exit → Act → World → Prop} (hgd : o.guard = none) (s x : Operand) (t : TypeId)
    (ho : o.op = .call { callee := .builtin .append, args := #[s, x], argTypes := #[t, t] })
    (base : Nat) (e : TypeId) (i : TypeInfo) (z : Value) (size bytes : Nat) (ht : P.underlying t = some (.slice e)) (hi : P.info? e = some i) (hz : i.zero = some z)
    (hsize : i.size = size) (hby : i.bytes = bytes) (hzs : z.cells.size = size) (hsz : 0 < size)
    (v : Value) (n : Nat) (xs : List Value) (hs : a.eval s = v) (hown : w.ownsRow base e size v n xs)
    (ad : Addr) (m c : Nat) (news : List Value) (hx : a.eval x = .slice (some ad) m c) (hl : news.length = m * size) (hnews : ∀ j u, news[j]? = some u → w.cell? (ad.add j) = some u) (h1 : ∀ u ∈ news, u.oneCell' = true)
    (h63 : n + m ≤ maxLen) (hbytes : (n + m) * bytes ≤ 140737488355328) (hbase : base ≤ w.heap.size)
    (h : ∀ v' w', w'.ownsRow base e size v' (n + m) (xs ++ news) → ((v'.ownBlock = v.ownBlock ∧ w.grownBy w' v.ownBlock) ∨ (v'.ownBlock = some w.heap.size ∧ w.grownBy w' none)) → wpList P ops Q rest (a.put o.dst v') w') :
    wpList P ops Q (o :: rest) a w := by
  refine wpList_plain hgd fun K hK => ?_
  obtain ⟨v', w', hr, h2, h3⟩ := run_append_or (P := P) w base t o.type e i z size bytes ht hi hz hsize hby hzs hsz v n xs hown ad m c news hl hnews h1 h63 hbytes hbase
  unfold Oper.wp execOp
  simp only [ho, resolve, invoke, builtin, Sem.run_bind, Sem.run_pure, Result.andThen_ok, List.map_toArray, List.map_cons, List.map_nil, hs, hx, hr]
  exact hK _ _ (h v' w' h2 h3)
end

/-- the cells of a book that was told n lists, all of parts, which v holds -/
def bcells (n : Nat) (v : Value) : Array Value := #[.int .i64 (n : Int), .slice none 0 0, v, .slice none 0 0, .slice none 0 0, .slice none 0 0, .slice none 0 0, .slice none 0 0, .slice none 0 0, .slice none 0 0, .slice none 0 0, .slice none 0 0, .slice none 0 0]
def BookAt (W : World) (B n : Nat) (v : Value) : Prop := W.heap[B]? = some (.cells (bcells n v) 43 (0, 0))
section
variable {W W' : World} {B n : Nat} {v : Value}
theorem BookAt.lt (h : BookAt W B n v) : B < W.heap.size := (Array.getElem?_eq_some_iff.1 h).1
theorem BookAt.cell (h : BookAt W B n v) (o : Nat) (u : Value) (hu : (bcells n v)[o]? = some u) : W.cell? ⟨B, o, none⟩ = some u := by
  unfold World.cell?; rw [show W.heap[B]? = _ from h]; exact hu
theorem BookAt.fr (h : BookAt W B n v) (o : Nat) : W.frozen? ⟨B, o, none⟩ = false := by
  unfold World.frozen?; rw [show W.heap[B]? = _ from h]; simp
theorem BookAt.kept {row : Option Nat} (h : BookAt W B n v) (hg : W.grownBy W' row) (hne : some B ≠ row) : BookAt W' B n v := (hg.block B h.lt hne).trans h
theorem BookAt.below {N : Nat} (h : BookAt W B n v) (hb : Below N W W') (hN : B < N) : BookAt W' B n v := (hb.block B hN).trans h
theorem BookAt.alloc (h : BookAt W B n v) (o : Obj) : BookAt (W.alloc o) B n v := (Below.heap_alloc W o B h.lt).trans h
theorem BookAt.set (h : BookAt W B n v) (o : Nat) (u : Value) {n' : Nat} {v' : Value} (e : (bcells n v).setIfInBounds o u = bcells n' v') : BookAt (W.setCell ⟨B, o, none⟩ u) B n' v' := by
  obtain ⟨hlt, hk⟩ := Array.getElem?_eq_some_iff.1 h
  show (W.heap.modify B _)[B]? = _
  rw [Array.getElem?_eq_getElem (by rw [Array.size_modify]; exact hlt), Array.getElem_modify_self, hk, ← e]
  rfl
theorem BookAt.setn (h : BookAt W B n v) (n' : Nat) : BookAt (W.setCell ⟨B, 0, none⟩ (.int .i64 (n' : Int))) B n' v := h.set 0 _ rfl
theorem BookAt.setv (h : BookAt W B n v) (v' : Value) : BookAt (W.setCell ⟨B, 2, none⟩ v') B n v' := h.set 2 _ rfl
theorem BookAt.other (h : BookAt W B n v) {B' o : Nat} (hne : B ≠ B') (u : Value) : BookAt (W.setCell ⟨B', o, none⟩ u) B n v := (Below.heap_setCell W ⟨B', o, none⟩ u B hne).trans h
theorem BookAt.new (W : World) : BookAt (W.alloc (.cells (bcells 0 (.slice none 0 0)) 43)) W.heap.size 0 (.slice none 0 0) := World.alloc_heap_new W _
theorem BookAt.c0 (h : BookAt W B n v) : W.cell? ⟨B, 0, none⟩ = some (.int .i64 (n : Int)) := h.cell 0 _ rfl
theorem BookAt.c2 (h : BookAt W B n v) : W.cell? ⟨B, 2, none⟩ = some v := h.cell 2 _ rfl
end

/-- a list with its number, as it is held -/
def hcell (e : Value × Nat) : List Value := [e.1, .slice none 0 0, .int .i64 (e.2 : Int)]
def hcells (es : List (Value × Nat)) : List Value := es.flatMap hcell
theorem hcells_length (es : List (Value × Nat)) : (hcells es).length = es.length * 3 := by
  induction es with
  | nil => rfl
  | cons e es ih => simp only [hcells, List.flatMap_cons, List.length_append, List.length_cons] at ih ⊢; rw [ih]; simp [hcell]; omega
theorem hcells_snoc (es : List (Value × Nat)) (e : Value × Nat) : hcells (es ++ [e]) = hcells es ++ hcell e := by simp [hcells]
theorem hcells_at (es : List (Value × Nat)) (j : Nat) (e : Value × Nat) (h : es[j]? = some e) : (hcells es)[j * 3]? = some e.1 ∧ (hcells es)[j * 3 + 1]? = some (.slice none 0 0) ∧ (hcells es)[j * 3 + 2]? = some (.int .i64 (e.2 : Int)) := by
  induction es generalizing j with
  | nil => simp at h
  | cons x es ih =>
    have e0 : hcells (x :: es) = x.1 :: .slice none 0 0 :: .int .i64 (x.2 : Int) :: hcells es := rfl
    rw [e0]
    cases j with
    | zero => simp at h; subst h; exact ⟨rfl, rfl, rfl⟩
    | succ j =>
      have := ih j (by simpa using h)
      rw [show (j + 1) * 3 = j * 3 + 3 by omega, show j * 3 + 3 + 1 = (j * 3 + 1) + 3 by omega, show j * 3 + 3 + 2 = (j * 3 + 2) + 3 by omega]
      simpa using this
/-- v owns them, from base on -/
def HRow (W : World) (base : Nat) (v : Value) (es : List (Value × Nat)) : Prop := W.ownsRow base 129 3 v es.length (hcells es)
theorem HRow.nil (W : World) (base : Nat) : HRow W base (.slice none 0 0) [] := World.ownsRow_nil W base _ 3

/-- Block h holds the lists V, what was put behind them, G, and their numbers, M. -/
def HAt (W : World) (h N : Nat) (V G : Nat → Value) (M : Nat → Nat) : Prop :=
  (∃ cur e, W.heap[h]? = some (.cells cur e (0, 0))) ∧ ∀ j, j < N → W.cell? ⟨h, j * 3, none⟩ = some (V j) ∧ W.cell? ⟨h, j * 3 + 1, none⟩ = some (G j) ∧ W.cell? ⟨h, j * 3 + 2, none⟩ = some (.int .i64 (M j : Int))
section
variable {W W' : World} {h N : Nat} {V G : Nat → Value} {M : Nat → Nat}
theorem HAt.lt (H : HAt W h N V G M) : h < W.heap.size := by obtain ⟨⟨_, _, e⟩, _⟩ := H; exact (Array.getElem?_eq_some_iff.1 e).1
theorem HAt.fr (H : HAt W h N V G M) (o : Nat) : W.frozen? ⟨h, o, none⟩ = false := by
  obtain ⟨⟨cur, t, e⟩, _⟩ := H
  exact frozen_of_row W h o cur t e
theorem HAt.kept {row : Option Nat} (H : HAt W h N V G M) (hg : W.grownBy W' row) (hne : some h ≠ row) : HAt W' h N V G M := by
  have hlt := H.lt
  have e := hg.block h hlt hne
  refine ⟨?_, fun j hj => ?_⟩
  · obtain ⟨⟨cur, t, e1⟩, _⟩ := H; exact ⟨cur, t, e.trans e1⟩
  · have c : ∀ o, W'.cell? ⟨h, o, none⟩ = W.cell? ⟨h, o, none⟩ := fun o => World.cell?_of_block e
    rw [c, c, c]; exact H.2 j hj
theorem HAt.other (H : HAt W h N V G M) {g o : Nat} (hne : h ≠ g) (u : Value) : HAt (W.setCell ⟨g, o, none⟩ u) h N V G M :=
  H.kept (row := some g) ⟨rfl, rfl, rfl, by simp, fun k _ hk => heap_setCell_other W ⟨g, o, none⟩ k u (fun e => hk (by simp [e]))⟩ (by simpa using hne)
theorem HAt.put (H : HAt W h N V G M) {i : Nat} (hi : i < N) (u : Value) : HAt (W.setCell ⟨h, i * 3 + 1, none⟩ u) h N V (fun j => if j = i then u else G j) M := by
  have H0 := H
  obtain ⟨⟨cur, t, e⟩, H2⟩ := H
  refine ⟨⟨_, _, heap_setCell_same W h (i * 3 + 1) cur t u e⟩, fun j hj => ?_⟩
  have off : ∀ o, o ≠ i * 3 + 1 → (W.setCell ⟨h, i * 3 + 1, none⟩ u).cell? ⟨h, o, none⟩ = W.cell? ⟨h, o, none⟩ := fun o ho => World.cell?_setCell_other W _ _ _ (by intro e; cases e; exact ho rfl)
  refine ⟨(off _ (by omega)).trans (H2 j hj).1, ?_, (off _ (by omega)).trans (H2 j hj).2.2⟩
  show _ = some (if j = i then u else G j)
  by_cases hji : j = i
  · subst hji
    rw [if_pos rfl]
    exact World.cell?_setCell_same W _ _ (H2 j hj).2.1
  · rw [if_neg hji]
    exact (off _ (by omega)).trans (H2 j hj).2.1
end
theorem HRow.at {W : World} {base : Nat} {v : Value} {es : List (Value × Nat)} (H : HRow W base v es) (hne : es ≠ []) :
    ∃ h cap, v = .slice (some ⟨h, 0, none⟩) es.length cap ∧ base ≤ h ∧ es.length ≤ cap ∧ HAt W h es.length (fun j => (es.getD j (.slice none 0 0, 0)).1) (fun _ => .slice none 0 0) (fun j => (es.getD j (.slice none 0 0, 0)).2) := by
  have H0 := H
  rcases H.2 with ⟨_, h0⟩ | ⟨h, cap, cur, rfl, hb, hg, hn, _⟩
  · exact absurd (List.eq_nil_of_length_eq_zero h0) hne
  · refine ⟨h, cap, rfl, hb, hn, ⟨_, _, hg⟩, fun j hj => ?_⟩
    have k := hcells_at es j es[j] (List.getElem?_eq_getElem hj)
    have e : es.getD j (.slice none 0 0, 0) = es[j] := by rw [List.getD_eq_getElem?_getD, List.getElem?_eq_getElem hj]; rfl
    simp only [e]
    refine ⟨?_, ?_, ?_⟩
    · rw [World.ownsRow.cellAt H0 (j * 3) (by omega)]; exact k.1
    · rw [World.ownsRow.cellAt H0 (j * 3 + 1) (by omega)]; exact k.2.1
    · rw [World.ownsRow.cellAt H0 (j * 3 + 2) (by omega)]; exact k.2.2

/-- a slice with a store into its row: the call's own still -/
theorem Fresh.put {W : World} {base g n cap : Nat} {l : List Nat} (h : Fresh W base (.slice (some ⟨g, 0, none⟩) n cap) l) (hn : n = l.length) (j x : Nat) :
    Fresh (W.setCell ⟨g, j, none⟩ (.int .u32 (x : Int))) base (.slice (some ⟨g, 0, none⟩) n cap) (l.set j x) ∧ W.grownBy (W.setCell ⟨g, j, none⟩ (.int .u32 (x : Int))) (some g) := by
  subst hn
  have k := World.ownsRow.stored h j (.int .u32 (x : Int))
  refine ⟨?_, k.2⟩
  unfold Fresh
  rw [List.length_set, List.map_set]
  exact k.1
theorem Fresh.keptr {W W' : World} {base : Nat} {v : Value} {l : List Nat} {row : Option Nat} (h : Fresh W base v l) (hg : W.grownBy W' row) (hne : v.ownBlock = none ∨ v.ownBlock ≠ row) : Fresh W' base v l := World.ownsRow.kept h hg hne
theorem Fresh.lt' {W : World} {base g : Nat} {v : Value} {l : List Nat} (h : Fresh W base v l) (hg : v.ownBlock = some g) : base ≤ g ∧ g < W.heap.size := World.ownsRow.lt h g hg

end Go.Proofs.YtlfanbjpfoaipaaGreatDoor

namespace Go.Proofs.YtlfanbjpfoaipaaGreatDoor
open Go Go.Proofs Go.RowKit Go.Shelf Nu

attribute [local go_sem] Oper.semAt_some

/-- a copy of l, with a mark behind -/
def Tw (W : World) (base g cap : Nat) (l : List Nat) : Prop := Fresh W base (.slice (some ⟨g, 0, none⟩) (l.length + 1) cap) (l ++ [77])
theorem Fresh.front {W : World} {base g cap n : Nat} {l m : List Nat} (h : Fresh W base (.slice (some ⟨g, 0, none⟩) n cap) (l ++ m)) : Fresh W base (.slice (some ⟨g, 0, none⟩) l.length cap) l := by
  refine ⟨by simp, .inr ?_⟩
  rcases h.2 with ⟨h1, _⟩ | ⟨g', cap', cur, e1, hb, hg, hn, hc, hs, ht⟩
  · cases h1
  · simp only [Value.slice.injEq, Option.some.injEq, Addr.mk.injEq, and_true] at e1
    obtain ⟨rfl, _, rfl⟩ := e1
    refine ⟨g, cap, cur, rfl, hb, hg, by simp at hn; omega, hc, hs, ?_⟩
    rw [Nat.mul_one] at ht ⊢
    have := congrArg (List.take l.length) ht
    rw [List.take_take, List.length_append, Nat.min_eq_left (by omega), List.map_append, List.take_append_of_le_length (by simp)] at this
    exact this.trans (List.take_of_length_le (by simp))
section
variable {W W' : World} {base g cp : Nat} {l : List Nat}
theorem Tw.fresh (h : Tw W base g cp l) : Fresh W base (.slice (some ⟨g, 0, none⟩) l.length cp) l := Fresh.front h
theorem Tw.below (h : Tw W base g cp l) (hb : Below W.heap.size W W') : Tw W' base g cp l := Fresh.below h hb
theorem Tw.mono {b' : Nat} (h : Tw W base g cp l) (hb : b' ≤ base) : Tw W b' g cp l := Fresh.mono h hb
theorem Tw.cap (h : Tw W base g cp l) : l.length + 1 ≤ cp := by
  rcases h.form with ⟨e, _⟩ | ⟨g', c, e, _, _, hn, _⟩
  · cases e
  · simp only [Value.slice.injEq] at e
    rw [List.length_append] at hn
    simp at hn
    omega
theorem Tw.lt (h : Tw W base g cp l) : base ≤ g ∧ g < W.heap.size := Fresh.lt' (g := g) h rfl
theorem Tw.cell (h : Tw W base g cp l) (j : Nat) (hj : j < l.length + 1) : W.cell? ⟨g, j, none⟩ = some (.int .u32 ((l ++ [77]).getD j 0 : Nat)) := by
  rcases h.form with ⟨e, _⟩ | ⟨g', c, e, _, _, _, hcc⟩
  · cases e
  · simp only [Value.slice.injEq, Option.some.injEq, Addr.mk.injEq, and_true] at e
    obtain ⟨rfl, _⟩ := e
    have := hcc j (by simp; omega)
    rwa [Nat.zero_add] at this
theorem tw_of {k : Nat} (hF : Fresh W base (.slice (some ⟨g, 0, none⟩) (k + 1) cp) (l ++ [77])) (e : k = l.length) : Tw W base g cp l := by
  subst e; exact hF
end

set_option maxRecDepth 100000 in
set_option maxHeartbeats 4000000 in
theorem twin_own {w : World} {v : Value} {l : List Nat} (h : Reads w v l) (hl : l.length ≤ 100000) :
    Calls Tryz.prog 7 #[v] w fun e w' => ∃ g cap, e = .returned (.slice (some ⟨g, 0, none⟩) l.length cap) ∧ Tw w' w.heap.size g cap l ∧ Below w.heap.size w w' := by
  obtain ⟨i0, hi, hz0, hz1, hz2⟩ := info_parts info_u32
  have h0 := Lib.hid h
  obtain ⟨a, c, rfl⟩ := h.form
  obtain ⟨n, hn⟩ : ∃ n, n = l.length := ⟨_, rfl⟩
  obtain ⟨N1, hN1⟩ : ∃ N1, N1 = n + 1 := ⟨_, rfl⟩
  have hnn : ((n : Int) + 1) = (N1 : Int) := by omega
  have HN := Lib.hid hn
  have HN1 := Lib.hid hN1
  have hn1 : n ≤ 100000 := by omega
  have hN1l : N1 ≤ 100001 := by omega
  rw [← hn]
  clear h hn hN1 hl
  go_enter Tryz.func7, Tryz.ntmps7
  go_wp2_with (at_make; go_loud (refine wpList_make_own _ rfl _ _ 22 rfl w.heap.size 71 i0 (.int .u32 0) 1 Tryz.underlying22 hi hz0 hz1 .i64 .i64 _ N1 rfl rfl (by have := HN1.out; omega) (by rw [hz2]; omega) (by unfold maxLen; omega) (by simp) ?_); intro w1 hown1 hgrow1)
  have hbel1 : Below w.heap.size w w1 := (Below.refl _ _).grown hgrow1 (Nat.le_refl _) (fun _ e => by cases e)
  have hF0 : Fresh w1 w.heap.size (.slice (some ⟨w.heap.size, 0, none⟩) 0 N1) [] := by unfold Fresh; simpa using hown1
  clear hown1 hgrow1
  go_loopw [3, 4] (fun v i wr => ∃ k : Nat, k ≤ n ∧ i = .int .i64 k ∧ Fresh wr w.heap.size v (l.take k) ∧ Below w.heap.size w wr) (fun _ i _ => n - (intOf i).toNat)
  case atStart => exact ⟨0, Nat.zero_le _, rfl, by simpa using hF0, hbel1⟩
  case round =>
    obtain ⟨k, hk, rfl, hrow, hbel⟩ := hrel
    have hbS : w.heap.size ≤ wr.heap.size := hbel.size
    have hlt1 : (l.take k).length = k := by rw [List.length_take]; have := HN.out; omega
    have HL := Lib.hid hlt1
    by_cases hlt : k < n
    · have hR := h0.out.below hbel
      obtain ⟨ba, oa, hba, hca⟩ := hR.addr
      have hkl : k < l.length := by have := HN.out; omega
      have r1 := hca k hkl
      obtain ⟨rfl, _⟩ := hba (by omega)
      obtain ⟨x, hx⟩ : ∃ x, x = l.getD k 0 := ⟨_, rfl⟩
      rw [← hx] at r1
      have HX := Lib.hid hx
      clear hba hca hR hx hlt1 hkl
      go_wp2_with (at_builtin; go_loud (refine wpList_append_own _ rfl _ _ 22 rfl w.heap.size 71 i0 (.int .u32 0) 1 4 Tryz.underlying22 hi hz0 hz1 hz2 rfl (by decide) _ _ _ rfl (World.ownsRow.alloc hrow _) ⟨wr.heap.size, 0, none⟩ 1 1 [_] rfl rfl (one_new _ _ _ _ (by simp)) (by simp [Value.oneCell']) (small_max (by have := HL.out; omega)) (by have := HL.out; omega) (by simp; omega) ?_); intro v' w3 hown' hgrow _; obtain ⟨hF, hKO, hBl, hBx, hNo⟩ := fresh_append x hrow hbS hown' hgrow rfl)
      go_roundw
      case rel =>
        refine ⟨k + 1, by omega, by simp, ?_, hbel.trans hBl⟩
        have hkl : k < l.length := by have := HN.out; omega
        have e : l.take (k + 1) = l.take k ++ [x] := by
          rw [List.take_succ_eq_append_getElem hkl, HX.out, List.getD_eq_getElem?_getD, List.getElem?_eq_getElem hkl]; rfl
        rw [e]; exact hF
      case measure => simp [intOf]; omega
    · obtain rfl : k = n := by omega
      have hl : l.take k = l := List.take_of_length_le (by have := HN.out; omega)
      rw [hl] at hrow
      clear hlt1
      go_wp2_with (at_builtin; go_loud (refine wpList_append_own _ rfl _ _ 22 rfl w.heap.size 71 i0 (.int .u32 0) 1 4 Tryz.underlying22 hi hz0 hz1 hz2 rfl (by decide) _ _ _ rfl (World.ownsRow.alloc hrow _) ⟨wr.heap.size, 0, none⟩ 1 1 [_] rfl rfl (one_new _ _ _ _ (by simp)) (by simp [Value.oneCell']) (small_max (by have := HN.out; omega)) (by have := HN.out; omega) (by simp; omega) ?_); intro v' w3 hown' hgrow _; obtain ⟨hF, hKO, hBl, hBx, hNo⟩ := fresh_append 77 hrow hbS hown' hgrow rfl; obtain ⟨g, cap, rfl⟩ := ownsRow_succ hown'; have hTw := tw_of hF rfl; have hkc : k ≤ cap := (by have := hTw.cap; have := HN.out; omega); have hkc2 : ¬ (cap : Int) < (k : Int) := (by omega))
      go_ret
      exact ⟨g, cap, rfl, hTw, hbel.trans hBl⟩

set_option maxRecDepth 100000 in
set_option maxHeartbeats 2000000 in
theorem left_any {w : World} {base g cap : Nat} {v : Value} {l : List Nat} (hT : Tw w base g cap l) (hR : Reads w v l) (hl : l.length ≤ 100000) :
    Calls Tryz.prog 13 #[.slice (some ⟨g, 0, none⟩) l.length cap, v] w fun e w' => e = .returned (.bool true) ∧ Below w.heap.size w w' := by
  obtain ⟨a, c, rfl⟩ := hR.form
  have HT := Lib.hid hT
  have HR := Lib.hid hR
  obtain ⟨n, hn⟩ : ∃ n, n = l.length := ⟨_, rfl⟩
  have HN := Lib.hid hn
  have hcap : n + 1 ≤ cap := by have := hT.cap; omega
  have hn1 : n ≤ 100000 := by omega
  obtain ⟨N1, hN1⟩ : ∃ N1, N1 = n + 1 := ⟨_, rfl⟩
  have hnn : (n : Int) + 1 = (N1 : Int) := by omega
  have hc1 : ¬ ((cap : Int) ≤ (n : Int)) := by omega
  have hc2 : (N1 : Int) ≤ (cap : Int) := by omega
  have hc3 : (n : Int) < (N1 : Int) := by omega
  have r77 := hT.cell n (by omega)
  have e77 : (l ++ [77] : List Nat).getD n 0 = 77 := by rw [hn, List.getD_eq_getElem?_getD, List.getElem?_append_right (Nat.le_refl _), Nat.sub_self]; rfl
  rw [e77] at r77
  have R77 := Lib.hid r77
  have hb0 := Lib.hid (Below.refl w.heap.size w)
  rw [← hn]
  clear hT hR hn hN1 hl r77
  go_enter Tryz.func13, Tryz.ntmps13
  go_wp2
  go_loopg [5] n (fun gk s wr => ∃ k : Nat, k + gk = n ∧ s = .int .i64 (k : Int) ∧ ∃ q, wr = w.drewN q)
  case atStart => exact ⟨0, by omega, rfl, 0, by rw [World.drewN_zero]⟩
  case round =>
    obtain ⟨k, hk, rfl, q, rfl⟩ := hrel
    by_cases hkn : k < n
    · obtain ⟨b1, o1, ha, hc⟩ := HR.out.addr
      rw [← HN.out] at ha hc
      have r1 := hc k hkn
      have ea := (ha (by omega)).1
      subst ea
      have r2 := HT.out.cell k (by have := HN.out; omega)
      rw [show (l ++ [77] : List Nat).getD k 0 = l.getD k 0 by rw [List.getD_eq_getElem?_getD, List.getD_eq_getElem?_getD, List.getElem?_append_left (by have := HN.out; omega)]] at r2
      obtain ⟨x, hx⟩ : ∃ x, x = l.getD k 0 := ⟨_, rfl⟩
      rw [← hx] at r1 r2
      clear ha hc hx
      go_wp2
      go_quiet (fail)
      go_wp2
      go_roundg (n - (k + 1))
      case measure => omega
      case rel => exact ⟨k + 1, by omega, by simp, _, rfl⟩
    · obtain rfl : k = n := by omega
      have r77 : (w.drewN q).cell? ⟨g, k, none⟩ = some (.int .u32 77) := R77.out
      go_wp2
      go_ret
      exact ⟨rfl, hb0.out.os, hb0.out.tape, hb0.out.output, hb0.out.size, hb0.out.block⟩

end Go.Proofs.YtlfanbjpfoaipaaGreatDoor

namespace Go.Proofs.YtlfanbjpfoaipaaGreatDoor
open Go Go.Proofs Go.RowKit Go.Shelf Nu

attribute [local go_sem] Oper.semAt_some

set_option maxRecDepth 100000 in
set_option maxHeartbeats 4000000 in
theorem rcmp_any {w : World} {va vb : Value} {la lb : List Nat} (ha : Reads w va la) (hb : Reads w vb lb) (hla : la.length ≤ 100000) (hlb : lb.length ≤ 100000) (hsa : Sm la) (hsb : Sm lb) :
    Calls Tryz.prog 62 #[va, vb] w fun e w' => e = .returned (.int .i64 (sgn (nv la) (nv lb))) ∧ Below w.heap.size w w' := by
  have k1 := flip (rfit_any ha (by omega))
  have k2 := flip (rfit_any hb (by omega))
  have hA := orzV_reads ha
  have hB := orzV_reads hb
  obtain ⟨a1, c1, e1⟩ := hA.form
  obtain ⟨b1, d1, e2⟩ := hB.form
  rw [e1] at k1 hA
  rw [e2] at k2 hB
  have hlA : (orz la).length ≤ 100000 := Nat.le_trans (orz_length la) hla
  have hlB : (orz lb).length ≤ 100000 := Nat.le_trans (orz_length lb) hlb
  have hSA := Lib.hid (sm_orz hsa)
  have hSB := Lib.hid (sm_orz hsb)
  have hCA := Lib.hid (chk_orz la)
  have hCB := Lib.hid (chk_orz lb)
  rw [← val_orz la, ← val_orz lb]
  generalize orz la = A at *
  generalize orz lb = B at *
  obtain ⟨x1, x2, rfl⟩ := ha.form
  obtain ⟨y1, y2, rfl⟩ := hb.form
  have RA := Lib.hid hA
  have RB := Lib.hid hB
  clear ha hb e1 e2 hla hlb hsa hsb hA hB
  obtain ⟨m, hm⟩ : ∃ m, m = A.length := ⟨_, rfl⟩
  obtain ⟨n, hn⟩ : ∃ n, n = B.length := ⟨_, rfl⟩
  have HM := Lib.hid hm
  have HN := Lib.hid hn
  rw [← hm] at hlA k1
  rw [← hn] at hlB k2
  clear hm hn
  have hb0 : Below w.heap.size w w := Below.refl _ w
  obtain ⟨z, hz⟩ : ∃ z, z = sgn (val A) (val B) := ⟨_, rfl⟩
  rw [← hz]
  have HZ := Lib.hid hz
  clear hz
  rcases Nat.lt_trichotomy m n with hlt | heq | hgt
  · have e : z = -1 := by
      rw [HZ.out, ← cmp_len hSA.out hSB.out hCA.out hCB.out (by have := HM.out; have := HN.out; omega)]
      simp [sgn]; have := HM.out; have := HN.out; omega
    subst e
    have h1 : (m : Int) < (n : Int) := by omega
    go_enter Tryz.func62, Tryz.ntmps62
    go_wp2_with (first
      | (go_at_call 72; refine k1.mono ?_; clear k1; rintro e w' ⟨rfl, rfl⟩)
      | (go_at_call 72; refine k2.mono ?_; clear k2; rintro e w' ⟨rfl, rfl⟩))
    go_ret
    exact ⟨rfl, hb0⟩
  · have HE := Lib.hid heq
    have h1 : (n : Int) = (m : Int) := by omega
    clear heq
    go_enter Tryz.func62, Tryz.ntmps62
    go_wp2_with (first
      | (go_at_call 72; refine k1.mono ?_; clear k1; rintro e w' ⟨rfl, rfl⟩)
      | (go_at_call 72; refine k2.mono ?_; clear k2; rintro e w' ⟨rfl, rfl⟩))
    go_loopg [5] m (fun g s wr => ∃ q : Int, s = .int .i64 q ∧ q = (g : Int) - 1 ∧ g ≤ m ∧ Hid (∀ i, g ≤ i → A.getD i 0 = B.getD i 0) ∧ Hid (Below w.heap.size w wr))
    case atStart => exact ⟨_, rfl, rfl, Nat.le_refl _, Lib.hid (fun i hi => by rw [getD_cut0 (by have := HM.out; omega), getD_cut0 (by have := HM.out; have := HN.out; have := HE.out; omega)]), Lib.hid hb0⟩
    case round =>
      obtain ⟨q, rfl, hq, hg, HH, HB⟩ := hrel
      by_cases hg0 : gk = 0
      · have hq1 : q = -1 := by omega
        subst hq1
        have e : z = 0 := by
          rw [HZ.out]
          exact cmp_same (by have := HM.out; have := HN.out; have := HE.out; omega) (fun i => HH.out i (by omega))
        subst e
        clear hq
        go_wp2
        go_ret
        exact ⟨rfl, HB.out⟩
      · obtain ⟨p, hp⟩ : ∃ p : Nat, q = (p : Int) := ⟨gk - 1, by omega⟩
        subst hp
        have hpl : p < m := by omega
        obtain ⟨ba, oa, hba, hca⟩ := (RA.out.below HB.out).addr
        obtain ⟨bb, ob, hbb, hcb⟩ := (RB.out.below HB.out).addr
        rw [← HM.out] at hba hca
        rw [← HN.out] at hbb hcb
        have hpn : p < n := by have := HE.out; omega
        have r1 := hca p hpl
        have r2 := hcb p hpn
        have ea := (hba (by omega)).1
        subst ea
        have eb := (hbb (by omega)).1
        subst eb
        obtain ⟨x, hx⟩ : ∃ x, x = A.getD p 0 := ⟨_, rfl⟩
        obtain ⟨y, hy⟩ : ∃ y, y = B.getD p 0 := ⟨_, rfl⟩
        rw [← hx] at r1
        rw [← hy] at r2
        have HX := Lib.hid hx
        have HY := Lib.hid hy
        have HG := Lib.hid (show gk = p + 1 by omega)
        clear hx hy hba hbb hca hcb hq hg0
        have stp : x ≠ y → sgn x y = z := by
          intro hne
          rw [HZ.out, HX.out, HY.out]
          exact cmp_step hSA.out hSB.out (by rw [← HX.out, ← HY.out]; exact hne) (fun i hi => HH.out i (by have := HG.out; omega)) (by have := HM.out; have := HN.out; have := HE.out; omega) (by have := HM.out; omega)
        rcases Nat.lt_trichotomy x y with hxy | hxy | hxy
        · have e : z = -1 := by rw [← stp (by omega)]; simp [sgn, hxy]
          subst e
          have t1 : (x : Int) < (y : Int) := by omega
          clear stp
          go_wp2
          go_quiet (fail)
          go_wp2
          go_ret
          exact ⟨rfl, HB.out.trans ⟨rfl, rfl, rfl, Nat.le_refl _, fun _ _ => rfl⟩⟩
        · have HXY := Lib.hid hxy
          have t1 : (y : Int) = (x : Int) := by omega
          clear stp hxy
          go_wp2
          go_quiet (fail)
          go_wp2
          go_quiet (fail)
          go_wp2
          go_roundg p
          case measure => have := HG.out; omega
          case rel => exact ⟨_, rfl, rfl, by omega, Lib.hid (fun i hi => by
            by_cases e : i = p
            · subst e; rw [← HX.out, ← HY.out]; exact HXY.out
            · exact HH.out i (by have := HG.out; omega)), Lib.hid (HB.out.trans ⟨rfl, rfl, rfl, Nat.le_refl _, fun _ _ => rfl⟩)⟩
        · have e : z = 1 := by rw [← stp (by omega)]; simp [sgn, show ¬ x < y by omega, hxy]
          subst e
          have t1 : ¬ (x : Int) < (y : Int) := by omega
          have t2 : (x : Int) > (y : Int) := by omega
          clear stp
          go_wp2
          go_quiet (fail)
          go_wp2
          go_quiet (fail)
          go_wp2
          go_ret
          exact ⟨rfl, HB.out.trans ⟨rfl, rfl, rfl, Nat.le_refl _, fun _ _ => rfl⟩⟩
  · have e : z = 1 := by
      rw [HZ.out, ← cmp_len hSA.out hSB.out hCA.out hCB.out (by have := HM.out; have := HN.out; omega)]
      have := HM.out; have := HN.out
      simp [sgn, show ¬ A.length < B.length by omega]; omega
    subst e
    have h1 : ¬ (m : Int) < (n : Int) := by omega
    have h2 : (m : Int) > (n : Int) := by omega
    go_enter Tryz.func62, Tryz.ntmps62
    go_wp2_with (first
      | (go_at_call 72; refine k1.mono ?_; clear k1; rintro e w' ⟨rfl, rfl⟩)
      | (go_at_call 72; refine k2.mono ?_; clear k2; rintro e w' ⟨rfl, rfl⟩))
    go_ret
    exact ⟨rfl, hb0⟩

end Go.Proofs.YtlfanbjpfoaipaaGreatDoor

namespace Go.Proofs.YtlfanbjpfoaipaaGreatDoor
open Go Go.Proofs Go.RowKit Go.Shelf Nu

attribute [local go_sem] Oper.semAt_some

theorem rows_at {W : World} {b off : Nat} {l : List Nat} (hc : ∀ j, j < l.length → W.cell? ⟨b, off + j, none⟩ = some (.int .u32 (l.getD j 0 : Nat))) : ∀ j u, (l.map u32v)[j]? = some u → W.cell? ((⟨b, off, none⟩ : Addr).add j) = some u := by
  intro j u hu
  rw [List.getElem?_map] at hu
  by_cases hj : j < l.length
  · rw [List.getElem?_eq_getElem hj] at hu
    simp only [Option.map_some, Option.some.injEq] at hu
    rw [Addr.add_lit, hc j hj, ← hu]
    rw [List.getD_eq_getElem?_getD, List.getElem?_eq_getElem hj]
    rfl
  · rw [List.getElem?_eq_none (by omega)] at hu; cases hu
theorem u32v_one (l : List Nat) : ∀ u ∈ l.map u32v, u.oneCell' = true := by
  intro u hu
  obtain ⟨x, _, rfl⟩ := List.mem_map.1 hu
  rfl

set_option maxRecDepth 100000 in
set_option maxHeartbeats 2000000 in
theorem rtwin_any {w : World} {v : Value} {l : List Nat} (h : Reads w v l) (hl : l.length ≤ 100000) :
    Calls Tryz.prog 63 #[v] w fun e w' => ∃ u, e = .returned u ∧ Fresh w' w.heap.size u l ∧ Below w.heap.size w w' := by
  obtain ⟨i0, hi, hz0, hz1, hz2⟩ := info_parts info_u32
  have hb0 : Below w.heap.size w w := Below.refl _ w
  rcases h with ⟨rfl, rfl⟩ | ⟨b, off, cap, rfl, hb, hcap, hc⟩ | ⟨x, rfl, rfl⟩
  · go_enter Tryz.func63, Tryz.ntmps63
    go_wp2_with (refine wpList_append_own_none rfl _ _ 23 rfl w.heap.size 71 i0 1 Tryz.underlying23 hi (.slice none 0 0) 0 [] rfl (World.ownsRow_nil _ _ _ 1) rfl ?_)
    go_ret
    exact ⟨_, rfl, Fresh.nil _ _, hb0⟩
  · have hn1 := Lib.hid (rows_at hc)
    obtain ⟨n, hn⟩ : ∃ n, n = l.length := ⟨_, rfl⟩
    have HN := Lib.hid hn
    rw [← hn] at hl hcap ⊢
    clear hn hc
    go_enter Tryz.func63, Tryz.ntmps63
    go_wp2_with (at_builtin; go_loud (refine wpList_append_own _ rfl _ _ 23 rfl w.heap.size 71 i0 (.int .u32 0) 1 4 Tryz.underlying23 hi hz0 hz1 hz2 rfl (by decide) (.slice none 0 0) 0 [] rfl (World.ownsRow_nil _ _ _ 1) ⟨b, off, none⟩ n cap (l.map u32v) rfl (by rw [List.length_map, ← HN.out, Nat.mul_one]) hn1.out (u32v_one l) (small_max (by omega)) (by omega) (Nat.le_refl _) ?_); intro v' w3 hown' hgrow _)
    go_ret
    refine ⟨v', rfl, ?_, hb0.grown hgrow (Nat.le_refl _) (fun k e => by cases e)⟩
    unfold Fresh
    rw [← HN.out]
    rw [Nat.zero_add, List.nil_append] at hown'
    exact hown'
  · go_enter Tryz.func63, Tryz.ntmps63
    go_wp2_with (at_builtin; go_loud (refine wpList_append_own _ rfl _ _ 23 rfl w.heap.size 71 i0 (.int .u32 0) 1 4 Tryz.underlying23 hi hz0 hz1 hz2 rfl (by decide) (.slice none 0 0) 0 [] rfl (World.ownsRow_nil _ _ _ 1) x 0 0 [] rfl rfl (by intro j u h; simp at h) (by simp) (small_max (by omega)) (by omega) (Nat.le_refl _) ?_); intro v' w3 hown' hgrow _)
    go_ret
    exact ⟨v', rfl, hown', hb0.grown hgrow (Nat.le_refl _) (fun k e => by cases e)⟩

theorem sub_two {x o y : Nat} (h1 : x < 4294967296) (h2 : y < 4294967296) (h3 : o ≤ 1) :
    ∃ d1 d : Nat, IntKind.u64.wrap ((x : Int) - (o : Int)) = (d1 : Int) ∧ IntKind.u64.wrap ((d1 : Int) - (y : Int)) = (d : Int) ∧ d1 < 18446744073709551616 ∧ d < 18446744073709551616 ∧ (x : Int) - o - y = (d % 4294967296 : Nat) - 4294967296 * (d / 9223372036854775808 : Nat) ∧ d / 9223372036854775808 ≤ 1 ∧ (y = 0 → d1 = d) := by
  rw [IntKind.wrap_u64]
  by_cases h : o ≤ x
  · refine ⟨x - o, ?_⟩
    rw [IntKind.wrap_u64]
    by_cases h' : y ≤ x - o
    · exact ⟨x - o - y, by omega, by omega, by omega, by omega, by omega, by omega, by omega⟩
    · exact ⟨18446744073709551616 + (x - o) - y, by omega, by omega, by omega, by omega, by omega, by omega, by omega⟩
  · refine ⟨18446744073709551616 + x - o, ?_⟩
    rw [IntKind.wrap_u64]
    exact ⟨18446744073709551616 + x - o - y, by omega, by omega, by omega, by omega, by omega, by omega, by omega⟩
theorem ring_sub (a b c P o x y r o' : Int) (h : a - P * o = b - c) (hd : x - o - y = r - 4294967296 * o') : (a + P * r) - P * 4294967296 * o' = (b + P * x) - (c + P * y) := by grind
theorem rless_step {A B l : List Nat} {k o x y r o' : Nat} (hk : k < l.length) (h : (val (l.take k) : Int) - 4294967296 ^ k * o = val (A.take k) - val (B.take k)) (hx : x = A.getD k 0) (hy : y = B.getD k 0) (hd : (x : Int) - o - y = r - 4294967296 * (o' : Nat)) :
    (val ((l.set k r).take (k + 1)) : Int) - 4294967296 ^ (k + 1) * o' = val (A.take (k + 1)) - val (B.take (k + 1)) := by
  rw [set_take l k r hk, val_snoc, val_take_succ, val_take_succ, List.length_take, Nat.min_eq_left (by omega), ← hx, ← hy]
  have := ring_sub _ _ _ _ _ _ _ _ _ h hd
  simp only [Int.natCast_add, Int.natCast_mul, Int.natCast_pow, Int.cast_ofNat_Int, Int.pow_succ] at this ⊢
  exact this
theorem rless_end {A B l : List Nat} {m o : Nat} (hl : l.length = m) (hs : Sm l) (ho : o ≤ 1) (hle : val B ≤ val A) (h : (val l : Int) - 4294967296 ^ m * o = val A - val B) : val l = val A - val B := by
  have h1 := val_lt hs
  rw [hl] at h1
  have h2 : ((4294967296 ^ m : Nat) : Int) = (4294967296 : Int) ^ m := by rw [Int.natCast_pow]; rfl
  rw [← h2] at h
  generalize 4294967296 ^ m = P at *
  rcases Nat.le_one_iff_eq_zero_or_eq_one.1 ho with rfl | rfl
  · simp at h; omega
  · simp at h; omega

end Go.Proofs.YtlfanbjpfoaipaaGreatDoor

namespace Go.Proofs.YtlfanbjpfoaipaaGreatDoor
open Go Go.Proofs Go.RowKit Go.Shelf Nu

attribute [local go_sem] Oper.semAt_some

set_option maxRecDepth 100000 in
set_option maxHeartbeats 4000000 in
theorem rless_any {w : World} {va vb : Value} {A B : List Nat} (hA : Reads w va A) (hB : Reads w vb B) (hlA : A.length ≤ 100000) (hlB : B.length ≤ A.length) (hSA : Sm A) (hSB : Sm B) (hle : val B ≤ val A) :
    Calls Tryz.prog 215 #[va, vb] w fun e w' => ∃ v, e = .returned v ∧ Reads w' v (digs (val A - val B)) ∧ Below w.heap.size w w' := by
  have kT := rtwin_any hA hlA
  have RB := Lib.hid hB
  have SA := Lib.hid hSA
  have SB := Lib.hid hSB
  have HLE := Lib.hid hle
  obtain ⟨a1, c1, rfl⟩ := hA.form
  obtain ⟨b1, d1, rfl⟩ := hB.form
  obtain ⟨m, hm⟩ : ∃ m, m = A.length := ⟨_, rfl⟩
  obtain ⟨n, hn⟩ : ∃ n, n = B.length := ⟨_, rfl⟩
  have HM := Lib.hid hm
  have HN := Lib.hid hn
  rw [← hm] at hlA hlB kT
  rw [← hn] at hlB
  rw [← hm, ← hn]
  have hb0 : Below w.heap.size w w := Below.refl _ w
  clear hA hB hSA hSB hle hm hn
  go_enter Tryz.func215, Tryz.ntmps215
  go_wp2_with (go_at_call 63; refine kT.mono ?_; clear kT; rintro e w1 ⟨u, rfl, fu, hb1⟩)
  obtain ⟨au, cu, eu⟩ := fu.reads.form
  rw [← HM.out] at eu
  subst eu
  go_loopg [6, 7] m (fun g so si wr => ∃ (k o : Nat) (l : List Nat), k + g = m ∧ si = .int .i64 (k : Int) ∧ so = .int .u64 (o : Int) ∧ o ≤ 1 ∧ l.length = m ∧ Hid (Fresh wr w.heap.size (.slice au m cu) l) ∧ Hid (Sm l ∧ l.drop k = A.drop k ∧ (val (l.take k) : Int) - 4294967296 ^ k * o = val (A.take k) - val (B.take k)) ∧ Hid (Below w.heap.size w wr))
  case atStart => exact ⟨0, 0, A, by omega, rfl, rfl, by omega, HM.out.symm, Lib.hid fu, Lib.hid ⟨SA.out, rfl, by simp [val]⟩, Lib.hid hb1⟩
  case round =>
    obtain ⟨k, o, l, hk, rfl, rfl, ho, hl, HF, HV, HB⟩ := hrel
    have HL := Lib.hid hl
    by_cases hkm : k < m
    · obtain ⟨g, rfl⟩ : ∃ g, au = some ⟨g, 0, none⟩ := by
        rcases HF.out.form with ⟨e, _⟩ | ⟨g, c, e, _⟩
        · simp only [Value.slice.injEq] at e; omega
        · simp only [Value.slice.injEq] at e; exact ⟨g, e.1⟩
      have hF0 := HF.out
      have hfr : wr.frozen? ⟨g, k, none⟩ = false := by
        unfold Fresh at hF0
        rw [hl] at hF0
        exact World.ownsRow.frozenAt hF0 k
      obtain ⟨x, hx⟩ : ∃ x, x = A.getD k 0 := ⟨_, rfl⟩
      obtain ⟨y, hy⟩ : ∃ y, y = B.getD k 0 := ⟨_, rfl⟩
      have hxb : x < 4294967296 := by rw [hx]; exact SA.out.getD k
      have hyb : y < 4294967296 := by rw [hy]; exact SB.out.getD k
      have hxl : l.getD k 0 = x := by rw [hx]; exact getD_of_drop HV.out.2.1 k (Nat.le_refl _)
      have hc : wr.cell? ⟨g, k, none⟩ = some (.int .u32 (x : Int)) := by
        rcases HF.out.form with ⟨e, _⟩ | ⟨g', c, e, _, _, hn', hcc⟩
        · cases e
        · simp only [Value.slice.injEq, Option.some.injEq, Addr.mk.injEq, and_true] at e
          obtain ⟨rfl, _⟩ := e
          have := hcc k (by omega)
          rwa [Nat.zero_add, hxl] at this
      obtain ⟨d1', d, e1, e2, hd1, hd, e3, e4, e5⟩ := sub_two hxb hyb ho
      have hP := (HF.out.put hl.symm k (d % 4294967296)).1
      have hgw : w.heap.size ≤ g := (HF.out.lt' (g := g) rfl).1
      rw [show ((d % 4294967296 : Nat) : Int) = (d : Int) % 4294967296 by omega] at hP
      have HP := Lib.hid hP
      have HX := Lib.hid hx
      have HY := Lib.hid hy
      have E3 := Lib.hid e3
      have E4 := Lib.hid e4
      have fin : ∃ (k' o' : Nat) (l' : List Nat), k' + (m - (k + 1)) = m ∧ Value.int .i64 ((k : Int) + 1) = .int .i64 (k' : Int) ∧ Value.int .u64 ((d : Int) / 9223372036854775808) = .int .u64 (o' : Int) ∧ o' ≤ 1 ∧ l'.length = m ∧ Hid (Fresh (wr.setCell ⟨g, k, none⟩ (.int .u32 ((d : Int) % 4294967296))) w.heap.size (.slice (some ⟨g, 0, none⟩) m cu) l') ∧ Hid (Sm l' ∧ l'.drop k' = A.drop k' ∧ (val (l'.take k') : Int) - 4294967296 ^ k' * o' = val (A.take k') - val (B.take k')) ∧ Hid (Below w.heap.size w (wr.setCell ⟨g, k, none⟩ (.int .u32 ((d : Int) % 4294967296)))) := by
        refine ⟨k + 1, d / 9223372036854775808, l.set k (d % 4294967296), by omega, by simp, by congr 1, E4.out, by rw [List.length_set, hl], HP, Lib.hid ⟨HV.out.1.set k _ (by omega), ?_, ?_⟩, Lib.hid (HB.out.setCell (p := ⟨g, k, none⟩) hgw _)⟩
        · rw [set_drop]; exact drop_succ_of_drop HV.out.2.1
        · exact rless_step (by omega) HV.out.2.2 hx hy e3
      have FIN := Lib.hid fin
      clear hF0 hx hy hxl hP e3 e4 fin
      by_cases hkn : k < n
      · obtain ⟨bb, ob, hbb, hcb⟩ := (RB.out.below HB.out).addr
        rw [← HN.out] at hbb hcb
        have r2 := hcb k hkn
        have eb := (hbb (by omega)).1
        subst eb
        rw [← HY.out] at r2
        clear hbb hcb e5 HB HF hl
        go_wp2
        go_roundg (m - (k + 1))
        case measure => omega
        case rel => exact FIN.out
      · have hy0 : y = 0 := by rw [HY.out]; exact getD_cut0 (by have := HN.out; omega)
        have e6 := e5 hy0
        subst e6
        clear e5 e2 hy0 HB HF hl
        go_wp2
        go_roundg (m - (k + 1))
        case measure => omega
        case rel => exact FIN.out
    · obtain rfl : k = m := by omega
      have hv : val l = val A - val B := by
        have h := HV.out.2.2
        rw [List.take_of_length_le (by omega), List.take_of_length_le (by have := HM.out; omega), List.take_of_length_le (by have := HN.out; omega)] at h
        exact rless_end hl HV.out.1 ho HLE.out h
      have HVL := Lib.hid hv
      have kt := rtrim_any HF.out.reads (by omega)
      clear hv hl
      go_wp2_with (go_at_call 67; refine kt.mono ?_; clear kt; rintro e w' ⟨⟨u, rfl, hu⟩, rfl⟩)
      go_ret
      refine ⟨u, rfl, ?_, HB.out⟩
      rw [← HVL.out, ← cut_eq HV.out.1]
      exact hu

set_option maxHeartbeats 2000000 in
theorem rsub_any {w : World} {va vb : Value} {A B : List Nat} (hA : Reads w va A) (hB : Reads w vb B) (hlA : A.length ≤ 100000) (hlB : B.length ≤ 100000) (hSA : Sm A) (hSB : Sm B) :
    Calls Tryz.prog 192 #[va, vb] w fun e w' => ∃ v, e = .returned (.tuple #[v, .int .i64 (if chk A = true ∧ chk B = true ∧ val B ≤ val A then 0 else 1)]) ∧ Reads w' v (if chk A = true ∧ chk B = true ∧ val B ≤ val A then digs (val A - val B) else []) ∧ Below w.heap.size w w' := by
  have hb0 : Below w.heap.size w w := Below.refl _ w
  have cA := rcheck_any hA (by omega)
  have cB := rcheck_any hB (by omega)
  have kC := rcmp_any hA hB hlA hlB hSA hSB
  have RA := Lib.hid hA
  have RB := Lib.hid hB
  obtain ⟨a1, c1, rfl⟩ := hA.form
  obtain ⟨b1, d1, rfl⟩ := hB.form
  clear hA hB
  cases h1 : chk A with
  | false =>
    rw [h1] at cA
    simp only [Bool.false_eq_true, false_and, if_false]
    clear kC cB hSA hSB h1
    go_enter Tryz.func192, Tryz.ntmps192
    go_wp2_with (go_at_call 61; refine cA.mono ?_; clear cA; rintro e w' ⟨rfl, rfl⟩)
    go_ret2
    exact ⟨_, rfl, Reads.nil _, hb0⟩
  | true =>
    cases h2 : chk B with
    | false =>
      rw [h1] at cA
      rw [h2] at cB
      simp only [Bool.false_eq_true, false_and, and_false, if_false]
      clear kC hSA hSB h1 h2
      go_enter Tryz.func192, Tryz.ntmps192
      go_wp2_with (first
        | (go_at_call 61; refine cA.mono ?_; clear cA; rintro e w' ⟨rfl, rfl⟩)
        | (go_at_call 61; refine cB.mono ?_; clear cB; rintro e w' ⟨rfl, rfl⟩))
      go_ret2
      exact ⟨_, rfl, Reads.nil _, hb0⟩
    | true =>
      rw [h1] at cA
      rw [h2] at cB
      rw [nv_chk h1, nv_chk h2] at kC
      by_cases hle : val B ≤ val A
      · have hlen : B.length ≤ A.length := by
          rcases Nat.lt_or_ge A.length B.length with h | h
          · have := le_of_length_lt hSA hSB h2 h; omega
          · exact h
        have kL := fun W (h : Below w.heap.size w W) => rless_any (RA.out.below h) (RB.out.below h) hlA hlen hSA hSB hle
        simp only [hle, and_self, if_true]
        obtain ⟨z, hz⟩ : ∃ z, z = sgn (val A) (val B) := ⟨_, rfl⟩
        rw [← hz] at kC
        have hz0 : ¬ z < 0 := by rw [hz]; unfold sgn; split; omega; split <;> omega
        clear hSA hSB h1 h2 hle hz hlen
        go_enter Tryz.func192, Tryz.ntmps192
        go_wp2_with (first
          | (go_at_call 61; refine cA.mono ?_; clear cA; rintro e w' ⟨rfl, rfl⟩)
          | (go_at_call 61; refine cB.mono ?_; clear cB; rintro e w' ⟨rfl, rfl⟩)
          | (go_at_call 62; refine kC.mono ?_; clear kC; rintro e w1 ⟨rfl, q1⟩)
          | (go_at_call 215; refine (kL _ (by first | exact q1 | exact q1.drew)).mono ?_; clear kL; rintro e w2 ⟨u, rfl, q2, q3⟩))
        go_ret2
        exact ⟨u, rfl, q2, then_below q1 q3⟩
      · simp only [hle, and_false, if_false]
        obtain ⟨z, hz⟩ : ∃ z, z = sgn (val A) (val B) := ⟨_, rfl⟩
        rw [← hz] at kC
        have hz0 : z < 0 := by rw [hz]; unfold sgn; rw [if_pos (by omega)]; omega
        clear hSA hSB h1 h2 hle hz
        go_enter Tryz.func192, Tryz.ntmps192
        go_wp2_with (first
          | (go_at_call 61; refine cA.mono ?_; clear cA; rintro e w' ⟨rfl, rfl⟩)
          | (go_at_call 61; refine cB.mono ?_; clear cB; rintro e w' ⟨rfl, rfl⟩)
          | (go_at_call 62; refine kC.mono ?_; clear kC; rintro e w1 ⟨rfl, q1⟩))
        go_ret2
        exact ⟨_, rfl, Reads.nil _, q1⟩

end Go.Proofs.YtlfanbjpfoaipaaGreatDoor

namespace Go.Proofs.YtlfanbjpfoaipaaGreatDoor
open Go Go.Proofs Go.RowKit Go.Shelf Nu

attribute [local go_sem] Oper.semAt_some

/-- what holds in the inner loop: row p was there when it began -/
def RowInv (B p : List Nat) (N i k c x : Nat) (l : List Nat) : Prop :=
  Sm l ∧ l.length = N ∧ c < 4294967296 ∧ l.take i = p.take i ∧ l.drop (i + k) = p.drop (i + k) ∧
    val ((l.drop i).take k) + 4294967296 ^ k * c = val ((p.drop i).take k) + x * val (B.take k)
def ColInv (A B : List Nat) (N i : Nat) (p : List Nat) : Prop :=
  Sm p ∧ p.length = N ∧ val p = val (A.take i) * val B ∧ ∀ j, i + B.length ≤ j → p.getD j 0 = 0

theorem RowInv.start {A B p : List Nat} {N i x : Nat} (h : ColInv A B N i p) : RowInv B p N i 0 0 x p :=
  ⟨h.1, h.2.1, by omega, rfl, rfl, by simp [val]⟩
theorem RowInv.step {B p l : List Nat} {N i k c x y r d : Nat} (hN : i + k < N) (hx : x < 4294967296) (hS : Sm B) (H : RowInv B p N i k c x l) (hy : y = B.getD k 0) (hr : r = l.getD (i + k) 0) (hd : d = c + x * y + r) :
    RowInv B p N i (k + 1) (d / 4294967296) x (l.set (i + k) (d % 4294967296)) := by
  obtain ⟨h1, h2, h3, h4, h5, h6⟩ := H
  have hyb : y < 4294967296 := by rw [hy]; exact hS.getD k
  have hrb : r < 4294967296 := by rw [hr]; exact h1.getD _
  have hb := times_bound (c := c) (p := y) (t := x) (r := r) h3 hyb hx hrb
  have e1 : (l.drop i).length = N - i := by rw [List.length_drop, h2]
  have hrd : r = (l.drop i).getD k 0 := by
    rw [hr, List.getD_eq_getElem?_getD, List.getD_eq_getElem?_getD, List.getElem?_drop]
  refine ⟨h1.set _ _ (Nat.mod_lt _ (by decide)), by rw [List.length_set, h2], ?_, ?_, ?_, ?_⟩
  · rw [hd, show c + x * y + r = c + (y * x + r) by rw [Nat.mul_comm x y]; omega]
    omega
  · rw [← h4, List.take_set]
    rw [List.set_eq_of_length_le (by rw [List.length_take]; omega)]
  · rw [show i + (k + 1) = (i + k) + 1 by omega, set_drop]
    exact drop_succ_of_drop h5
  · have e2 : (l.set (i + k) (d % 4294967296)).drop i = (l.drop i).set k (d % 4294967296) := by
      rw [List.drop_set, if_neg (by omega), Nat.add_sub_cancel_left]
    rw [e2]
    have hk : k < (l.drop i).length := by omega
    have hdd : (l.drop i).drop k = (p.drop i).drop k := by rw [List.drop_drop, List.drop_drop]; exact h5
    have := times_step (row := p.drop i) (b := B) (cur := l.drop i) (k := k) (c := c) (t := x) hk hdd h6
    rw [← hrd, ← hy] at this
    rw [hd, show c + x * y + r = c + (y * x + r) by rw [Nat.mul_comm x y]; omega]
    exact this
theorem ColInv.next {A B p l : List Nat} {N i c x : Nat} (hN : i + B.length < N) (hA : x = A.getD i 0) (h : ColInv A B N i p) (H : RowInv B p N i B.length c x l) : ColInv A B N (i + 1) (l.set (i + B.length) c) := by
  obtain ⟨h1, h2, h3, h4⟩ := h
  obtain ⟨g1, g2, g3, g4, g5, g6⟩ := H
  rw [List.take_length] at g6
  have e0 : l = p.take i ++ (l.drop i).take B.length ++ p.drop (i + B.length) := by
    rw [← g4, ← g5, ← List.drop_drop, List.append_assoc, List.take_append_drop, List.take_append_drop]
  have hl1 : (p.take i).length = i := by rw [List.length_take]; omega
  have hl2 : ((l.drop i).take B.length).length = B.length := by rw [List.length_take, List.length_drop]; omega
  have hdr : p.drop (i + B.length) = p.getD (i + B.length) 0 :: p.drop (i + B.length + 1) := by
    rw [List.drop_eq_getElem_cons (by omega), List.getD_eq_getElem?_getD, List.getElem?_eq_getElem (by omega)]; rfl
  have hset : l.set (i + B.length) c = p.take i ++ (l.drop i).take B.length ++ [c] ++ p.drop (i + B.length + 1) := by
    have e1 : l.set (i + B.length) c = (p.take i ++ (l.drop i).take B.length ++ p.drop (i + B.length)).set (i + B.length) c := by rw [← e0]
    rw [e1, hdr, List.set_append_right _ _ (by simp; omega)]
    have e : i + B.length - (p.take i ++ (l.drop i).take B.length).length = 0 := by simp; omega
    rw [e]; simp
  have ev := val_row p i B.length ((l.drop i).take B.length) c x (val B) (by omega) (h4 _ (Nat.le_refl _)) hl2 g6
  refine ⟨g1.set _ _ g3, by rw [List.length_set, g2], ?_, ?_⟩
  · rw [hset, ev, h3, val_take_succ, Nat.add_mul, ← hA, Nat.mul_assoc]
  · intro j hj
    rw [List.getD_eq_getElem?_getD, List.getElem?_set_ne (by omega)]
    have : l.drop (i + B.length) = p.drop (i + B.length) := g5
    have h7 := getD_of_drop this j (by omega)
    rw [← List.getD_eq_getElem?_getD, h7]
    exact h4 j (by omega)
theorem ColInv.first (A B : List Nat) : ColInv A B (A.length + B.length) 0 (List.replicate (A.length + B.length) 0) :=
  ⟨Sm.replicate _, by rw [List.length_replicate], by simp [val_replicate, val], fun j _ => by
    rw [List.getD_eq_getElem?_getD, List.getElem?_replicate]; split <;> rfl⟩

set_option maxRecDepth 100000 in
set_option maxHeartbeats 4000000 in
theorem rmul_any {w : World} {va vb : Value} {la lb : List Nat} (ha : Reads w va la) (hb : Reads w vb lb) (hla : la.length ≤ 100000) (hlb : lb.length ≤ 100000) (hsa : Sm la) (hsb : Sm lb) :
    Calls Tryz.prog 131 #[va, vb] w fun e w' => ∃ v, e = .returned v ∧ Reads w' v (digs (nv la * nv lb)) ∧ Below w.heap.size w w' := by
  obtain ⟨i0, hi, hz0, hz1, hz2⟩ := info_parts info_u32
  have k1 := flip (rfit_any ha (by omega))
  have k2 := flip (rfit_any hb (by omega))
  have hA := orzV_reads ha
  have hB := orzV_reads hb
  obtain ⟨a1, c1, e1⟩ := hA.form
  obtain ⟨b1, d1, e2⟩ := hB.form
  rw [e1] at k1 hA
  rw [e2] at k2 hB
  have hlA : (orz la).length ≤ 100000 := Nat.le_trans (orz_length la) hla
  have hlB : (orz lb).length ≤ 100000 := Nat.le_trans (orz_length lb) hlb
  have hSA := Lib.hid (sm_orz hsa)
  have hSB := Lib.hid (sm_orz hsb)
  rw [← val_orz la, ← val_orz lb]
  generalize orz la = A at *
  generalize orz lb = B at *
  obtain ⟨x1, x2, rfl⟩ := ha.form
  obtain ⟨y1, y2, rfl⟩ := hb.form
  have RA := Lib.hid hA
  have RB := Lib.hid hB
  clear ha hb e1 e2 hla hlb hsa hsb hA hB
  obtain ⟨m, hm⟩ : ∃ m, m = A.length := ⟨_, rfl⟩
  obtain ⟨n, hn⟩ : ∃ n, n = B.length := ⟨_, rfl⟩
  obtain ⟨N, hN⟩ : ∃ N, N = m + n := ⟨_, rfl⟩
  have HM := Lib.hid hm
  have HN := Lib.hid hn
  have hNN : (m : Int) + (n : Int) = (N : Int) := by omega
  rw [← hm] at hlA k1
  rw [← hn] at hlB k2
  have hN1 : N ≤ 200000 := by omega
  have HNN := Lib.hid hN
  have hfirst := Lib.hid (ColInv.first A B)
  rw [← hm, ← hn, ← hN] at hfirst
  clear hm hn hN
  have hb0 : Below w.heap.size w w := Below.refl _ w
  go_enter Tryz.func131, Tryz.ntmps131
  go_wp2_with (first
    | (go_at_call 72; refine k1.mono ?_; clear k1; rintro e w' ⟨rfl, rfl⟩)
    | (go_at_call 72; refine k2.mono ?_; clear k2; rintro e w' ⟨rfl, rfl⟩)
    | (at_make; go_loud (refine wpList_make_full _ rfl _ _ 23 rfl w.heap.size 71 i0 (.int .u32 0) 1 Tryz.underlying23 hi hz0 hz1 .i64 .i64 _ _ N rfl rfl (by omega) (by omega) (by rw [hz2]; omega) (by unfold maxLen; omega) (by simp) ?_); intro w1 hown1 hgrow1))
  have hbel1 : Below w.heap.size w w1 := hb0.grown hgrow1 (Nat.le_refl _) (fun _ e => by cases e)
  have hF : Fresh w1 w.heap.size (.slice (some ⟨w.heap.size, 0, none⟩) N N) (List.replicate N 0) := by unfold Fresh; rw [List.length_replicate, ← replicate_zero_u32]; exact hown1
  obtain ⟨g, hg⟩ : ∃ g, g = w.heap.size := ⟨_, rfl⟩
  rw [← hg] at hF ⊢
  have hwg : w.heap.size ≤ g := by omega
  have HF1 := Lib.hid hF
  have HB1 := Lib.hid hbel1
  clear hown1 hgrow1 hF hbel1 hg
  have cellg : ∀ (W : World) (l : List Nat) (j : Nat), Fresh W g (.slice (some ⟨g, 0, none⟩) N N) l → l.length = N → j < N → W.cell? ⟨g, j, none⟩ = some (.int .u32 (l.getD j 0 : Nat)) ∧ W.frozen? ⟨g, j, none⟩ = false := by
    intro W l j hf hl hj
    have hf0 := hf
    unfold Fresh at hf0
    rw [hl] at hf0
    refine ⟨?_, World.ownsRow.frozenAt hf0 j⟩
    rcases hf.form with ⟨e, _⟩ | ⟨g', c, e, _, _, _, hcc⟩
    · cases e
    · simp only [Value.slice.injEq, Option.some.injEq, Addr.mk.injEq, and_true] at e
      obtain ⟨rfl, _⟩ := e
      have := hcc j (by omega)
      rwa [Nat.zero_add] at this
  have CG := Lib.hid cellg
  clear cellg
  go_loopg [6] m (fun gk s wr => ∃ (i : Nat) (p : List Nat), i + gk = m ∧ s = .int .i64 (i : Int) ∧ Hid (Fresh wr g (.slice (some ⟨g, 0, none⟩) N N) p) ∧ Hid (ColInv A B N i p) ∧ Hid (Below w.heap.size w wr))
  case atStart => exact ⟨0, _, by omega, rfl, HF1, hfirst, HB1⟩
  case round =>
    obtain ⟨i, p, hi, rfl, HF, HC, HB⟩ := hrel
    by_cases him : i < m
    · obtain ⟨x, hx⟩ : ∃ x, x = A.getD i 0 := ⟨_, rfl⟩
      have hxb : x < 4294967296 := by rw [hx]; exact hSA.out.getD i
      have HX := Lib.hid hx
      have hR0 := Lib.hid (RowInv.start (x := x) HC.out)
      clear hx
      go_wp2
      go_loopg [7, 8] n (fun g2 sc sk wy => ∃ (k c : Nat) (l : List Nat), k + g2 = n ∧ sk = .int .i64 (k : Int) ∧ sc = .int .u64 (c : Int) ∧ Hid (Fresh wy g (.slice (some ⟨g, 0, none⟩) N N) l) ∧ Hid (RowInv B p N i k c x l) ∧ Hid (Below w.heap.size w wy))
      case atStart => exact ⟨0, 0, p, by omega, rfl, rfl, HF, hR0, HB⟩
      case round =>
        obtain ⟨k, c, l, hk, rfl, rfl, HL, HR, HW⟩ := hrel
        have hc := HR.out.2.2.1
        by_cases hkn : k < n
        · obtain ⟨s, hs⟩ : ∃ s, s = i + k := ⟨_, rfl⟩
          have hss : (i : Int) + (k : Int) = (s : Int) := by omega
          have hsN : s < N := by have := HNN.out; omega
          obtain ⟨y, hy⟩ : ∃ y, y = B.getD k 0 := ⟨_, rfl⟩
          have hyb : y < 4294967296 := by rw [hy]; exact hSB.out.getD k
          obtain ⟨r, hr⟩ : ∃ r, r = l.getD s 0 := ⟨_, rfl⟩
          have hrb : r < 4294967296 := by rw [hr]; exact HR.out.1.getD s
          obtain ⟨P, hP, HP, hPb⟩ := mul_bound hxb hyb
          have hcell := CG.out _ _ _ HL.out HR.out.2.1 hsN
          rw [← hr] at hcell
          obtain ⟨q1, q2⟩ := hcell
          obtain ⟨ba, oa, hba, hca⟩ := (RA.out.below HW.out).addr
          obtain ⟨bb, ob, hbb, hcb⟩ := (RB.out.below HW.out).addr
          rw [← HM.out] at hba hca
          rw [← HN.out] at hbb hcb
          have r1 := hca i him
          have r2 := hcb k hkn
          have ea := (hba (by omega)).1
          subst ea
          have eb := (hbb (by omega)).1
          subst eb
          rw [← HX.out] at r1
          rw [← hy] at r2
          obtain ⟨d, hd⟩ : ∃ d, d = c + P + r := ⟨_, rfl⟩
          have hdd : (c : Int) + (P : Int) + (r : Int) = (d : Int) := by omega
          have hst := HR.out.step (d := d) (y := y) (r := r) (by omega) hxb hSB.out hy (by rw [← hs]; exact hr) (by rw [hd, HP])
          rw [← hs] at hst
          have hcp : c + P < 18446744073709551616 := by omega
          have hdb : d < 18446744073709551616 := by omega
          have hpt := (HL.out.put HR.out.2.1.symm s (d % 4294967296)).1
          rw [show ((d % 4294967296 : Nat) : Int) = (d : Int) % 4294967296 by omega] at hpt
          have fin : ∃ (k' c' : Nat) (l' : List Nat), k' + (n - (k + 1)) = n ∧ Value.int .i64 ((k : Int) + 1) = .int .i64 (k' : Int) ∧ Value.int .u64 ((d : Int) / 4294967296) = .int .u64 (c' : Int) ∧ Hid (Fresh (wr.setCell ⟨g, s, none⟩ (.int .u32 ((d : Int) % 4294967296))) g (.slice (some ⟨g, 0, none⟩) N N) l') ∧ Hid (RowInv B p N i k' c' x l') ∧ Hid (Below w.heap.size w (wr.setCell ⟨g, s, none⟩ (.int .u32 ((d : Int) % 4294967296)))) :=
            ⟨k + 1, d / 4294967296, _, by omega, by simp, by congr 1, Lib.hid hpt, Lib.hid hst, Lib.hid (HW.out.setCell (p := ⟨g, s, none⟩) hwg _)⟩
          have FIN := Lib.hid fin
          clear hs hy hr HP hd hst hpt fin hba hca hbb hcb HL HR HW
          go_wp2
          go_quiet (fail)
          go_wp2
          go_roundg (n - (k + 1))
          case measure => omega
          case rel =>
            obtain ⟨k', c', l', f1, f2, f3, f4, f5, f6⟩ := FIN.out
            exact ⟨k', c', l', f1, f2, f3, f4, f5, Lib.hid ⟨f6.out.os, f6.out.tape, f6.out.output, f6.out.size, f6.out.block⟩⟩
        · obtain rfl : k = n := by omega
          obtain ⟨s, hs⟩ : ∃ s, s = i + k := ⟨_, rfl⟩
          have hss : (i : Int) + (k : Int) = (s : Int) := by omega
          have hsN : s < N := by have := HNN.out; omega
          obtain ⟨q1, q2⟩ := CG.out _ _ _ HL.out HR.out.2.1 hsN
          have hcm : (c : Int) % 4294967296 = (c : Int) := by omega
          have hR := HR.out
          rw [HN.out] at hR
          have hnx := HC.out.next (by have := HN.out; omega) HX.out hR
          rw [← HN.out, ← hs] at hnx
          have hpt := (HL.out.put HR.out.2.1.symm s c).1
          have HNX := Lib.hid hnx
          have HPT := Lib.hid hpt
          have HBN := Lib.hid (HW.out.setCell (p := ⟨g, s, none⟩) hwg (.int .u32 (c : Int)))
          obtain ⟨z, hz⟩ : ∃ z, z = l.getD s 0 := ⟨_, rfl⟩
          rw [← hz] at q1
          clear hz hs hR hnx hpt HL HR HW
          go_wp2
          go_roundg (m - (i + 1))
          case measure => omega
          case rel => exact ⟨i + 1, _, by omega, by simp, HPT, HNX, HBN⟩
    · obtain rfl : i = m := by omega
      have hv : val p = val A * val B := by rw [HC.out.2.2.1, HM.out, List.take_length]
      have HVL := Lib.hid hv
      have kt := rtrim_any HF.out.reads (by have := HC.out.2.1; omega)
      clear hv
      go_wp2_with (go_at_call 67; refine kt.mono ?_; clear kt; rintro e w' ⟨⟨u, rfl, hu⟩, rfl⟩)
      go_ret
      refine ⟨u, rfl, ?_, HB.out⟩
      rw [← HVL.out, ← cut_eq HC.out.1]
      exact hu

end Go.Proofs.YtlfanbjpfoaipaaGreatDoor

namespace Go.Proofs.YtlfanbjpfoaipaaGreatDoor
open Go Go.Proofs Go.RowKit Go.Shelf Nu

attribute [local go_sem] Oper.semAt_some

set_option maxHeartbeats 400000 in
theorem mark_any (m : Nat) (hm : m ≤ 1000000) (W : World) : Calls Tryz.prog 162 #[.int .i64 (m : Int)] W fun e w' => e = .returned (.int .u32 ((1000 + m : Nat) : Int)) ∧ W = w' := by
  have e : ((1000 + m : Nat) : Int) = 1000 + (m : Int) := by omega
  rw [e]
  go_enter Tryz.func162, Tryz.ntmps162
  go_wp2
  go_ret
  exact ⟨rfl, rfl⟩
set_option maxHeartbeats 400000 in
theorem is_any (m : Nat) (hm : m ≤ 1000000) (W : World) : Calls Tryz.prog 174 #[.int .u32 ((1000 + m : Nat) : Int), .int .i64 (m : Int)] W fun e w' => e = .returned (.bool true) ∧ W = w' := by
  have e : ((1000 + m : Nat) : Int) = 1000 + (m : Int) := by omega
  rw [e]
  go_enter Tryz.func174, Tryz.ntmps174
  go_wp2
  go_ret
  exact ⟨by simp, rfl⟩

theorem undrew_grown {W W' : World} {row : Option Nat} (h : W.drew.grownBy W' row) : W.grownBy W' row := ⟨h.os, h.tape, h.output, h.size, h.block⟩
theorem info_held : (Tryz.prog.info? 129).map (fun i => (i.zero, i.size, i.bytes)) = some (some (.agg #[.slice none 0 0, .slice none 0 0, .int .i64 0]), 3, 56) := by kernel_rfl
theorem HRow.other {W : World} {B o : Nat} {v : Value} {es : List (Value × Nat)} (h : HRow W (B + 1) v es) (u : Value) : HRow (W.setCell ⟨B, o, none⟩ u) (B + 1) v es :=
  ownsRow_setCell_other h (fun e => by have := (World.ownsRow.lt h B e).1; omega) u
theorem HRow.snoc {W : World} {B : Nat} {v : Value} {es : List (Value × Nat)} (x : Value) (m : Nat) (h : W.ownsRow (B + 1) 129 3 v (es.length + 1) (hcells es ++ [x, .slice none 0 0, .int .i64 (m : Int)])) : HRow W (B + 1) v (es ++ [(x, m)]) := by
  unfold HRow
  rw [List.length_append, hcells_snoc]
  exact h

set_option maxRecDepth 100000 in
set_option maxHeartbeats 2000000 in
theorem bk_keep {W : World} {B n : Nat} {hv : Value} {es : List (Value × Nat)} {a : Option Addr} {l c : Nat} (h : BookAt W B n hv) (hr : HRow W (B + 1) hv es) (hn : n ≤ 100000) (hl : es.length ≤ 100000) :
    Calls Tryz.prog 73 #[.pointer (some ⟨B, 0, none⟩), .slice a l c] W fun e w' => e = .returned (.tuple #[]) ∧ ∃ hv', BookAt w' B (n + 1) hv' ∧ HRow w' (B + 1) hv' (es ++ [(.slice a l c, n + 1)]) ∧ Below B W w' := by
  obtain ⟨i0, hi, hz0, hz1, hz2⟩ := info_parts info_held
  obtain ⟨N1, hN1⟩ : ∃ N1, N1 = n + 1 := ⟨_, rfl⟩
  have hnn : ((n : Int) + 1) = (N1 : Int) := by omega
  have HN1 := Lib.hid hN1
  rw [← hN1]
  clear hN1
  have r1 := h.c0
  have r2 := h.fr 0
  have hlt := h.lt
  have h1 := Lib.hid (h.setn N1)
  have hr1 := Lib.hid (hr.other (o := 0) (.int .i64 (N1 : Int)))
  have hm1 : es.length + 1 ≤ maxLen := by unfold maxLen; omega
  have hm2 : (es.length + 1) * 56 ≤ 140737488355328 := by omega
  have hb1 := Lib.hid ((Below.refl B W).setCell (p := ⟨B, 0, none⟩) (Nat.le_refl _) (.int .i64 (N1 : Int)))
  clear h hr
  go_enter Tryz.func73, Tryz.ntmps73
  go_wp2
  obtain ⟨W1, hW1⟩ : ∃ W1, W1 = W.setCell ⟨B, 0, none⟩ (.int .i64 (N1 : Int)) := ⟨_, rfl⟩
  rw [← hW1] at h1 hr1 hb1 ⊢
  have s1 := h1.out.c0
  have s2 := h1.out.c2
  have s3 := h1.out.lt
  clear hW1 r1 r2
  go_region_law
    ((first
      | (refine step_append_lies _ (by rfl) _ _ _ (by rfl) (B + 1) 129 i0 _ 3 56 Tryz.underlying31 hi hz0 hz1 hz2 rfl (by omega) _ es.length (hcells es) (by rfl) (World.ownsRow.alloc (World.ownsRow.drew hr1.out) _)
          ⟨W1.heap.size, 0, none⟩ 1 1 [.slice a l c, .slice none 0 0, .int .i64 (N1 : Int)] (by rfl) (by rfl) (World.news_of_block (cs := #[.slice a l c, .slice none 0 0, .int .i64 (N1 : Int)]) (t := 129) (fr := (0, 0)) (heap_alloc_new _ _)) (by simp [Value.oneCell'])
          (by omega) hm1 hm2 (by simp; omega) (W1.heap.size + 1) (by simp) ?_; intro gg cap w6 hown1 hgrow hat hlt6; have hg6 := undrew_grown hgrow; have b6 : BookAt w6 B N1 hv := (h1.out.alloc _).kept hg6 (fun e => by have := (World.ownsRow.lt hr1.out B e.symm).1; omega); have f6 := b6.fr 2; have c6 := b6.c2)))
  all_goals
    go_end0
    have q1 := HRow.snoc (.slice a l c) N1 hown1
    exact ⟨rfl, _, b6.setv _, q1.other _, (((hb1.out.alloc (by omega) _).grown hg6 (by simp; omega) (fun k e => by have := (World.ownsRow.lt hr1.out k e).1; omega)).setCell (p := ⟨B, 2, none⟩) (Nat.le_refl _) _)⟩

end Go.Proofs.YtlfanbjpfoaipaaGreatDoor

namespace Go.Proofs.YtlfanbjpfoaipaaGreatDoor
open Go Go.Proofs Go.RowKit Go.Shelf Nu

attribute [local go_sem] Oper.semAt_some

/-- a list in a box of its own -/
def HBox (W : World) (b : Nat) (v u : Value) (m : Nat) : Prop := W.heap[b]? = some (.cells #[v, u, .int .i64 (m : Int)] 129 (0, 0))
section
variable {W W' : World} {b m : Nat} {v u : Value}
theorem HBox.lt (h : HBox W b v u m) : b < W.heap.size := (Array.getElem?_eq_some_iff.1 h).1
theorem HBox.c0 (h : HBox W b v u m) : W.cell? ⟨b, 0, none⟩ = some v := by rw [cell_of_row W b 0 _ _ _ h]; rfl
theorem HBox.c1 (h : HBox W b v u m) : W.cell? ⟨b, 1, none⟩ = some u := by rw [cell_of_row W b 1 _ _ _ h]; rfl
theorem HBox.c2 (h : HBox W b v u m) : W.cell? ⟨b, 2, none⟩ = some (.int .i64 (m : Int)) := by rw [cell_of_row W b 2 _ _ _ h]; rfl
theorem HBox.other (h : HBox W b v u m) {g o : Nat} (hne : b ≠ g) (x : Value) : HBox (W.setCell ⟨g, o, none⟩ x) b v u m := (Below.heap_setCell W ⟨g, o, none⟩ x b hne).trans h
theorem HBox.kept {row : Option Nat} (h : HBox W b v u m) (hg : W.grownBy W' row) (hne : some b ≠ row) : HBox W' b v u m := (hg.block b h.lt hne).trans h
theorem HBox.alloc (h : HBox W b v u m) (o : Obj) : HBox (W.alloc o) b v u m := (Below.heap_alloc W o b h.lt).trans h
theorem HBox.new (W : World) (v u : Value) (m : Nat) : HBox (W.alloc (.cells #[v, u, .int .i64 (m : Int)] 129)) W.heap.size v u m := World.alloc_heap_new W _
end

section
variable (w : World) (base B h n N cap : Nat) (A : Nat → Option Addr) (L C M : Nat → Nat)
/-- the lists lie apart -/
structure Lies : Prop where
  base : base ≤ B
  up : B < h
  blk : ∀ j g, j < N → (Value.slice (A j) (L j) (C j)).ownBlock = some g → g < B
  dis : ∀ j k, j < N → k < N → j ≠ k → (Value.slice (A j) (L j) (C j)).ownBlock = none ∨ (Value.slice (A j) (L j) (C j)).ownBlock ≠ (Value.slice (A k) (L k) (C k)).ownBlock
  len : ∀ j, j < N → L j ≤ 100000
  num : ∀ j, j < N → M j ≤ 1000000
  few : N ≤ 100000
/-- i of them are filled, and the next one up to k -/
def FillK (i k : Nat) (W : World) : Prop :=
  BookAt W B n (.slice (some ⟨h, 0, none⟩) N cap) ∧ HAt W h N (fun j => .slice (A j) (L j) (C j)) (fun _ => .slice none 0 0) M ∧ Below base w W ∧
  ∀ j, j < N → ∃ l, l.length = L j ∧ Fresh W base (.slice (A j) (L j) (C j)) l ∧ (j < i → l = List.replicate (L j) (1000 + M j)) ∧ (j = i → l.take k = List.replicate k (1000 + M j))
end
section
variable {w W : World} {base B h n N cap i k : Nat} {A : Nat → Option Addr} {L C M : Nat → Nat}
theorem FillK.alloc (D : Lies base B h N A L C M) (F : FillK w base B h n N cap A L C M i k W) (o : Obj) : FillK w base B h n N cap A L C M i k (W.alloc o) := by
  obtain ⟨h1, h2, h3, h4⟩ := F
  have hs : base ≤ W.heap.size := Nat.le_trans D.base (Nat.le_of_lt h1.lt)
  refine ⟨h1.alloc o, h2.kept (World.grownBy_alloc W o none) (by simp), h3.alloc hs o, fun j hj => ?_⟩
  obtain ⟨l, e, f, g⟩ := h4 j hj
  exact ⟨l, e, f.alloc o, g⟩
theorem FillK.drew (F : FillK w base B h n N cap A L C M i k W) : FillK w base B h n N cap A L C M i k W.drew := ⟨F.1, F.2.1, F.2.2.1.drew, F.2.2.2⟩
theorem FillK.next (F : FillK w base B h n N cap A L C M i (L i) W) : FillK w base B h n N cap A L C M (i + 1) 0 W := by
  refine ⟨F.1, F.2.1, F.2.2.1, fun j hj => ?_⟩
  obtain ⟨l, e, f, g1, g2⟩ := F.2.2.2 j hj
  refine ⟨l, e, f, fun hji => ?_, fun _ => rfl⟩
  by_cases hj' : j = i
  · have := g2 hj'
    subst hj'
    rwa [List.take_of_length_le (by omega)] at this
  · exact g1 (by omega)
theorem FillK.put (D : Lies base B h N A L C M) {g : Nat} (hA : A i = some ⟨g, 0, none⟩) (hi : i < N) (hk : k < L i) (F : FillK w base B h n N cap A L C M i k W) : FillK w base B h n N cap A L C M i (k + 1) (W.setCell ⟨g, k, none⟩ (.int .u32 ((1000 + M i : Nat) : Int))) := by
  obtain ⟨h1, h2, h3, h4⟩ := F
  have eo : (Value.slice (A i) (L i) (C i)).ownBlock = some g := by rw [hA]; rfl
  have hgB := D.blk i g hi eo
  have hup := D.up
  have hb : base ≤ g := by obtain ⟨l, e, f, _⟩ := h4 i hi; exact (f.lt' eo).1
  refine ⟨h1.other (by omega) _, h2.other (by omega) _, h3.setCell (p := ⟨g, k, none⟩) hb _, fun j hj => ?_⟩
  obtain ⟨l, e, f, g1, g2⟩ := h4 j hj
  by_cases hji : j = i
  · subst hji
    rw [hA] at f ⊢
    refine ⟨l.set k (1000 + M j), by rw [List.length_set, e], (f.put e.symm k (1000 + M j)).1, fun hlt => absurd hlt (Nat.lt_irrefl _), fun _ => ?_⟩
    rw [set_take l k _ (by omega), g2 rfl, List.replicate_succ']
  · refine ⟨l, e, ownsRow_setCell_other f (fun e2 => ?_) _, g1, fun e2 => absurd e2 hji⟩
    rcases D.dis j i hj hi hji with h5 | h5
    · rw [h5] at e2; cases e2
    · rw [eo] at h5; exact h5 e2
theorem FillK.form (F : FillK w base B h n N cap A L C M i k W) (j : Nat) (hj : j < N) (h0 : 0 < L j) : ∃ g, A j = some ⟨g, 0, none⟩ ∧ g < W.heap.size ∧ L j ≤ C j ∧ (∀ o, o < L j → ∃ x : Nat, W.cell? ⟨g, o, none⟩ = some (.int .u32 (x : Int))) ∧ ∀ o, W.frozen? ⟨g, o, none⟩ = false := by
  obtain ⟨l, e, f, _⟩ := F.2.2.2 j hj
  have f0 := f
  rcases f.form with ⟨e1, _⟩ | ⟨g, c, e1, _, hg, hn, hc⟩
  · simp only [Value.slice.injEq] at e1
    omega
  · simp only [Value.slice.injEq] at e1
    obtain ⟨e1, e2, e3⟩ := e1
    refine ⟨g, e1, hg, by omega, fun o ho => ⟨_, by have := hc o (by omega); rwa [Nat.zero_add] at this⟩, fun o => ?_⟩
    rw [e1] at f0
    unfold Fresh at f0
    rw [e] at f0
    exact World.ownsRow.frozenAt f0 o
end

set_option maxRecDepth 100000 in
set_option maxHeartbeats 2000000 in
theorem fill_any {w W : World} {base B h n N cap : Nat} {A : Nat → Option Addr} {L C M : Nat → Nat} (D : Lies base B h N A L C M) (hN : N ≤ cap) (F : FillK w base B h n N cap A L C M 0 0 W) :
    Calls Tryz.prog 75 #[.pointer (some ⟨B, 0, none⟩)] W fun e w' => e = .returned (.tuple #[]) ∧ FillK w base B h n N cap A L C M N 0 w' := by
  have hD := Lib.hid D
  have hF := Lib.hid F
  have hfew := D.few
  clear D F
  go_enter Tryz.func75, Tryz.ntmps75
  go_wp2
  go_loopg [2] N (fun g s wr => ∃ i : Nat, i + g = N ∧ s = .int .i64 (i : Int) ∧ Hid (FillK w base B h n N cap A L C M i 0 wr))
  case atStart => exact ⟨0, by omega, rfl, hF⟩
  case round =>
    obtain ⟨i, hi, rfl, HK⟩ := hrel
    have r1 := HK.out.1.c2
    by_cases hlt : i < N
    · obtain ⟨c0, c1, c2⟩ := HK.out.2.1.2 i hlt
      have hbs := HK.out.1.lt
      dsimp only at c0
      have hLi := (hD.out).len i hlt
      have hMi := (hD.out).num i hlt
      have hHB := Lib.hid (HBox.new wr (.slice (A i) (L i) (C i)) (.slice none 0 0) (M i))
      have hFA := Lib.hid (HK.out.alloc hD.out (.cells #[.slice (A i) (L i) (C i), .slice none 0 0, .int .i64 (M i : Int)] 129))
      go_wp2
      obtain ⟨hb, hhb⟩ : ∃ hb, hb = wr.heap.size := ⟨_, rfl⟩
      rw [← hhb] at hHB hbs ⊢
      obtain ⟨wo, hwo⟩ : ∃ wo, wo = wr.alloc (.cells #[.slice (A i) (L i) (C i), .slice none 0 0, .int .i64 (M i : Int)] 129) := ⟨_, rfl⟩
      rw [← hwo] at hHB hFA ⊢
      clear hwo hhb HK r1 c0 c1 c2
      go_loopg [4] (L i) (fun g s wy => ∃ k : Nat, k + g = L i ∧ s = .int .i64 (k : Int) ∧ Hid (FillK w base B h n N cap A L C M i k wy) ∧ Hid (HBox wy hb (.slice (A i) (L i) (C i)) (.slice none 0 0) (M i)))
      case atStart => exact ⟨0, by omega, rfl, hFA, hHB⟩
      case round =>
        obtain ⟨k, hk, rfl, HF, HB⟩ := hrel
        have r1 := HB.out.c0
        have r2 := HB.out.c2
        by_cases hkl : k < L i
        · obtain ⟨g, ea, hg, hcap, hcell, hfr⟩ := HF.out.form i hlt (by omega)
          obtain ⟨x, r3⟩ := hcell k hkl
          have r4 := hfr k
          have hp := HF.out.put hD.out ea hlt hkl
          have kM := mark_any (M i) hMi
          obtain ⟨mk, hmk⟩ : ∃ mk, mk = 1000 + M i := ⟨_, rfl⟩
          rw [← hmk] at hp kM
          have HP := Lib.hid hp
          clear hmk hp
          have hgb : hb ≠ g := by
            have := hD.out.blk i g hlt (by rw [ea]; rfl)
            omega
          have hB0 := HB.out
          have HB2 := Lib.hid (hB0.other hgb (o := k) (.int .u32 (mk : Int)))
          have q1 := HB2.out.c0
          have q2 := HB2.out.c2
          rw [ea] at q1
          clear hB0
          rw [ea] at r1
          clear hcell hfr ea
          go_wp2
          go_region_held3 (fun w' => w'.cell? ⟨hb, 0, none⟩ = some (.slice (some ⟨g, 0, none⟩) (L i) (C i)) ∧ w'.cell? ⟨hb, 2, none⟩ = some (.int .i64 (M i : Int)))
            (first
              | go_keep
              | (exact ⟨r1, r2⟩)
              | (exact ⟨q1, q2⟩))
            ((first
              | (go_at_call 162; (with_reducible refine (kM _).mono ?_); rintro e w5 ⟨rfl, rfl⟩)))
          go_wp2
          go_roundg (L i - (k + 1))
          case measure => omega
          case rel => exact ⟨k + 1, by omega, by simp, Lib.hid HP.out.drew, Lib.hid (show HBox _ _ _ _ _ from HB2.out)⟩
        · obtain rfl : k = L i := by omega
          have HN := Lib.hid HF.out.next
          obtain ⟨z, hz⟩ : ∃ z, z = L i := ⟨_, rfl⟩
          rw [← hz] at r1 ⊢
          clear hz HF HB
          go_wp2
          go_roundg (N - (i + 1))
          case measure => omega
          case rel => exact ⟨i + 1, by omega, by simp, HN⟩
    · obtain rfl : i = N := by omega
      go_wp2
      go_end0
      exact ⟨rfl, HK.out⟩

end Go.Proofs.YtlfanbjpfoaipaaGreatDoor

namespace Go.Proofs.YtlfanbjpfoaipaaGreatDoor
open Go Go.Proofs Go.RowKit Go.Shelf Nu

attribute [local go_sem] Oper.semAt_some

theorem Reads.keptr {W W' : World} {v : Value} {l : List Nat} {row : Option Nat} (h : Reads W v l) (hg : W.grownBy W' row) (hne : v.ownBlock = none ∨ v.ownBlock ≠ row) : Reads W' v l := by
  rcases h with h | ⟨b, off, cap, rfl, hb', hc, hl⟩ | h
  · exact .inl h
  · have hb : some b ≠ row := by
      rcases hne with h | h
      · cases h
      · exact h
    exact .inr (.inl ⟨b, off, cap, rfl, Nat.lt_of_lt_of_le hb' hg.size, hc, fun j hj => (World.cell?_of_block (w := W) (hg.block b hb' hb)).trans (hl j hj)⟩)
  · exact .inr (.inr h)
/-- what is read of a slice that is appended to: its row holds it still -/
theorem reads_append {W W' : World} {base L K m c : Nat} {a : Option Addr} {u u' : Value} (form : (a = none ∧ L = 0 ∧ c = 0) ∨ ∃ g, a = some ⟨g, 0, none⟩) (hv : Reads W (.slice a L c) (List.replicate L m)) (hK : L ≤ K)
    (hu : Fresh W' base u' (List.replicate K m)) (hor : (u'.ownBlock = u.ownBlock ∧ W.grownBy W' u.ownBlock) ∨ (u'.ownBlock = some W.heap.size ∧ W.grownBy W' none)) : Reads W' (.slice a L c) (List.replicate L m) := by
  rcases form with ⟨rfl, rfl, rfl⟩ | ⟨g, rfl⟩
  · exact Reads.nil W'
  · rcases hor with ⟨e, hg⟩ | ⟨_, hg⟩
    · by_cases hgu : some g = u.ownBlock
      · rcases hu.form with ⟨e1, e2⟩ | ⟨g', cap, rfl, _, hlt, hn, hc⟩
        · have : K = 0 := by have := congrArg List.length e2; simpa using this
          obtain rfl : L = 0 := by omega
          subst e1
          rw [← hgu] at e
          cases e
        · rw [← hgu] at e
          have eg : g' = g := by simpa [Value.ownBlock] using e
          subst eg
          rcases hv with ⟨e3, _⟩ | ⟨b, off, cp, e3, _, hcp, _⟩ | ⟨x, e3, e4⟩
          · cases e3
          · simp only [Value.slice.injEq, Option.some.injEq, Addr.mk.injEq, and_true] at e3
            obtain ⟨⟨rfl, rfl⟩, _, rfl⟩ := e3
            refine .inr (.inl ⟨g', 0, c, by rw [List.length_replicate], hlt, hcp, fun j hj => ?_⟩)
            rw [List.length_replicate] at hj
            have := hc j (by rw [List.length_replicate]; omega)
            rw [this]
            congr 3
            rw [List.getD_eq_getElem?_getD, List.getD_eq_getElem?_getD, List.getElem?_replicate, List.getElem?_replicate, if_pos hj, if_pos (by omega)]
          · refine .inr (.inr ⟨⟨g', 0, none⟩, ?_, e4⟩)
            simp only [Value.slice.injEq] at e3
            obtain ⟨_, rfl, rfl⟩ := e3
            rfl
      · exact hv.keptr hg (.inr (by simpa [Value.ownBlock] using hgu))
    · exact hv.keptr hg (.inr (by simp [Value.ownBlock]))

section
variable (w : World) (base B h n N cap : Nat) (A : Nat → Option Addr) (L C M : Nat → Nat) (S0 : Nat)
def BlkC (j : Nat) (u : Value) : Prop := ∀ g, u.ownBlock = some g → (Value.slice (A j) (L j) (C j)).ownBlock = some g ∨ S0 ≤ g
def Forms : Prop := ∀ j, j < N → (A j = none ∧ L j = 0 ∧ C j = 0) ∨ ∃ g, A j = some ⟨g, 0, none⟩
/-- i of them are grown -/
def GrowO (i : Nat) (W : World) : Prop :=
  ∃ G : Nat → Value, (∀ j, i ≤ j → G j = .slice none 0 0) ∧ BookAt W B n (.slice (some ⟨h, 0, none⟩) N cap) ∧ HAt W h N (fun j => .slice (A j) (L j) (C j)) G M ∧ Below base w W ∧ S0 ≤ W.heap.size ∧
    (∀ j, j < N → Reads W (.slice (A j) (L j) (C j)) (List.replicate (L j) (1000 + M j))) ∧ (∀ j, j < N → i ≤ j → Fresh W base (.slice (A j) (L j) (C j)) (List.replicate (L j) (1000 + M j))) ∧
    ∀ j, j < N → j < i → Fresh W base (G j) (List.replicate (L j + 40) (1000 + M j)) ∧ BlkC A L C S0 j (G j)
/-- .. and the next one by k -/
def GrowI (S1 : Nat) (G : Nat → Value) (i k : Nat) (u : Value) (W : World) : Prop :=
  (∀ j, i ≤ j → G j = .slice none 0 0) ∧ BookAt W B n (.slice (some ⟨h, 0, none⟩) N cap) ∧ HAt W h N (fun j => .slice (A j) (L j) (C j)) G M ∧ Below base w W ∧ S1 ≤ W.heap.size ∧
    (∀ j, j < N → Reads W (.slice (A j) (L j) (C j)) (List.replicate (L j) (1000 + M j))) ∧ (∀ j, j < N → i < j → Fresh W base (.slice (A j) (L j) (C j)) (List.replicate (L j) (1000 + M j))) ∧
    (∀ j, j < N → j < i → Fresh W base (G j) (List.replicate (L j + 40) (1000 + M j)) ∧ BlkC A L C S0 j (G j) ∧ ∀ g, (G j).ownBlock = some g → g < S1) ∧
    Fresh W base u (List.replicate (L i + k) (1000 + M i)) ∧ BlkC A L C S1 i u
end
section
variable {w W : World} {base B h n N cap S0 S1 i k : Nat} {A : Nat → Option Addr} {L C M : Nat → Nat} {G : Nat → Value} {u : Value}
theorem GrowO.start (F : FillK w base B h n N cap A L C M N 0 W) : GrowO w base B h n N cap A L C M W.heap.size 0 W := by
  refine ⟨fun _ => .slice none 0 0, fun _ _ => rfl, F.1, F.2.1, F.2.2.1, Nat.le_refl _, fun j hj => ?_, fun j hj _ => ?_, fun j _ hj => absurd hj (Nat.not_lt_zero _)⟩
  · obtain ⟨l, _, f, g, _⟩ := F.2.2.2 j hj
    have := f.reads
    rwa [g hj] at this
  · obtain ⟨l, _, f, g, _⟩ := F.2.2.2 j hj
    rwa [g hj] at f
theorem FillK.forms (F : FillK w base B h n N cap A L C M i k W) : Forms N A L C := by
  intro j hj
  obtain ⟨l, e, f, _⟩ := F.2.2.2 j hj
  rcases f.form with ⟨e1, _⟩ | ⟨g, c, e1, _⟩
  · simp only [Value.slice.injEq] at e1; exact .inl e1
  · simp only [Value.slice.injEq] at e1; exact .inr ⟨g, e1.1⟩
theorem GrowO.inner (D : Lies base B h N A L C M) (F : GrowO w base B h n N cap A L C M S0 i W) (hi : i < N) (o : Obj) :
    ∃ G, GrowI w base B h n N cap A L C M S0 (W.heap.size + 1) G i 0 (.slice (A i) (L i) (C i)) (W.alloc o) := by
  obtain ⟨G, h0, h1, h2, h3, h4, h5, h6, h7⟩ := F
  have hs : base ≤ W.heap.size := Nat.le_trans D.base (Nat.le_of_lt h1.lt)
  have hb : Below W.heap.size W (W.alloc o) := (Below.refl _ _).alloc (Nat.le_refl _) o
  refine ⟨G, h0, h1.alloc o, h2.kept (World.grownBy_alloc W o none) (by simp), h3.alloc hs o, by simp, fun j hj => (h5 j hj).below hb, fun j hj hji => (h6 j hj (by omega)).alloc o, fun j hj hji => ?_, (h6 i hi (Nat.le_refl _)).alloc o, fun g e => .inl e⟩
  obtain ⟨f, c⟩ := h7 j hj hji
  exact ⟨f.alloc o, c, fun g e => by have := (f.lt' e).2; omega⟩
theorem GrowI.step {w3 : World} {u' : Value} {z : Int} {o : Obj} (D : Lies base B h N A L C M) (hf : Forms N A L C) (hi : i < N) (hS : S1 ≤ W.heap.size) (hhS : h < S0) (hSS : S0 ≤ S1) (F : GrowI w base B h n N cap A L C M S0 S1 G i k u W) (hz : z = ((1000 + M i : Nat) : Int))
    (hown : w3.ownsRow base 71 1 u' ((List.replicate (L i + k) (1000 + M i)).length + 1) ((List.replicate (L i + k) (1000 + M i)).map u32v ++ [.int .u32 z]))
    (hor : (u'.ownBlock = u.ownBlock ∧ (W.alloc o).grownBy w3 u.ownBlock) ∨ (u'.ownBlock = some (W.alloc o).heap.size ∧ (W.alloc o).grownBy w3 none)) :
    GrowI w base B h n N cap A L C M S0 S1 G i (k + 1) u' w3 ∧ ∃ row, (W.alloc o).grownBy w3 row ∧ ∀ g, row = some g → g < B ∨ S1 ≤ g := by
  obtain ⟨h0, h1, h2, h3, h4, h5, h6, h7, h8, h9⟩ := F
  have hs : base ≤ W.heap.size := Nat.le_trans D.base (Nat.le_of_lt h1.lt)
  have hb : Below W.heap.size W (W.alloc o) := (Below.refl _ _).alloc (Nat.le_refl _) o
  have hup := D.up
  have hfu : Fresh w3 base u' (List.replicate (L i + (k + 1)) (1000 + M i)) := by
    unfold Fresh
    rw [hz] at hown
    rw [show L i + (k + 1) = (L i + k) + 1 by omega, List.replicate_succ', List.map_append, List.length_append]
    exact hown
  -- the row that may have turned
  obtain ⟨row, hrow, hr1, hr2⟩ : ∃ row, (W.alloc o).grownBy w3 row ∧ (row = none ∨ row = u.ownBlock) ∧ ∀ g, row = some g → (Value.slice (A i) (L i) (C i)).ownBlock = some g ∨ S1 ≤ g := by
    rcases hor with ⟨_, hg⟩ | ⟨_, hg⟩
    · exact ⟨_, hg, .inr rfl, fun g e => h9 g e⟩
    · exact ⟨none, hg, .inl rfl, fun g e => by cases e⟩
  have hlow : ∀ g, row = some g → g < B ∨ S1 ≤ g := fun g e => by
    rcases hr2 g e with h | h
    · exact .inl (D.blk i g hi h)
    · exact .inr h
  have hV : ∀ j, j < N → j ≠ i → (Value.slice (A j) (L j) (C j)).ownBlock = none ∨ (Value.slice (A j) (L j) (C j)).ownBlock ≠ row := by
    intro j hj hji
    cases hv : (Value.slice (A j) (L j) (C j)).ownBlock with
    | none => exact .inl rfl
    | some g =>
      refine .inr (fun e => ?_)
      have hgB := D.blk j g hj hv
      rcases hr2 g e.symm with h | h
      · rcases D.dis j i hj hi hji with h' | h'
        · rw [hv] at h'; cases h'
        · exact h' (hv.trans h.symm)
      · omega
  have hbB : some B ≠ row := fun e => by rcases hlow B e.symm with h | h <;> omega
  have hhB : some h ≠ row := fun e => by rcases hlow h e.symm with h | h <;> omega
  refine ⟨⟨h0, (h1.alloc o).kept hrow hbB, (h2.kept (World.grownBy_alloc W o none) (by simp)).kept hrow hhB, (h3.alloc hs o).grown hrow (by simp; omega) (fun g e => ?_), ?_, fun j hj => ?_, fun j hj hji => ?_, fun j hj hji => ?_, hfu, fun g e => ?_⟩, row, hrow, hlow⟩
  · rcases hr1 with h | h
    · rw [h] at e; cases e
    · rw [h] at e; exact (h8.lt' e).1
  · have := hrow.size; simp at this; omega
  · by_cases hji : j = i
    · subst hji
      exact reads_append (hf j hj) ((h5 j hj).below hb) (by omega) hfu hor
    · exact ((h5 j hj).below hb).keptr hrow (hV j hj hji)
  · exact ((h6 j hj hji).alloc o).keptr hrow (hV j hj (by omega))
  · obtain ⟨f, c, l⟩ := h7 j hj hji
    refine ⟨(f.alloc o).keptr hrow ?_, c, l⟩
    cases hg : (G j).ownBlock with
    | none => exact .inl rfl
    | some g =>
      refine .inr (fun e => ?_)
      have hl := l g hg
      rcases hr2 g e.symm with h | h
      · rcases c g hg with h' | h'
        · rcases D.dis j i hj hi (by omega) with h'' | h''
          · rw [h'] at h''; cases h''
          · exact h'' (h'.trans h.symm)
        · have := D.blk i g hi h; omega
      · omega
  · rcases hor with ⟨e1, _⟩ | ⟨e1, _⟩
    · rw [e1] at e; exact h9 g e
    · rw [e1] at e
      simp only [World.size_alloc, Option.some.injEq] at e
      exact .inr (by omega)
theorem GrowI.next (D : Lies base B h N A L C M) (hi : i < N) (hhS : h < S0) (hSS : S0 ≤ S1) (F : GrowI w base B h n N cap A L C M S0 S1 G i 40 u W) :
    GrowO w base B h n N cap A L C M S0 (i + 1) (W.setCell ⟨h, i * 3 + 1, none⟩ u) := by
  obtain ⟨h0, h1, h2, h3, h4, h5, h6, h7, h8, h9⟩ := F
  have hup := D.up
  have hbb := D.base
  have hg : W.grownBy (W.setCell ⟨h, i * 3 + 1, none⟩ u) (some h) := ⟨rfl, rfl, rfl, by simp, fun k _ hk => heap_setCell_other W ⟨h, i * 3 + 1, none⟩ k u (fun e => hk (by simp [e]))⟩
  have off : ∀ j, j < N → (Value.slice (A j) (L j) (C j)).ownBlock = none ∨ (Value.slice (A j) (L j) (C j)).ownBlock ≠ some h := fun j hj => .inr (fun e => by have := D.blk j h hj e; omega)
  refine ⟨fun j => if j = i then u else G j, fun j hj => by show (if j = i then u else G j) = _; rw [if_neg (by omega)]; exact h0 j (by omega), h1.other (by omega) _, h2.put hi u, h3.setCell (p := ⟨h, i * 3 + 1, none⟩) (show base ≤ h by omega) _, by simp; omega, fun j hj => (h5 j hj).keptr hg (off j hj), fun j hj hji => (h6 j hj (by omega)).keptr hg (off j hj), fun j hj hji => ?_⟩
  by_cases e : j = i
  · subst e
    simp only [if_true]
    refine ⟨h8.keptr hg (.inr fun e => ?_), fun g e => ?_⟩
    · rcases h9 h e with h' | h'
      · have := D.blk j h hj h'; omega
      · omega
    · rcases h9 g e with h' | h'
      · exact .inl h'
      · exact .inr (by omega)
  · simp only [if_neg e]
    obtain ⟨f, c, l⟩ := h7 j hj (by omega)
    refine ⟨f.keptr hg (.inr fun e => ?_), c⟩
    rcases c h e with h' | h'
    · have := D.blk j h hj h'; omega
    · omega
end

end Go.Proofs.YtlfanbjpfoaipaaGreatDoor

namespace Go.Proofs.YtlfanbjpfoaipaaGreatDoor
open Go Go.Proofs Go.RowKit Go.Shelf Nu

attribute [local go_sem] Oper.semAt_some

set_option maxRecDepth 100000 in
set_option maxHeartbeats 2000000 in
theorem grow_any {w W : World} {base B h n N cap S0 : Nat} {A : Nat → Option Addr} {L C M : Nat → Nat} (D : Lies base B h N A L C M) (hf : Forms N A L C) (hN : N ≤ cap) (hhS : h < S0) (F : GrowO w base B h n N cap A L C M S0 0 W) :
    Calls Tryz.prog 87 #[.pointer (some ⟨B, 0, none⟩)] W fun e w' => e = .returned (.tuple #[]) ∧ GrowO w base B h n N cap A L C M S0 N w' := by
  obtain ⟨i0, hi0, hz0, hz1, hz2⟩ := info_parts info_u32
  have hD := Lib.hid D
  have hF := Lib.hid F
  have hFo := Lib.hid hf
  have hfew := D.few
  clear D F hf
  go_enter Tryz.func87, Tryz.ntmps87
  go_wp2
  go_loopg [2] N (fun g s wr => ∃ i : Nat, i + g = N ∧ s = .int .i64 (i : Int) ∧ Hid (GrowO w base B h n N cap A L C M S0 i wr))
  case atStart => exact ⟨0, by omega, rfl, hF⟩
  case round =>
    obtain ⟨i, hi, rfl, HK⟩ := hrel
    by_cases hlt : i < N
    · obtain ⟨r1, c0, c1, c2, hbs, hS0⟩ : wr.cell? ⟨B, 2, none⟩ = some (.slice (some ⟨h, 0, none⟩) N cap) ∧ wr.cell? ⟨h, i * 3, none⟩ = some (.slice (A i) (L i) (C i)) ∧ wr.cell? ⟨h, i * 3 + 1, none⟩ = some (.slice none 0 0) ∧ wr.cell? ⟨h, i * 3 + 2, none⟩ = some (.int .i64 (M i : Int)) ∧ B < wr.heap.size ∧ S0 ≤ wr.heap.size := by
        obtain ⟨G, h0, h1, h2, _, h4, _⟩ := HK.out
        have k := h2.2 i hlt
        rw [h0 i (Nat.le_refl _)] at k
        exact ⟨h1.c2, k.1, k.2.1, k.2.2, h1.lt, h4⟩
      have hLi := (hD.out).len i hlt
      have hMi := (hD.out).num i hlt
      have hHB := Lib.hid (HBox.new wr (.slice (A i) (L i) (C i)) (.slice none 0 0) (M i))
      obtain ⟨G, hFA⟩ := HK.out.inner hD.out hlt (.cells #[.slice (A i) (L i) (C i), (.slice none 0 0), .int .i64 (M i : Int)] 129)
      have HFA := Lib.hid hFA
      clear hFA
      go_wp2
      obtain ⟨hb, hhb⟩ : ∃ hb, hb = wr.heap.size := ⟨_, rfl⟩
      rw [← hhb] at hHB HFA hbs hS0 ⊢
      obtain ⟨wo, hwo⟩ : ∃ wo, wo = wr.alloc (.cells #[.slice (A i) (L i) (C i), (.slice none 0 0), .int .i64 (M i : Int)] 129) := ⟨_, rfl⟩
      rw [← hwo] at hHB HFA ⊢
      have q0 := hHB.out.c0
      clear hwo hhb HK r1 c0 c1 c2
      go_wp2
      go_loopg [4, 5] 40 (fun g u s wy => ∃ k : Nat, k + g = 40 ∧ s = .int .i64 (k : Int) ∧ Hid (GrowI w base B h n N cap A L C M S0 (hb + 1) G i k u wy) ∧ Hid (HBox wy hb (.slice (A i) (L i) (C i)) (.slice none 0 0) (M i)))
      case atStart => exact ⟨0, by omega, rfl, HFA, hHB⟩
      case round =>
        obtain ⟨k, hk, rfl, HF, HB⟩ := hrel
        have r2 := HB.out.c2
        have hbase : base ≤ wr.heap.size := by
          have h1 := hD.out.base
          have h2 := HF.out.2.1.lt
          omega
        by_cases hk4 : k < 40
        · have hrow := HF.out.2.2.2.2.2.2.2.2.1
          have kM := mark_any (M i) hMi
          obtain ⟨mk, hmk⟩ : ∃ mk, mk = 1000 + M i := ⟨_, rfl⟩
          rw [← hmk] at hrow kM
          have HMK := Lib.hid hmk
          clear hmk
          go_wp2_with (first
            | (go_at_call 162; (with_reducible refine (kM _).mono ?_); rintro e w5 ⟨rfl, rfl⟩)
            | (at_builtin; go_loud (refine wpList_append_or _ rfl _ _ 22 rfl base 71 i0 (.int .u32 0) 1 4 Tryz.underlying22 hi0 hz0 hz1 hz2 rfl (by decide) _ _ _ rfl (World.ownsRow.alloc hrow _) ⟨wr.heap.size, 0, none⟩ 1 1 [_] rfl rfl (one_new _ _ _ _ (by simp)) (by simp [Value.oneCell']) (by rw [List.length_replicate]; exact small_max (by omega)) (by rw [List.length_replicate]; omega) (by simp; omega) ?_); intro v' w3 hown' hor))
          rw [HMK.out] at hown'
          have hst := GrowI.step hD.out hFo.out hlt HF.out.2.2.2.2.1 hhS (by omega) HF.out rfl hown' hor
          obtain ⟨row, hrw, hlow⟩ := hst.2
          have HG := Lib.hid hst.1
          have HB2 := Lib.hid ((HB.out.alloc _).kept hrw (fun e => by rcases hlow hb e.symm with h | h <;> omega))
          clear hown' hor hst hrw hlow hrow
          go_roundg (40 - (k + 1))
          case measure => omega
          case rel => exact ⟨k + 1, by omega, by simp, HG, HB2⟩
        · obtain rfl : k = 40 := by omega
          have hr2 := HF.out.2.1.c2
          obtain ⟨_, s1, s2⟩ := HF.out.2.2.1.2 i hlt
          rw [HF.out.1 i (Nat.le_refl _)] at s1
          have s3 := HF.out.2.2.1.fr (i * 3 + 1)
          have hN1 := HF.out.next hD.out hlt hhS (by omega)
          have hn1 := HF.out.2.2.2.2.2.2.2.2.1.form
          obtain ⟨g4, c4, e4⟩ : ∃ g4 c4, u4 = .slice (some ⟨g4, 0, none⟩) (L i + 40) c4 := by
            rcases hn1 with ⟨_, e2⟩ | ⟨g, c, e, _⟩
            · have := congrArg List.length e2
              simp at this
            · rw [List.length_replicate] at e; exact ⟨g, c, e⟩
          rw [e4] at hN1 ⊢
          have HN1 := Lib.hid hN1
          clear hn1 hN1 e4 HF HB s2
          go_wp2
          go_roundg (N - (i + 1))
          case measure => omega
          case rel => exact ⟨i + 1, by omega, by simp, HN1⟩
    · obtain rfl : i = N := by omega
      have r1 : wr.cell? ⟨B, 2, none⟩ = some (.slice (some ⟨h, 0, none⟩) i cap) := by obtain ⟨G, _, h1, _⟩ := HK.out; exact h1.c2
      go_wp2
      go_end0
      exact ⟨rfl, HK.out⟩

end Go.Proofs.YtlfanbjpfoaipaaGreatDoor

namespace Go.Proofs.YtlfanbjpfoaipaaGreatDoor
open Go Go.Proofs Go.RowKit Go.Shelf Nu

attribute [local go_sem] Oper.semAt_some

section
variable (w : World) (base B h n N cap : Nat) (A : Nat → Option Addr) (L C M : Nat → Nat) (G : Nat → Value)
def LookO (W : World) : Prop :=
  BookAt W B n (.slice (some ⟨h, 0, none⟩) N cap) ∧ HAt W h N (fun j => .slice (A j) (L j) (C j)) G M ∧ Below base w W ∧ base ≤ W.heap.size ∧
    ∀ j, j < N → Reads W (.slice (A j) (L j) (C j)) (List.replicate (L j) (1000 + M j)) ∧ Reads W (G j) (List.replicate (L j + 40) (1000 + M j))
end
section
variable {w W : World} {base B h n N cap S0 : Nat} {A : Nat → Option Addr} {L C M : Nat → Nat} {G : Nat → Value}
theorem LookO.of (D : Lies base B h N A L C M) (F : GrowO w base B h n N cap A L C M S0 N W) : ∃ G, LookO w base B h n N cap A L C M G W := by
  obtain ⟨G, _, h1, h2, h3, h4, h5, _, h7⟩ := F
  have hs : base ≤ W.heap.size := Nat.le_trans D.base (Nat.le_of_lt h1.lt)
  exact ⟨G, h1, h2, h3, hs, fun j hj => ⟨h5 j hj, (h7 j hj hj).1.reads⟩⟩
theorem LookO.alloc (F : LookO w base B h n N cap A L C M G W) (o : Obj) : LookO w base B h n N cap A L C M G (W.alloc o) := by
  obtain ⟨h1, h2, h3, h4, h5⟩ := F
  have hb : Below W.heap.size W (W.alloc o) := (Below.refl _ _).alloc (Nat.le_refl _) o
  exact ⟨h1.alloc o, h2.kept (World.grownBy_alloc W o none) (by simp), h3.alloc h4 o, by simp; omega, fun j hj => ⟨(h5 j hj).1.below hb, (h5 j hj).2.below hb⟩⟩
theorem LookO.drewN (F : LookO w base B h n N cap A L C M G W) (m : Nat) : LookO w base B h n N cap A L C M G (W.drewN m) := by
  obtain ⟨h1, h2, h3, h4, h5⟩ := F
  exact ⟨h1, h2, ⟨h3.os, h3.tape, h3.output, h3.size, h3.block⟩, h4, h5⟩
theorem getD_rep (K m j : Nat) (hj : j < K) : (List.replicate K m).getD j 0 = m := by
  rw [List.getD_eq_getElem?_getD, List.getElem?_replicate, if_pos hj]; rfl
end

set_option maxRecDepth 100000 in
set_option maxHeartbeats 2000000 in
theorem look_any {w W : World} {base B h n N cap : Nat} {A : Nat → Option Addr} {L C M : Nat → Nat} {G : Nat → Value} (D : Lies base B h N A L C M) (hN : N ≤ cap) (F : LookO w base B h n N cap A L C M G W) :
    Calls Tryz.prog 99 #[.pointer (some ⟨B, 0, none⟩)] W fun e w' => e = .returned (.bool true) ∧ LookO w base B h n N cap A L C M G w' := by
  have hD := Lib.hid D
  have hF := Lib.hid F
  have hfew := D.few
  clear D F
  go_enter Tryz.func99, Tryz.ntmps99
  go_wp2
  go_loopg [3] N (fun g s wr => ∃ i : Nat, i + g = N ∧ s = .int .i64 (i : Int) ∧ Hid (LookO w base B h n N cap A L C M G wr))
  case atStart => exact ⟨0, by omega, rfl, hF⟩
  case round =>
    obtain ⟨i, hi, rfl, HK⟩ := hrel
    have r1 := HK.out.1.c2
    by_cases hlt : i < N
    · obtain ⟨c0, c1, c2⟩ := HK.out.2.1.2 i hlt
      have hbs := HK.out.1.lt
      dsimp only at c0
      have hLi := (hD.out).len i hlt
      have hMi := (hD.out).num i hlt
      obtain ⟨K1, hK1⟩ : ∃ K1, K1 = L i + 40 := ⟨_, rfl⟩
      have hK2 : (L i : Int) + 40 = (K1 : Int) := by omega
      obtain ⟨a1, p1, e1⟩ := (HK.out.2.2.2.2 i hlt).2.form
      rw [List.length_replicate, ← hK1] at e1
      rw [e1] at c1
      have HK1 := Lib.hid hK1
      have E1 := Lib.hid e1
      have hHB := Lib.hid (HBox.new wr (.slice (A i) (L i) (C i)) (.slice a1 K1 p1) (M i))
      have hFA := Lib.hid (HK.out.alloc (.cells #[.slice (A i) (L i) (C i), .slice a1 K1 p1, .int .i64 (M i : Int)] 129))
      clear hK1 e1
      go_wp2
      obtain ⟨hb, hhb⟩ : ∃ hb, hb = wr.heap.size := ⟨_, rfl⟩
      rw [← hhb] at hHB hbs ⊢
      obtain ⟨wo, hwo⟩ : ∃ wo, wo = wr.alloc (.cells #[.slice (A i) (L i) (C i), .slice a1 K1 p1, .int .i64 (M i : Int)] 129) := ⟨_, rfl⟩
      rw [← hwo] at hHB hFA ⊢
      have q0 := hHB.out.c0
      have q1 := hHB.out.c1
      clear hwo hhb HK r1 c0 c1 c2
      go_wp2
      clear q0 q1
      go_loopg [5] K1 (fun g s wy => ∃ k : Nat, k + g = K1 ∧ s = .int .i64 (k : Int) ∧ Hid (LookO w base B h n N cap A L C M G wy) ∧ Hid (HBox wy hb (.slice (A i) (L i) (C i)) (.slice a1 K1 p1) (M i)))
      case atStart => exact ⟨0, by omega, rfl, hFA, hHB⟩
      case round =>
        obtain ⟨k, hk, rfl, HF, HB⟩ := hrel
        have q0 := HB.out.c0
        have q1 := HB.out.c1
        have q2 := HB.out.c2
        by_cases hkl : k < K1
        · obtain ⟨mk, hmk⟩ : ∃ mk, mk = 1000 + M i := ⟨_, rfl⟩
          have kI := fun W => is_any (M i) hMi W
          rw [← hmk] at kI
          have kJ := fun W => unflip (kI W)
          have hr1 := (HF.out.2.2.2.2 i hlt).1
          have hr2 := (HF.out.2.2.2.2 i hlt).2
          rw [← hmk] at hr1 hr2
          rw [E1.out, ← HK1.out] at hr2
          obtain ⟨b2, o2, ha2, hc2⟩ := hr2.addr
          have s2 := hc2 k (by rw [List.length_replicate]; omega)
          rw [getD_rep _ _ _ hkl] at s2
          have ea2 := (ha2 (by rw [List.length_replicate]; omega)).1
          subst ea2
          clear hmk hr2 ha2 hc2
          by_cases hkL : k < L i
          · obtain ⟨b1, o1, ha1, hc1⟩ := hr1.addr
            have s1 := hc1 k (by rw [List.length_replicate]; omega)
            rw [getD_rep _ _ _ hkL] at s1
            have ea1 := (ha1 (by rw [List.length_replicate]; omega)).1
            rw [ea1] at q0
            clear hr1 ha1 hc1 ea1
            have hg1 : decide ((k : Int) < (L i : Int)) = true := by simp; omega
            go_wp2
            go_quiet ((go_at_call 174; exact Calls.quiet_of_same (kJ _)))
            go_wp2
            go_roundg (K1 - (k + 1))
            case measure => omega
            case rel => exact ⟨k + 1, by omega, by simp, Lib.hid (HF.out.drewN _), Lib.hid (show HBox _ _ _ _ _ from HB.out)⟩
          · have hg1 : decide ((k : Int) < (L i : Int)) = false := by simp; omega
            clear hr1
            go_wp2
            go_quiet ((go_at_call 174; exact Calls.quiet_of_same (kJ _)))
            go_wp2
            go_roundg (K1 - (k + 1))
            case measure => omega
            case rel => exact ⟨k + 1, by omega, by simp, Lib.hid (HF.out.drewN _), Lib.hid (show HBox _ _ _ _ _ from HB.out)⟩
        · obtain rfl : k = K1 := by omega
          go_wp2
          go_roundg (N - (i + 1))
          case measure => omega
          case rel => exact ⟨i + 1, by omega, by simp, HF⟩
    · obtain rfl : i = N := by omega
      go_wp2
      go_ret
      exact ⟨rfl, HK.out⟩

end Go.Proofs.YtlfanbjpfoaipaaGreatDoor

namespace Go.Proofs.YtlfanbjpfoaipaaGreatDoor
open Go Go.Proofs Go.RowKit Go.Shelf Nu

attribute [local go_sem] Oper.semAt_some

section
variable {W : World} {B n : Nat} {v : Value}
set_option maxHeartbeats 400000 in
theorem bk_fillByte (h : BookAt W B n v) : Calls Tryz.prog 74 #[.pointer (some ⟨B, 0, none⟩)] W fun e w' => e = .returned (.tuple #[]) ∧ W = w' := by
  have r1 := h.cell 1 (.slice none 0 0) rfl
  have r2 := h.lt
  clear h
  go_enter Tryz.func74, Tryz.ntmps74
  go_wp2
  go_loop [2] (fun s => s = .int .i64 0) (fun _ => 0)
  case atStart => rfl
  case round =>
    subst hrel
    go_wp2
    go_end0
    exact ⟨rfl, rfl⟩
set_option maxHeartbeats 400000 in
theorem bk_growByte (h : BookAt W B n v) : Calls Tryz.prog 86 #[.pointer (some ⟨B, 0, none⟩)] W fun e w' => e = .returned (.tuple #[]) ∧ W = w' := by
  have r1 := h.cell 1 (.slice none 0 0) rfl
  have r2 := h.lt
  clear h
  go_enter Tryz.func86, Tryz.ntmps86
  go_wp2
  go_loop [2] (fun s => s = .int .i64 0) (fun _ => 0)
  case atStart => rfl
  case round =>
    subst hrel
    go_wp2
    go_end0
    exact ⟨rfl, rfl⟩
set_option maxHeartbeats 400000 in
theorem bk_lookByte (h : BookAt W B n v) : Calls Tryz.prog 98 #[.pointer (some ⟨B, 0, none⟩)] W fun e w' => e = .returned (.bool true) ∧ W = w' := by
  have r1 := h.cell 1 (.slice none 0 0) rfl
  have r2 := h.lt
  clear h
  go_enter Tryz.func98, Tryz.ntmps98
  go_wp2
  go_loop [3] (fun s => s = .int .i64 0) (fun _ => 0)
  case atStart => rfl
  case round =>
    subst hrel
    go_wp2
    go_ret
    exact ⟨rfl, rfl⟩
set_option maxHeartbeats 400000 in
theorem bk_fillNum (h : BookAt W B n v) : Calls Tryz.prog 76 #[.pointer (some ⟨B, 0, none⟩)] W fun e w' => e = .returned (.tuple #[]) ∧ W = w' := by
  have r1 := h.cell 3 (.slice none 0 0) rfl
  have r2 := h.lt
  clear h
  go_enter Tryz.func76, Tryz.ntmps76
  go_wp2
  go_loop [2] (fun s => s = .int .i64 0) (fun _ => 0)
  case atStart => rfl
  case round =>
    subst hrel
    go_wp2
    go_end0
    exact ⟨rfl, rfl⟩
set_option maxHeartbeats 400000 in
theorem bk_growNum (h : BookAt W B n v) : Calls Tryz.prog 88 #[.pointer (some ⟨B, 0, none⟩)] W fun e w' => e = .returned (.tuple #[]) ∧ W = w' := by
  have r1 := h.cell 3 (.slice none 0 0) rfl
  have r2 := h.lt
  clear h
  go_enter Tryz.func88, Tryz.ntmps88
  go_wp2
  go_loop [2] (fun s => s = .int .i64 0) (fun _ => 0)
  case atStart => rfl
  case round =>
    subst hrel
    go_wp2
    go_end0
    exact ⟨rfl, rfl⟩
set_option maxHeartbeats 400000 in
theorem bk_lookNum (h : BookAt W B n v) : Calls Tryz.prog 100 #[.pointer (some ⟨B, 0, none⟩)] W fun e w' => e = .returned (.bool true) ∧ W = w' := by
  have r1 := h.cell 3 (.slice none 0 0) rfl
  have r2 := h.lt
  clear h
  go_enter Tryz.func100, Tryz.ntmps100
  go_wp2
  go_loop [3] (fun s => s = .int .i64 0) (fun _ => 0)
  case atStart => rfl
  case round =>
    subst hrel
    go_wp2
    go_ret
    exact ⟨rfl, rfl⟩
set_option maxHeartbeats 400000 in
theorem bk_fillBool (h : BookAt W B n v) : Calls Tryz.prog 77 #[.pointer (some ⟨B, 0, none⟩)] W fun e w' => e = .returned (.tuple #[]) ∧ W = w' := by
  have r1 := h.cell 4 (.slice none 0 0) rfl
  have r2 := h.lt
  clear h
  go_enter Tryz.func77, Tryz.ntmps77
  go_wp2
  go_loop [2] (fun s => s = .int .i64 0) (fun _ => 0)
  case atStart => rfl
  case round =>
    subst hrel
    go_wp2
    go_end0
    exact ⟨rfl, rfl⟩
set_option maxHeartbeats 400000 in
theorem bk_growBool (h : BookAt W B n v) : Calls Tryz.prog 89 #[.pointer (some ⟨B, 0, none⟩)] W fun e w' => e = .returned (.tuple #[]) ∧ W = w' := by
  have r1 := h.cell 4 (.slice none 0 0) rfl
  have r2 := h.lt
  clear h
  go_enter Tryz.func89, Tryz.ntmps89
  go_wp2
  go_loop [2] (fun s => s = .int .i64 0) (fun _ => 0)
  case atStart => rfl
  case round =>
    subst hrel
    go_wp2
    go_end0
    exact ⟨rfl, rfl⟩
set_option maxHeartbeats 400000 in
theorem bk_lookBool (h : BookAt W B n v) : Calls Tryz.prog 101 #[.pointer (some ⟨B, 0, none⟩)] W fun e w' => e = .returned (.bool true) ∧ W = w' := by
  have r1 := h.cell 4 (.slice none 0 0) rfl
  have r2 := h.lt
  clear h
  go_enter Tryz.func101, Tryz.ntmps101
  go_wp2
  go_loop [3] (fun s => s = .int .i64 0) (fun _ => 0)
  case atStart => rfl
  case round =>
    subst hrel
    go_wp2
    go_ret
    exact ⟨rfl, rfl⟩
set_option maxHeartbeats 400000 in
theorem bk_fillText (h : BookAt W B n v) : Calls Tryz.prog 78 #[.pointer (some ⟨B, 0, none⟩)] W fun e w' => e = .returned (.tuple #[]) ∧ W = w' := by
  have r1 := h.cell 5 (.slice none 0 0) rfl
  have r2 := h.lt
  clear h
  go_enter Tryz.func78, Tryz.ntmps78
  go_wp2
  go_loop [2] (fun s => s = .int .i64 0) (fun _ => 0)
  case atStart => rfl
  case round =>
    subst hrel
    go_wp2
    go_end0
    exact ⟨rfl, rfl⟩
set_option maxHeartbeats 400000 in
theorem bk_growText (h : BookAt W B n v) : Calls Tryz.prog 90 #[.pointer (some ⟨B, 0, none⟩)] W fun e w' => e = .returned (.tuple #[]) ∧ W = w' := by
  have r1 := h.cell 5 (.slice none 0 0) rfl
  have r2 := h.lt
  clear h
  go_enter Tryz.func90, Tryz.ntmps90
  go_wp2
  go_loop [2] (fun s => s = .int .i64 0) (fun _ => 0)
  case atStart => rfl
  case round =>
    subst hrel
    go_wp2
    go_end0
    exact ⟨rfl, rfl⟩
set_option maxHeartbeats 400000 in
theorem bk_lookText (h : BookAt W B n v) : Calls Tryz.prog 102 #[.pointer (some ⟨B, 0, none⟩)] W fun e w' => e = .returned (.bool true) ∧ W = w' := by
  have r1 := h.cell 5 (.slice none 0 0) rfl
  have r2 := h.lt
  clear h
  go_enter Tryz.func102, Tryz.ntmps102
  go_wp2
  go_loop [3] (fun s => s = .int .i64 0) (fun _ => 0)
  case atStart => rfl
  case round =>
    subst hrel
    go_wp2
    go_ret
    exact ⟨rfl, rfl⟩
set_option maxHeartbeats 400000 in
theorem bk_fillToken (h : BookAt W B n v) : Calls Tryz.prog 79 #[.pointer (some ⟨B, 0, none⟩)] W fun e w' => e = .returned (.tuple #[]) ∧ W = w' := by
  have r1 := h.cell 6 (.slice none 0 0) rfl
  have r2 := h.lt
  clear h
  go_enter Tryz.func79, Tryz.ntmps79
  go_wp2
  go_loop [2] (fun s => s = .int .i64 0) (fun _ => 0)
  case atStart => rfl
  case round =>
    subst hrel
    go_wp2
    go_end0
    exact ⟨rfl, rfl⟩
set_option maxHeartbeats 400000 in
theorem bk_growToken (h : BookAt W B n v) : Calls Tryz.prog 91 #[.pointer (some ⟨B, 0, none⟩)] W fun e w' => e = .returned (.tuple #[]) ∧ W = w' := by
  have r1 := h.cell 6 (.slice none 0 0) rfl
  have r2 := h.lt
  clear h
  go_enter Tryz.func91, Tryz.ntmps91
  go_wp2
  go_loop [2] (fun s => s = .int .i64 0) (fun _ => 0)
  case atStart => rfl
  case round =>
    subst hrel
    go_wp2
    go_end0
    exact ⟨rfl, rfl⟩
set_option maxHeartbeats 400000 in
theorem bk_lookToken (h : BookAt W B n v) : Calls Tryz.prog 103 #[.pointer (some ⟨B, 0, none⟩)] W fun e w' => e = .returned (.bool true) ∧ W = w' := by
  have r1 := h.cell 6 (.slice none 0 0) rfl
  have r2 := h.lt
  clear h
  go_enter Tryz.func103, Tryz.ntmps103
  go_wp2
  go_loop [3] (fun s => s = .int .i64 0) (fun _ => 0)
  case atStart => rfl
  case round =>
    subst hrel
    go_wp2
    go_ret
    exact ⟨rfl, rfl⟩
set_option maxHeartbeats 400000 in
theorem bk_fillTenant (h : BookAt W B n v) : Calls Tryz.prog 80 #[.pointer (some ⟨B, 0, none⟩)] W fun e w' => e = .returned (.tuple #[]) ∧ W = w' := by
  have r1 := h.cell 7 (.slice none 0 0) rfl
  have r2 := h.lt
  clear h
  go_enter Tryz.func80, Tryz.ntmps80
  go_wp2
  go_loop [2] (fun s => s = .int .i64 0) (fun _ => 0)
  case atStart => rfl
  case round =>
    subst hrel
    go_wp2
    go_end0
    exact ⟨rfl, rfl⟩
set_option maxHeartbeats 400000 in
theorem bk_growTenant (h : BookAt W B n v) : Calls Tryz.prog 92 #[.pointer (some ⟨B, 0, none⟩)] W fun e w' => e = .returned (.tuple #[]) ∧ W = w' := by
  have r1 := h.cell 7 (.slice none 0 0) rfl
  have r2 := h.lt
  clear h
  go_enter Tryz.func92, Tryz.ntmps92
  go_wp2
  go_loop [2] (fun s => s = .int .i64 0) (fun _ => 0)
  case atStart => rfl
  case round =>
    subst hrel
    go_wp2
    go_end0
    exact ⟨rfl, rfl⟩
set_option maxHeartbeats 400000 in
theorem bk_lookTenant (h : BookAt W B n v) : Calls Tryz.prog 104 #[.pointer (some ⟨B, 0, none⟩)] W fun e w' => e = .returned (.bool true) ∧ W = w' := by
  have r1 := h.cell 7 (.slice none 0 0) rfl
  have r2 := h.lt
  clear h
  go_enter Tryz.func104, Tryz.ntmps104
  go_wp2
  go_loop [3] (fun s => s = .int .i64 0) (fun _ => 0)
  case atStart => rfl
  case round =>
    subst hrel
    go_wp2
    go_ret
    exact ⟨rfl, rfl⟩
set_option maxHeartbeats 400000 in
theorem bk_fillRat (h : BookAt W B n v) : Calls Tryz.prog 81 #[.pointer (some ⟨B, 0, none⟩)] W fun e w' => e = .returned (.tuple #[]) ∧ W = w' := by
  have r1 := h.cell 8 (.slice none 0 0) rfl
  have r2 := h.lt
  clear h
  go_enter Tryz.func81, Tryz.ntmps81
  go_wp2
  go_loop [2] (fun s => s = .int .i64 0) (fun _ => 0)
  case atStart => rfl
  case round =>
    subst hrel
    go_wp2
    go_end0
    exact ⟨rfl, rfl⟩
set_option maxHeartbeats 400000 in
theorem bk_growRat (h : BookAt W B n v) : Calls Tryz.prog 93 #[.pointer (some ⟨B, 0, none⟩)] W fun e w' => e = .returned (.tuple #[]) ∧ W = w' := by
  have r1 := h.cell 8 (.slice none 0 0) rfl
  have r2 := h.lt
  clear h
  go_enter Tryz.func93, Tryz.ntmps93
  go_wp2
  go_loop [2] (fun s => s = .int .i64 0) (fun _ => 0)
  case atStart => rfl
  case round =>
    subst hrel
    go_wp2
    go_end0
    exact ⟨rfl, rfl⟩
set_option maxHeartbeats 400000 in
theorem bk_lookRat (h : BookAt W B n v) : Calls Tryz.prog 105 #[.pointer (some ⟨B, 0, none⟩)] W fun e w' => e = .returned (.bool true) ∧ W = w' := by
  have r1 := h.cell 8 (.slice none 0 0) rfl
  have r2 := h.lt
  clear h
  go_enter Tryz.func105, Tryz.ntmps105
  go_wp2
  go_loop [3] (fun s => s = .int .i64 0) (fun _ => 0)
  case atStart => rfl
  case round =>
    subst hrel
    go_wp2
    go_ret
    exact ⟨rfl, rfl⟩
set_option maxHeartbeats 400000 in
theorem bk_fillVar (h : BookAt W B n v) : Calls Tryz.prog 82 #[.pointer (some ⟨B, 0, none⟩)] W fun e w' => e = .returned (.tuple #[]) ∧ W = w' := by
  have r1 := h.cell 9 (.slice none 0 0) rfl
  have r2 := h.lt
  clear h
  go_enter Tryz.func82, Tryz.ntmps82
  go_wp2
  go_loop [2] (fun s => s = .int .i64 0) (fun _ => 0)
  case atStart => rfl
  case round =>
    subst hrel
    go_wp2
    go_end0
    exact ⟨rfl, rfl⟩
set_option maxHeartbeats 400000 in
theorem bk_growVar (h : BookAt W B n v) : Calls Tryz.prog 94 #[.pointer (some ⟨B, 0, none⟩)] W fun e w' => e = .returned (.tuple #[]) ∧ W = w' := by
  have r1 := h.cell 9 (.slice none 0 0) rfl
  have r2 := h.lt
  clear h
  go_enter Tryz.func94, Tryz.ntmps94
  go_wp2
  go_loop [2] (fun s => s = .int .i64 0) (fun _ => 0)
  case atStart => rfl
  case round =>
    subst hrel
    go_wp2
    go_end0
    exact ⟨rfl, rfl⟩
set_option maxHeartbeats 400000 in
theorem bk_lookVar (h : BookAt W B n v) : Calls Tryz.prog 106 #[.pointer (some ⟨B, 0, none⟩)] W fun e w' => e = .returned (.bool true) ∧ W = w' := by
  have r1 := h.cell 9 (.slice none 0 0) rfl
  have r2 := h.lt
  clear h
  go_enter Tryz.func106, Tryz.ntmps106
  go_wp2
  go_loop [3] (fun s => s = .int .i64 0) (fun _ => 0)
  case atStart => rfl
  case round =>
    subst hrel
    go_wp2
    go_ret
    exact ⟨rfl, rfl⟩
set_option maxHeartbeats 400000 in
theorem bk_fillRow (h : BookAt W B n v) : Calls Tryz.prog 83 #[.pointer (some ⟨B, 0, none⟩)] W fun e w' => e = .returned (.tuple #[]) ∧ W = w' := by
  have r1 := h.cell 10 (.slice none 0 0) rfl
  have r2 := h.lt
  clear h
  go_enter Tryz.func83, Tryz.ntmps83
  go_wp2
  go_loop [2] (fun s => s = .int .i64 0) (fun _ => 0)
  case atStart => rfl
  case round =>
    subst hrel
    go_wp2
    go_end0
    exact ⟨rfl, rfl⟩
set_option maxHeartbeats 400000 in
theorem bk_growRow (h : BookAt W B n v) : Calls Tryz.prog 95 #[.pointer (some ⟨B, 0, none⟩)] W fun e w' => e = .returned (.tuple #[]) ∧ W = w' := by
  have r1 := h.cell 10 (.slice none 0 0) rfl
  have r2 := h.lt
  clear h
  go_enter Tryz.func95, Tryz.ntmps95
  go_wp2
  go_loop [2] (fun s => s = .int .i64 0) (fun _ => 0)
  case atStart => rfl
  case round =>
    subst hrel
    go_wp2
    go_end0
    exact ⟨rfl, rfl⟩
set_option maxHeartbeats 400000 in
theorem bk_lookRow (h : BookAt W B n v) : Calls Tryz.prog 107 #[.pointer (some ⟨B, 0, none⟩)] W fun e w' => e = .returned (.bool true) ∧ W = w' := by
  have r1 := h.cell 10 (.slice none 0 0) rfl
  have r2 := h.lt
  clear h
  go_enter Tryz.func107, Tryz.ntmps107
  go_wp2
  go_loop [3] (fun s => s = .int .i64 0) (fun _ => 0)
  case atStart => rfl
  case round =>
    subst hrel
    go_wp2
    go_ret
    exact ⟨rfl, rfl⟩
set_option maxHeartbeats 400000 in
theorem bk_fillNode (h : BookAt W B n v) : Calls Tryz.prog 84 #[.pointer (some ⟨B, 0, none⟩)] W fun e w' => e = .returned (.tuple #[]) ∧ W = w' := by
  have r1 := h.cell 11 (.slice none 0 0) rfl
  have r2 := h.lt
  clear h
  go_enter Tryz.func84, Tryz.ntmps84
  go_wp2
  go_loop [2] (fun s => s = .int .i64 0) (fun _ => 0)
  case atStart => rfl
  case round =>
    subst hrel
    go_wp2
    go_end0
    exact ⟨rfl, rfl⟩
set_option maxHeartbeats 400000 in
theorem bk_growNode (h : BookAt W B n v) : Calls Tryz.prog 96 #[.pointer (some ⟨B, 0, none⟩)] W fun e w' => e = .returned (.tuple #[]) ∧ W = w' := by
  have r1 := h.cell 11 (.slice none 0 0) rfl
  have r2 := h.lt
  clear h
  go_enter Tryz.func96, Tryz.ntmps96
  go_wp2
  go_loop [2] (fun s => s = .int .i64 0) (fun _ => 0)
  case atStart => rfl
  case round =>
    subst hrel
    go_wp2
    go_end0
    exact ⟨rfl, rfl⟩
set_option maxHeartbeats 400000 in
theorem bk_lookNode (h : BookAt W B n v) : Calls Tryz.prog 108 #[.pointer (some ⟨B, 0, none⟩)] W fun e w' => e = .returned (.bool true) ∧ W = w' := by
  have r1 := h.cell 11 (.slice none 0 0) rfl
  have r2 := h.lt
  clear h
  go_enter Tryz.func108, Tryz.ntmps108
  go_wp2
  go_loop [3] (fun s => s = .int .i64 0) (fun _ => 0)
  case atStart => rfl
  case round =>
    subst hrel
    go_wp2
    go_ret
    exact ⟨rfl, rfl⟩
set_option maxHeartbeats 400000 in
theorem bk_fillJob (h : BookAt W B n v) : Calls Tryz.prog 85 #[.pointer (some ⟨B, 0, none⟩)] W fun e w' => e = .returned (.tuple #[]) ∧ W = w' := by
  have r1 := h.cell 12 (.slice none 0 0) rfl
  have r2 := h.lt
  clear h
  go_enter Tryz.func85, Tryz.ntmps85
  go_wp2
  go_loop [2] (fun s => s = .int .i64 0) (fun _ => 0)
  case atStart => rfl
  case round =>
    subst hrel
    go_wp2
    go_end0
    exact ⟨rfl, rfl⟩
set_option maxHeartbeats 400000 in
theorem bk_growJob (h : BookAt W B n v) : Calls Tryz.prog 97 #[.pointer (some ⟨B, 0, none⟩)] W fun e w' => e = .returned (.tuple #[]) ∧ W = w' := by
  have r1 := h.cell 12 (.slice none 0 0) rfl
  have r2 := h.lt
  clear h
  go_enter Tryz.func97, Tryz.ntmps97
  go_wp2
  go_loop [2] (fun s => s = .int .i64 0) (fun _ => 0)
  case atStart => rfl
  case round =>
    subst hrel
    go_wp2
    go_end0
    exact ⟨rfl, rfl⟩
set_option maxHeartbeats 400000 in
theorem bk_lookJob (h : BookAt W B n v) : Calls Tryz.prog 109 #[.pointer (some ⟨B, 0, none⟩)] W fun e w' => e = .returned (.bool true) ∧ W = w' := by
  have r1 := h.cell 12 (.slice none 0 0) rfl
  have r2 := h.lt
  clear h
  go_enter Tryz.func109, Tryz.ntmps109
  go_wp2
  go_loop [3] (fun s => s = .int .i64 0) (fun _ => 0)
  case atStart => rfl
  case round =>
    subst hrel
    go_wp2
    go_ret
    exact ⟨rfl, rfl⟩
end

end Go.Proofs.YtlfanbjpfoaipaaGreatDoor

namespace Go.Proofs.YtlfanbjpfoaipaaGreatDoor
open Go Go.Proofs Go.RowKit Go.Shelf Nu

attribute [local go_sem] Oper.semAt_some

set_option maxRecDepth 100000 in
set_option maxHeartbeats 2000000 in
theorem apart_at {w W : World} {base B h n N cap : Nat} {A : Nat → Option Addr} {L C M : Nat → Nat} (D : Lies base B h N A L C M) (hN : N ≤ cap) (F : FillK w base B h n N cap A L C M 0 0 W) (hh : h < W.heap.size) :
    Calls Tryz.prog 15 #[.pointer (some ⟨B, 0, none⟩)] W fun e w' => e = .returned (.bool true) ∧ Below base w w' := by
  have hD := Lib.hid D
  have hF := Lib.hid F
  have b0 := Lib.hid F.1
  have hFo := Lib.hid F.forms
  have HH := Lib.hid hh
  clear D F hh
  go_enter Tryz.func15, Tryz.ntmps15
  go_wp2_with (go_loud (first
    | (go_at_call 74; refine (bk_fillByte b0.out).mono ?_; rintro e w' ⟨rfl, rfl⟩)
    | (go_at_call 75; refine (fill_any hD.out hN hF.out).mono ?_; rintro e w1 ⟨rfl, q1⟩; have hF1 := Lib.hid q1; have b1 := Lib.hid q1.1; have G1 := Lib.hid (GrowO.start q1); have H1 := Lib.hid q1.2.1.lt; clear q1 hF hFo; have hFo := Lib.hid hF1.out.forms)
    | (go_at_call 76; refine (bk_fillNum b1.out).mono ?_; rintro e w' ⟨rfl, rfl⟩)
    | (go_at_call 77; refine (bk_fillBool b1.out).mono ?_; rintro e w' ⟨rfl, rfl⟩)
    | (go_at_call 78; refine (bk_fillText b1.out).mono ?_; rintro e w' ⟨rfl, rfl⟩)
    | (go_at_call 79; refine (bk_fillToken b1.out).mono ?_; rintro e w' ⟨rfl, rfl⟩)
    | (go_at_call 80; refine (bk_fillTenant b1.out).mono ?_; rintro e w' ⟨rfl, rfl⟩)
    | (go_at_call 81; refine (bk_fillRat b1.out).mono ?_; rintro e w' ⟨rfl, rfl⟩)
    | (go_at_call 82; refine (bk_fillVar b1.out).mono ?_; rintro e w' ⟨rfl, rfl⟩)
    | (go_at_call 83; refine (bk_fillRow b1.out).mono ?_; rintro e w' ⟨rfl, rfl⟩)
    | (go_at_call 84; refine (bk_fillNode b1.out).mono ?_; rintro e w' ⟨rfl, rfl⟩)
    | (go_at_call 85; refine (bk_fillJob b1.out).mono ?_; rintro e w' ⟨rfl, rfl⟩)
    | (go_at_call 86; refine (bk_growByte b1.out).mono ?_; rintro e w' ⟨rfl, rfl⟩)
    | (go_at_call 87; refine (grow_any hD.out hFo.out hN H1.out G1.out).mono ?_; rintro e w2 ⟨rfl, q2⟩; have q3 := LookO.of hD.out q2; clear q2; obtain ⟨G, q3⟩ := q3; have L2 := Lib.hid q3; have b2 := Lib.hid q3.1; clear q3)
    | (go_at_call 88; refine (bk_growNum b2.out).mono ?_; rintro e w' ⟨rfl, rfl⟩)
    | (go_at_call 89; refine (bk_growBool b2.out).mono ?_; rintro e w' ⟨rfl, rfl⟩)
    | (go_at_call 90; refine (bk_growText b2.out).mono ?_; rintro e w' ⟨rfl, rfl⟩)
    | (go_at_call 91; refine (bk_growToken b2.out).mono ?_; rintro e w' ⟨rfl, rfl⟩)
    | (go_at_call 92; refine (bk_growTenant b2.out).mono ?_; rintro e w' ⟨rfl, rfl⟩)
    | (go_at_call 93; refine (bk_growRat b2.out).mono ?_; rintro e w' ⟨rfl, rfl⟩)
    | (go_at_call 94; refine (bk_growVar b2.out).mono ?_; rintro e w' ⟨rfl, rfl⟩)
    | (go_at_call 95; refine (bk_growRow b2.out).mono ?_; rintro e w' ⟨rfl, rfl⟩)
    | (go_at_call 96; refine (bk_growNode b2.out).mono ?_; rintro e w' ⟨rfl, rfl⟩)
    | (go_at_call 97; refine (bk_growJob b2.out).mono ?_; rintro e w' ⟨rfl, rfl⟩)
    | (go_at_call 98; refine (bk_lookByte b2.out).mono ?_; rintro e w' ⟨rfl, rfl⟩)
    | (go_at_call 99; refine (look_any hD.out hN L2.out).mono ?_; rintro e w3 ⟨rfl, q4⟩; have L3 := Lib.hid q4; have b3 := Lib.hid q4.1; clear q4)
    | (go_at_call 100; refine (bk_lookNum b3.out).mono ?_; rintro e w' ⟨rfl, rfl⟩)
    | (go_at_call 101; refine (bk_lookBool b3.out).mono ?_; rintro e w' ⟨rfl, rfl⟩)
    | (go_at_call 102; refine (bk_lookText b3.out).mono ?_; rintro e w' ⟨rfl, rfl⟩)
    | (go_at_call 103; refine (bk_lookToken b3.out).mono ?_; rintro e w' ⟨rfl, rfl⟩)
    | (go_at_call 104; refine (bk_lookTenant b3.out).mono ?_; rintro e w' ⟨rfl, rfl⟩)
    | (go_at_call 105; refine (bk_lookRat b3.out).mono ?_; rintro e w' ⟨rfl, rfl⟩)
    | (go_at_call 106; refine (bk_lookVar b3.out).mono ?_; rintro e w' ⟨rfl, rfl⟩)
    | (go_at_call 107; refine (bk_lookRow b3.out).mono ?_; rintro e w' ⟨rfl, rfl⟩)
    | (go_at_call 108; refine (bk_lookNode b3.out).mono ?_; rintro e w' ⟨rfl, rfl⟩)
    | (go_at_call 109; refine (bk_lookJob b3.out).mono ?_; rintro e w' ⟨rfl, rfl⟩)))
  go_ret
  exact ⟨rfl, L3.out.2.2.1⟩

/-- what the call answers of a book that was told of lists that lie apart -/
theorem apart_any {w W : World} {base B n : Nat} {hv : Value} {es : List (Value × Nat)} (hB : BookAt W B n hv) (hr : HRow W (B + 1) hv es) (hne : es ≠ []) (hl : es.length ≤ 100000) (hb : base ≤ B) (hw : Below base w W)
    (hn : ∀ e ∈ es, e.2 ≤ 1000000) (hown : ∀ e ∈ es, ∃ l : List Nat, l.length ≤ 100000 ∧ Fresh W base e.1 l ∧ ∀ g, e.1.ownBlock = some g → g < B)
    (hdis : es.Pairwise fun x y => x.1.ownBlock = none ∨ x.1.ownBlock ≠ y.1.ownBlock) :
    Calls Tryz.prog 15 #[.pointer (some ⟨B, 0, none⟩)] W fun e w' => e = .returned (.bool true) ∧ Below base w w' := by
  obtain ⟨h, cap, rfl, hBh, hcap, hat⟩ := hr.at hne
  let V : Nat → Value := fun j => (es.getD j (.slice none 0 0, 0)).1
  let M : Nat → Nat := fun j => (es.getD j (.slice none 0 0, 0)).2
  have hget : ∀ j (hj : j < es.length), es.getD j (.slice none 0 0, 0) = es[j] := fun j hj => by rw [List.getD_eq_getElem?_getD, List.getElem?_eq_getElem hj]; rfl
  have key : ∀ j, ∃ x : Option Addr × Nat × Nat, j < es.length → ∃ l : List Nat, V j = .slice x.1 x.2.1 x.2.2 ∧ l.length = x.2.1 ∧ x.2.1 ≤ 100000 ∧ Fresh W base (V j) l ∧ ∀ g, (V j).ownBlock = some g → g < B := by
    intro j
    by_cases hj : j < es.length
    · obtain ⟨l, h1, h2, h3⟩ := hown es[j] (List.getElem_mem hj)
      have e : V j = es[j].1 := by show (es.getD j _).1 = _; rw [hget j hj]
      obtain ⟨a, c, hf⟩ := h2.reads.form
      exact ⟨(a, l.length, c), fun _ => ⟨l, by rw [e]; exact hf, rfl, h1, by rw [e]; exact h2, by rw [e]; exact h3⟩⟩
    · exact ⟨(none, 0, 0), fun h => absurd h hj⟩
  obtain ⟨f, hf⟩ := Classical.axiomOfChoice key
  have hV : ∀ j, j < es.length → V j = .slice (f j).1 (f j).2.1 (f j).2.2 := fun j hj => (hf j hj).elim fun _ h => h.1
  have hsym : ∀ j k, j < es.length → k < es.length → j ≠ k → (V j).ownBlock = none ∨ (V j).ownBlock ≠ (V k).ownBlock := by
    intro j k hj hk hjk
    have e1 : V j = es[j].1 := by show (es.getD j _).1 = _; rw [hget j hj]
    have e2 : V k = es[k].1 := by show (es.getD k _).1 = _; rw [hget k hk]
    rw [e1, e2]
    rcases Nat.lt_or_gt_of_ne hjk with h1 | h1
    · exact List.pairwise_iff_getElem.1 hdis j k hj hk h1
    · have := List.pairwise_iff_getElem.1 hdis k j hk hj h1
      cases h2 : es[j].1.ownBlock with
      | none => exact .inl rfl
      | some g =>
        refine .inr (fun e3 => ?_)
        rcases this with h3 | h3
        · rw [h3] at e3; cases e3
        · rw [h2] at h3; exact h3 e3.symm
  refine apart_at (A := fun j => (f j).1) (L := fun j => (f j).2.1) (C := fun j => (f j).2.2) (M := M) (h := h) (n := n) (N := es.length) (cap := cap) ⟨hb, hBh, fun j g hj e => ?_, fun j k hj hk hjk => ?_, fun j hj => ?_, fun j hj => ?_, hl⟩ hcap ⟨hB, ⟨hat.1, fun j hj => ?_⟩, hw, fun j hj => ?_⟩ hat.lt
  · obtain ⟨l, _, _, _, _, h3⟩ := hf j hj
    exact h3 g (by rw [hV j hj]; exact e)
  · have := hsym j k hj hk hjk
    rwa [hV j hj, hV k hk] at this
  · obtain ⟨l, _, _, h2, _⟩ := hf j hj; exact h2
  · show (es.getD j _).2 ≤ _
    rw [hget j hj]
    exact hn _ (List.getElem_mem hj)
  · have := hat.2 j hj
    refine ⟨this.1.trans ?_, this.2⟩
    show some (V j) = _
    rw [hV j hj]
  · obtain ⟨l, _, h1, _, h2, _⟩ := hf j hj
    rw [hV j hj] at h2
    exact ⟨l, h1, h2, fun h => absurd h (Nat.not_lt_zero _), fun _ => rfl⟩

end Go.Proofs.YtlfanbjpfoaipaaGreatDoor

namespace Go.Proofs.YtlfanbjpfoaipaaGreatDoor
open Go Go.Proofs Go.RowKit Go.Shelf Nu

end Go.Proofs.YtlfanbjpfoaipaaGreatDoor
